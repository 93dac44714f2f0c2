import Derived.RangeFuncNested
import Derived.RangeFuncLeaves
import Derived.Test.YtmhghnbgllaihaaGreatDoorRows
import Derived.Test.YtmhghnbgllaihaaGreatDoorWholeMP1Z1
import Derived.LaidMore
import Derived.MakeChecks
import Derived.ProofKit
import Derived.OpenShut
import Derived.Stop.Joined
import Derived.Test.YtmhghnbgllaihaaGreatDoorSoLSP1Z1
import Derived.Shelf.Abstract
import Derived.WalkKit
import Derived.OwnWalkIn
import Derived.TacticsInMore
import Derived.LoopNIn
import Derived.LoopIn
import Derived.Sort.WalkA
import Derived.Outline
import Derived.Deep.DeepCutAuto
import Derived.Deep.LoopGhost
import Derived.Deep.MidRow

namespace Go.Proofs.YtmhghnbgllaihaaGreatDoor
open Go.RowKit
set_option linter.unusedVariables false
theorem keepsFrom_up {B B':Nat} {W W':World} (h:KeepsFrom B W W') (hB:B≤B'):KeepsFrom B' W W' :=
  ⟨h.size,fun k o hk=>h.same k o (Nat.le_trans hB hk)⟩
theorem keepsFrom_put {B l:Nat} {W:World} {o:Obj} (hl:l<B):KeepsFrom B W (W.putObj l o) :=
  ⟨by simp,fun k o' hk h0 _=>(World.putObj_heap_other (by omega)).trans h0⟩
theorem own_blk {β:Type} (b:Nat) {cs:Array Value} {t:TypeId} {fr:Nat×Nat} (D:Nat):OwnFrom D (fun(_:β) W=>W.heap[b]? = some (.cells cs t fr)):=fun _ X Y row hs hg hr=>by
  refine(hg.block b (Array.getElem?_eq_some_iff.1 hs).1 (fun e'=>?_)).trans hs
  obtain⟨_,o,ho,hc⟩:=hr b e'.symm
  rw[hs]at ho;cases ho;cases hc
theorem own_pure {β:Type} (B:Nat) (p:β→Prop):OwnFrom B (fun s (_:World)=>p s):=fun _ _ _ _ hs _ _=>hs
theorem ret_mark {n:Nat} {P:Program} {fn:Func} {R:Ending→World→Prop} {T:Array Value} {D:Nat} {W:World} (hK:W.heap[D]? = some (.deferred (some [])))
    (h:∀ W',W'=W.putObj D (.deferred none)→(∀ k,k≠D→W'.heap[k]? = W.heap[k]?)→LeavesIn Fence.wide n P fn T R [] .returning W') :
    bodyPostM Fence.wide n P fn R .ret { tmps:=T,defers:=[{ target:=.collected D,args:=#[] }] } W :=
  ⟨by simp,.inl ⟨_,_,rfl,run_takeDeferred hK,h _ rfl fun k hk=>World.putObj_heap_other hk⟩⟩
def SeqL {α:Type} (F:Fence) (n:Nat) (P:Program) (g:Nat) (lb:Array Value) (encs:α→Array Value) (L:List α) (Kp:World→World→Prop) (w:World):Prop :=
  ∀ (lp:Nat) (J Jx:Nat→World→Prop) (W:World),Below w.heap.size w W→OwnFrom W.heap.size J→OwnFrom W.heap.size Jx →
    (∀ (i:Nat) (h:i<L.length) (W1:World),J i W1→YieldAt F (n - 1) P lp (encs L[i]) W1 fun e W' =>
      (e=.returned (.bool true)∧KeepsFrom W.heap.size W1 W'∧Kp W1 W'∧J (i+1) W')∨(e=.returned (.bool false)∧KeepsFrom W.heap.size W1 W'∧Jx (i+1) W')) →
    J 0 W →
    CallsIn F n P g (#[.func (.yield lp) #[] #[]]++lb) W fun e W'=>(∃ v,e=.returned v)∧(J L.length W'∨∃ i,0<i∧i≤L.length∧Jx i W')
def roundL (B:Nat) (Kp:World→World→Prop) (I:Nat→World→Prop) (Ix:Code→Nat→World→Prop) (i:Nat) (W:World):Exit→Act→World→Prop
  | .normal,_,W'=>KeepsFrom B W W'∧Kp W W'∧I (i+1) W'
  | .ret,_,W'=>KeepsFrom B W W'∧Ix .ret (i+1) W'
  | .exit id,_,W'=>KeepsFrom B W W'∧Ix (.exit id) (i+1) W'
  | .goto t,_,W'=>KeepsFrom B W W'∧Ix (.goto t) (i+1) W'
  | .panic _,_,_=>False
  | .outgrown,_,_=>False
theorem wpIn_rangeL {F:Fence} {n:Nat} {P:Program} {α:Type} {g:Operand} {ps:Array Tmp} {assign body:Code} {Q:Exit→Act→World→Prop} {a:Act} {w:World}
    (hro:F.round=none) (h1:1≤n) {gf:Nat} {lb:Array Value} (hg:a.eval g=.func (.func gf) #[] lb) (hFg:F.fn gf) (eg:∀ args w,(callFunc gf args).run P w=.ok (.enter gf args) w)
    {encs:α→Array Value} {L:List α} {Kp:World→World→Prop} {w0:World} (hseq:SeqL F (n - 1) P gf lb encs L Kp w0)
    (hKt:∀ {A B C:World},Kp A B→Kp B C→Kp A C) (hKb:∀ (W:World) (o:Obj),(∃ r,W.heap[w.heap.size+1]? = some (.loop r))→Kp W (W.putObj (w.heap.size+1) o))
    (hb0:Below w0.heap.size w0 w) (hps:∀ x,(encs x).size=ps.size)
    (I:Nat→World→Prop) (Ix:Code→Nat→World→Prop) (hI:OwnFrom w.heap.size I) (hIx:∀ c,OwnFrom w.heap.size (Ix c)) (h0:I 0 w)
    (Ax:Nat→Act→World→Prop) (hAx:∀ i a',OwnFrom w.heap.size (fun(_:Unit) W=>Ax i a' W))
    (hassign:∀ (i:Nat) (h:i<L.length) (W:World) (K:Act→World→Prop),I i W→(∀ a' W',KeepsFrom w.heap.size W W'→Kp W W'→I i W'→Ax i a' W'→K a' W') →
      assign.wpIn (F.inRound (w.heap.size+1)) (n - 1 - 1) P (Exit.then K (fun _ _ _=>False)) { tmps:=(ps.zip (encs L[i])).foldl (fun t (p,v)=>t.setIfInBounds p v) a.tmps,defers:=[] } W)
    (hbody:∀ (i:Nat) (h:i<L.length) (a':Act) (W:World),(∃ r,W.heap[w.heap.size+1]? = some (.loop r))→I i W→Ax i a' W →
      body.wpIn (F.inRound (w.heap.size+1)) (n - 1 - 1) P (roundL w.heap.size Kp I Ix i W) a' W)
    (hdone:∀ (W:World),I L.length W→W.heap[w.heap.size]? = some (.deferred (some []))→Q .normal { a with defers:={ target:=.collected w.heap.size,args:=#[] }::a.defers } W)
    (hstop:∀ (i:Nat) (c:Code) (W:World),0<i→i≤L.length→Ix c i W→W.heap[w.heap.size]? = some (.deferred (some [])) →
      c.wpIn F n P Q { a with defers:={ target:=.collected w.heap.size,args:=#[] }::a.defers } W) :
    (Code.rangeFunc g ps assign body).wpIn F n P Q a w:=by
  refine wpIn_rangeFunc fun fn hfn=>?_
  rw[hro]
  obtain⟨rec,hrec⟩:∃ rec:LoopState→Option Code→Loop,rec=fun st pe=>{ state:=st,pending:=pe,fn,tmps:=a.tmps,params:=ps,assign,body,defers:=w.heap.size }:=⟨_,rfl⟩
  obtain⟨V,hV⟩:∃ V,V=(w.alloc (.deferred (some []))).alloc (.loop (rec .ready none)):=⟨_,rfl⟩
  have zV:V.heap.size=w.heap.size+2:=by rw[hV];simp
  have rV:V.heap[w.heap.size+1]? = some (.loop (rec .ready none)):=by
    have h:=World.alloc_heap_new (w.alloc (.deferred (some []))) (.loop (rec .ready none))
    rw[World.size_alloc]at h
    rw[hV];exact h
  have dV:V.heap[w.heap.size]? = some (.deferred (some [])):=by
    rw[hV];exact(Below.heap_alloc _ _ _ (by simp)).trans (World.alloc_heap_new w _)
  have iV:I 0 V:=by rw[hV];exact hI.alloc _ (hI.alloc _ h0)
  have bV:Below w0.heap.size w0 V:=by
    rw[hV];exact hb0.trans ((((Below.refl _ w).alloc (Nat.le_refl _) _).alloc (by simp) _).mono hb0.size)
  refine⟨w.heap.size+1,[{ target:=.collected w.heap.size,args:=#[] }],V,{ target:=.fn (.func gf) lb,args:=#[.func (.yield (w.heap.size+1)) #[] #[]] },V,gf,
    #[.func (.yield (w.heap.size+1)) #[] #[]]++lb,V,?_,?_,?_,?_,fun _=>h1,?_⟩
  · rw[hV,hrec];exact run_enterLoop_outer _ _ _ _ _
  · simp only[resolve,hg]
    simp[go_sem]
  · intro f' hf';simp[Target.leads]at hf';subst hf';exact hFg
  · simp[invoke,go_sem,eg]
  have stay:∀ {A B:World} {row:Option Nat} {k:Nat} {o:Obj},A.grownBy B row→(∀ r,row=some r→V.heap.size≤r∧∃ o:Obj,A.heap[r]? = some o∧o.isCells=false)→k<w.heap.size+2→A.heap[k]? = some o→B.heap[k]? = some o :=
    fun hg' hr hk ho=>(hg'.block _ (Array.getElem?_eq_some_iff.1 ho).1 (fun e=>by have:=(hr _ e.symm).1;omega)).trans ho
  have low:∀ {A:World} {row:Option Nat},(∀ r,row=some r→V.heap.size≤r∧∃ o:Obj,A.heap[r]? = some o∧o.isCells=false)→∀ r,row=some r→w.heap.size≤r∧∃ o:Obj,A.heap[r]? = some o∧o.isCells=false :=
    fun hr r e=>⟨by have:=(hr r e).1;omega,(hr r e).2⟩
  refine(hseq (w.heap.size+1)
    (fun i W=>I i W∧W.heap[w.heap.size+1]? = some (.loop (rec .ready none))∧W.heap[w.heap.size]? = some (.deferred (some [])))
    (fun i W=>∃ c,Ix c i W∧W.heap[w.heap.size+1]? = some (.loop (rec .done (some c)))∧W.heap[w.heap.size]? = some (.deferred (some [])))
    V bV
    (fun s A B row h hg' hr=>⟨hI s A B row h.1 hg' (low hr),stay hg' hr (by omega) h.2.1,stay hg' hr (by omega) h.2.2⟩)
    (fun s A B row h hg' hr=>by
      obtain⟨c,hc,h2,h3⟩:=h
      exact⟨c,hIx c s A B row hc hg' (low hr),stay hg' hr (by omega) h2,stay hg' hr (by omega) h3⟩)
    ?_ ⟨iV,rV,dV⟩).mono ?_
  · rintro i hi W ⟨hi1,hr1,hd1⟩
    have hy:=run_yield (P:=P) (args:=encs L[i]) hr1 (by rw[hrec];exact hps _)
    rw[hrec]at hy
    refine⟨fn,_,assign,body,hy,roundIn_of_wpIn hfn (hassign i hi W _ hi1 ?_)⟩
    intro a' Wa ka pa ia xa
    have ra:=ka.same _ _ (by omega) hr1 rfl
    have da:=ka.same _ _ (Nat.le_refl _) hd1 rfl
    refine⟨_,run_beginRound ra (by rw[hrec]),?_⟩
    obtain⟨Wb,hWb⟩:∃ Wb,Wb=Wa.putObj (w.heap.size+1) (.loop { rec .ready none with state:=.busy }):=⟨_,rfl⟩
    rw[←hWb]
    have rb:Wb.heap[w.heap.size+1]? = some (.loop { rec .ready none with state:=.busy }):=by rw[hWb];exact World.putObj_heap_same (Array.getElem?_eq_some_iff.1 ra).1
    have db:Wb.heap[w.heap.size]? = some (.deferred (some [])):=by rw[hWb];exact(World.putObj_heap_other (by omega)).trans da
    have kb:KeepsFrom V.heap.size W Wb:=(keepsFrom_up ka (by omega)).trans (by rw[hWb];exact keepsFrom_put (by omega))
    have pb:Kp W Wb:=hKt pa (by rw[hWb];exact hKb _ _ ⟨_,ra⟩)
    have ib:I i Wb:=by rw[hWb];exact hI.putObj _ ia (by omega) ra rfl
    have xb:Ax i a' Wb:=by rw[hWb];exact(hAx i a').putObj (s:=()) _ xa (by omega) ra rfl
    clear hWb
    refine wpIn_mono (hbody i hi a' Wb ⟨_,rb⟩ ib xb) ?_
    have fin:∀ (jump:Option Code) (Wc:World),KeepsFrom w.heap.size Wb Wc→∃ Wd,Wd=Wc.putObj (w.heap.size+1) (.loop (rec (if jump.isNone then .ready else .done) jump)) ∧
        (Instr.endRound (w.heap.size+1) jump).run P Wc=.ok (.bool jump.isNone) Wd∧Wc.heap[w.heap.size+1]? = some (.loop { rec .ready none with state:=.busy }) ∧
        Wd.heap[w.heap.size+1]? = some (.loop (rec (if jump.isNone then .ready else .done) jump))∧Wd.heap[w.heap.size]? = some (.deferred (some []))∧KeepsFrom V.heap.size W Wd:=fun jump Wc kc=>by
      have rc:=kc.same _ _ (by omega) rb rfl
      have dc:=kc.same _ _ (Nat.le_refl _) db rfl
      have h:=run_endRound (P:=P) jump rc
      refine⟨_,rfl,?_,rc,World.putObj_heap_same (Array.getElem?_eq_some_iff.1 rc).1,(World.putObj_heap_other (by omega)).trans dc,(kb.trans (keepsFrom_up kc (by omega))).trans (keepsFrom_put (by omega))⟩
      rw[hrec]at h ⊢
      exact h
    rintro e a3 Wc hp
    cases e with
    | normal =>
      obtain⟨kc,pc,ic⟩:=hp
      obtain⟨Wd,hWd,hr,rc,rd,dd,kd⟩:=fin none Wc kc
      exact⟨_,Wd,hr,.inl ⟨rfl,kd,hKt pb (hKt pc (by rw[hWd];exact hKb _ _ ⟨_,rc⟩)),by rw[hWd];exact hI.putObj _ ic (by omega) rc rfl,rd,dd⟩⟩
    | ret =>
      obtain⟨kc,ic⟩:=hp
      obtain⟨Wd,hWd,hr,rc,rd,dd,kd⟩:=fin (some .ret) Wc kc
      exact⟨_,Wd,hr,.inr ⟨rfl,kd,.ret,by rw[hWd];exact(hIx _).putObj _ ic (by omega) rc rfl,rd,dd⟩⟩
    | exit id =>
      obtain⟨kc,ic⟩:=hp
      obtain⟨Wd,hWd,hr,rc,rd,dd,kd⟩:=fin (some (.exit id)) Wc kc
      exact⟨_,Wd,hr,.inr ⟨rfl,kd,.exit id,by rw[hWd];exact(hIx _).putObj _ ic (by omega) rc rfl,rd,dd⟩⟩
    | goto t =>
      obtain⟨kc,ic⟩:=hp
      obtain⟨Wd,hWd,hr,rc,rd,dd,kd⟩:=fin (some (.goto t)) Wc kc
      exact⟨_,Wd,hr,.inr ⟨rfl,kd,.goto t,by rw[hWd];exact(hIx _).putObj _ ic (by omega) rc rfl,rd,dd⟩⟩
    | panic ch=>exact hp.elim
    | outgrown=>exact hp.elim
  · rintro e W2 ⟨⟨v,rfl⟩,⟨hi,hl,hk⟩|⟨i,hi0,hi1,c,hc,hl,hk⟩⟩
    · exact⟨none,_,by have:=run_endLoop (P:=P) hl (by rw[hrec];simp);rw[hrec]at this;exact this,hdone _ (hI.putObj _ hi (by omega) hl rfl) ((World.putObj_heap_other (by omega)).trans hk)⟩
    · exact⟨some c,_,by have:=run_endLoop (P:=P) hl (by rw[hrec];simp);rw[hrec]at this;exact this,hstop i c _ hi0 hi1 ((hIx c).putObj _ hc (by omega) hl rfl) ((World.putObj_heap_other (by omega)).trans hk)⟩
end Go.Proofs.YtmhghnbgllaihaaGreatDoor

namespace Go.Proofs.YtmhghnbgllaihaaGreatDoor
open Go.ChangeShapes Go.WideShapes Go.ChangeAt Go.RowKit
theorem gDi:Tryz.prog.globalNamed "footpath/links.directions" = some 1:=by kernel_rfl
theorem tDi:(Tryz.prog.globals[1]?).map (·.type)=some 307:=by kernel_rfl
structure Dirs (w:World):Prop where
  c0:w.cell? ⟨1,0,none⟩=some (.int .i64 1)
  c1:w.cell? ⟨1,1,none⟩=some (.int .i64 0)
  c2:w.cell? ⟨1,2,none⟩=some (.int .i64 0)
  c3:w.cell? ⟨1,3,none⟩=some (.int .i64 1)
  c4:w.cell? ⟨1,4,none⟩=some (.int .i64 (-1))
  c5:w.cell? ⟨1,5,none⟩=some (.int .i64 0)
  c6:w.cell? ⟨1,6,none⟩=some (.int .i64 0)
  c7:w.cell? ⟨1,7,none⟩=some (.int .i64 (-1))
theorem Dirs.new {w w':World} (h:Dirs w) (n:New w w'):Dirs w' :=
  ⟨n.keep h.c0,n.keep h.c1,n.keep h.c2,n.keep h.c3,n.keep h.c4,n.keep h.c5,n.keep h.c6,n.keep h.c7⟩
abbrev laidDirs:List (String×DataW Unit):=[("footpath/links.directions",Rows.laid_footpath_links_directions)]
theorem take2 {l:List Value} {i:Nat} {x y:Value} (h:(l.drop i).take 2=[x,y]):l[i]? = some x∧l[i+1]? = some y:=by
  have h0:((l.drop i).take 2)[0]? = some x:=by rw[h];rfl
  have h1:((l.drop i).take 2)[1]? = some y:=by rw[h];rfl
  exact⟨by simpa [List.getElem?_take,List.getElem?_drop]using h0,by simpa [List.getElem?_take,List.getElem?_drop]using h1⟩
set_option maxRecDepth 100000 in
theorem two_of {W:World} {m:Nat} {cs:List Value} {p:List MemPlace} {a b:Int} (h:DataW.trod (fun _=>()) Tryz.prog W 0 (fun _=>true) false m 306 cs=some (.agg [.lit (.int .i64 a),.lit (.int .i64 b)],p)) (hl:cs.length=2):cs=[.int .i64 a,.int .i64 b]:=by
  obtain⟨ys,n,rfl,hy,hlen,hn,hel⟩:=DataW.trod_struct Tryz.underlying306 h
  have c3:Tryz.prog.cellsOf 3=1:=by kernel_rfl
  have h0:DataW.trod (fun _=>()) Tryz.prog W 0 (fun _=>true) false n 3 ((cs.drop 0).take (Tryz.prog.cellsOf 3))=ys[0]? := hel 0 _ rfl
  have h1:DataW.trod (fun _=>()) Tryz.prog W 0 (fun _=>true) false n 3 ((cs.drop 1).take (Tryz.prog.cellsOf 3))=ys[1]? := hel 1 _ rfl
  rw[c3]at h0 h1
  match ys,hn,hy,h0,h1 with
  | [x0,x1],_,hy,h0,h1 =>
    simp only[List.map_cons,List.map_nil,List.cons.injEq,List.getElem?_cons_zero,List.getElem?_cons_succ,Prod.mk.injEq,DataW.agg.injEq]at hy h0 h1
    obtain⟨⟨r0,r1,-⟩,-⟩:=hy
    obtain⟨k0,e0,y0,_⟩:=DataW.trod_int Tryz.underlying3 h0
    obtain⟨k1,e1,y1,_⟩:=DataW.trod_int Tryz.underlying3 h1
    rw[y0]at r0;rw[y1]at r1
    simp only[DataW.lit.injEq,Lit.int.injEq,true_and]at r0 r1
    subst r0;subst r1
    match cs,hl,e0,e1 with
    | [u0,u1],_,e0,e1 =>
      simp at e0 e1
      rw[e0,e1]
set_option maxRecDepth 100000 in
theorem of_laid_di {W:World} (h:laidMetH Tryz.prog laidDirs W):Dirs W:=by
  rw[MakeChecks.laidMetH_plain _ _ _ (by kernel_rfl)]at h
  obtain⟨ps,⟨g0,t0,cs0,f0,p0,q0,hg0,ht0,hv0,hd0,_,_⟩,_,_⟩:=h
  obtain rfl:=Option.some.inj (gDi.symm.trans hg0)
  obtain rfl:=Option.some.inj (tDi.symm.trans ht0)
  obtain⟨xs,n,rfl,hx,hlen,hn,hel⟩:=DataW.trod_array Tryz.underlying307 hd0
  have c2:Tryz.prog.cellsOf 306=2:=by kernel_rfl
  have c8:Tryz.prog.cellsOf 307=8:=by kernel_rfl
  rw[c8]at hlen
  simp only[Rows.laid_footpath_links_directions,Prod.mk.injEq,DataW.agg.injEq]at hx
  have h0:=hel 0 (by omega)
  have h1:=hel 1 (by omega)
  have h2:=hel 2 (by omega)
  have h3:=hel 3 (by omega)
  rw[c2]at h0 h1 h2 h3
  match xs,hn,hx,h0,h1,h2,h3 with
  | [x0,x1,x2,x3],_,hx,h0,h1,h2,h3 =>
    simp only[List.map_cons,List.map_nil,List.cons.injEq,List.getElem?_cons_zero,List.getElem?_cons_succ]at hx h0 h1 h2 h3
    obtain⟨⟨r0,r1,r2,r3,-⟩,-⟩:=hx
    obtain⟨x0,p0⟩:=x0
    obtain⟨x1,p1⟩:=x1
    obtain⟨x2,p2⟩:=x2
    obtain⟨x3,p3⟩:=x3
    simp only at r0 r1 r2 r3
    subst r0;subst r1;subst r2;subst r3
    have e0:=take2 (two_of h0 (by simp only[List.length_take,List.length_drop];omega))
    have e1:=take2 (two_of h1 (by simp only[List.length_take,List.length_drop];omega))
    have e2:=take2 (two_of h2 (by simp only[List.length_take,List.length_drop];omega))
    have e3:=take2 (two_of h3 (by simp only[List.length_take,List.length_drop];omega))
    have k:∀ (i:Nat) (v:Value),cs0.toList[i]? = some v→W.cell? ⟨1,i,none⟩=some v:=fun i v e=>(World.var?_cell hg0 hv0 i).trans (by rw[←Array.getElem?_toList];exact e)
    exact⟨k 0 _ e0.1,k 1 _ e0.2,k 2 _ e1.1,k 3 _ e1.2,k 4 _ e2.1,k 5 _ e2.2,k 6 _ e3.1,k 7 _ e3.2⟩
end Go.Proofs.YtmhghnbgllaihaaGreatDoor

namespace Go.Proofs.YtmhghnbgllaihaaGreatDoor
open Go.RowKit
set_option linter.unusedVariables false
theorem wpList_append_sl {P:Program} {ops:Array Oper} {rest:List Oper} {o:Oper} {a:Act} {w:World} {Q:Exit→Act→World→Prop} (hgd:o.guard=none) (s x:Operand) (t:TypeId)
    (ho:o.op=.call { callee:=.builtin .append,args:=#[s,x],argTypes:=#[t,t] })
    {α:Type} {enc:α→List Value} {k:Nat} (hk:∀ a,(enc a).length=k) (h1:∀ a,∀ u∈enc a,u.oneCell'=true)
    (base:Nat) (e:TypeId) (i:TypeInfo) (z:Value) (bytes:Nat) (ht:P.underlying t=some (.slice e)) (hi:P.info? e=some i) (hz:i.zero=some z)
    (hsize:i.size=k) (hby:i.bytes=bytes) (hzs:z.cells.size=k) (hsz:0<k)
    (v:Value) (l:List α) (hs:a.eval s=v) (hown:w.ownsRow base e k v l.length (l.flatMap enc))
    (u:Value) (m:List α) (hx:a.eval x=u) (hm:Sl enc k w u m)
    (h63:l.length+m.length≤maxLen) (hbytes:(l.length+m.length)*bytes≤140737488355328) (hbase:base≤w.heap.size)
    (h:∀ v' w',w'.ownsRow base e k v' (l++m).length ((l++m).flatMap enc)→(∀ a0,New a0 w→a0.heap.size≤base→New a0 w')→(∀ b,b<base→w'.heap[b]? = w.heap[b]?)→wpList P ops Q rest (a.put o.dst v') w'):wpList P ops Q (o::rest) a w:=by
  obtain⟨at0,c,rfl,hc,hcm,hnone,hrow⟩:=hm
  cases at0 with
  | none =>
    have hc0:=hnone rfl
    have hm0:m=[]:=List.eq_nil_of_length_eq_zero (by omega)
    subst hm0
    rw[hc0]at hx
    exact Lib.wpList_append_run w hgd s x t t ho _ _ hs hx _ _ (run_append_owned_none (P:=P) w base t o.type e i k ht hi _ _ _ hown) (h _ _ (by simpa using hown) (fun _ h _=>h) (fun _ _=>rfl))
  | some ad =>
    refine wpList_append_own w hgd s x t ho base e i z k bytes ht hi hz hsize hby hzs hsz v l.length (l.flatMap enc) hs hown ad m.length c (m.flatMap enc) hx (flatMap_len hk m) (sl_news hk ⟨some ad,c,rfl,hc,hcm,hnone,hrow⟩) (by intro u hu;obtain⟨y,_,hy⟩:=List.mem_flatMap.1 hu;exact h1 y u hy) h63 hbytes hbase (fun v' w' h2 h3 _=>?_)
    refine h v' w' (by rw[List.length_append,List.flatMap_append];exact h2) (fun a0 hn hb=>newGrown hn h3 (fun j hj=>Nat.le_trans hb (own_block hown j hj))) (fun b hb=>h3.block b (by omega) (fun e=>by have:=own_block hown b e.symm;omega))
theorem cell_block {w w':World} {b:Nat} (h:w'.heap[b]? = w.heap[b]?) {o:Nat} {v:Value} (hc:w.cell? ⟨b,o,none⟩=some v):w'.cell? ⟨b,o,none⟩=some v:=by
  unfold World.cell? at hc ⊢
  rw[h];exact hc
theorem frozen_block {w w':World} {b:Nat} (h:w'.heap[b]? = w.heap[b]?) {o:Nat} {f:Bool} (hc:w.frozen? ⟨b,o,none⟩=f):w'.frozen? ⟨b,o,none⟩=f:=by
  unfold World.frozen? at hc ⊢
  rw[h];exact hc
def fixV:List Value→(World→Value→Prop)→Nat→World→Value→Prop
  | [],P,_,w,v=>P w v
  | c::_,_,0,_,v=>v=c
  | _::cs,P,i+1,w,v=>fixV cs P i w v
theorem fixV_keep {P:World→Value→Prop} (hP:∀ w w' v,P w v→New w w'→P w' v):∀ (cs:List Value) (i:Nat) (w w':World) (v:Value),fixV cs P i w v→New w w'→fixV cs P i w' v
  | [],_,w,w',v,h,n=>hP w w' v h n
  | _::_,0,_,_,_,h,_=>h
  | _::cs,i+1,w,w',v,h,n=>fixV_keep hP cs i w w' v h n
theorem own_shape2 {w:World} {base size:Nat} {e:TypeId} {v:Value} {n:Nat} {xs:List Value} (h:w.ownsRow base e size v n xs):∃ a c N,N=n∧v=.slice a N c:=by
  rcases h.2 with ⟨rfl,rfl⟩|⟨g,cap,cur,rfl,_⟩
  · exact⟨_,_,_,rfl,rfl⟩
  · exact⟨_,_,_,rfl,rfl⟩
section
variable {α:Type}
def mid (l:List α) (p:Nat) (x:α) (m:Nat):List α:=if m≤p then l.take m else l.take p++[x]++(l.drop p).take (m - p)
end
end Go.Proofs.YtmhghnbgllaihaaGreatDoor

namespace Go.Proofs.YtmhghnbgllaihaaGreatDoor
open Go.RowKit Go.Shelf Go.Sort
set_option linter.unusedVariables false
theorem New.stays {w w':World} (h:New w w') {b:Nat} {o:Obj} (hb:w.heap[b]? = some o):w'.heap[b]? = some o:=(h.block b (Array.getElem?_eq_some_iff.1 hb).1).trans hb
def KeepS (S:List Nat) (W W':World):Prop:=∀ b∈S,W'.heap[b]? = W.heap[b]?
theorem KeepS.refl {S:List Nat} (W:World):KeepS S W W:=fun _ _=>rfl
theorem KeepS.trans {S:List Nat} {X Y Z:World} (h:KeepS S X Y) (k:KeepS S Y Z):KeepS S X Z:=fun b hb=>(k b hb).trans (h b hb)
theorem KeepS.new {S:List Nat} {w W:World} (hS:∀ b∈S,b<w.heap.size) (n:New w W):KeepS S w W:=fun b hb=>n.block b (hS b hb)
theorem own_keepS {β:Type} {S:List Nat} {w:World} {D:Nat} (hS:∀ b∈S,∃ o:Obj,w.heap[b]? = some o∧o.isCells=true):OwnFrom D (fun(_:β) W=>KeepS S w W):=fun _ X Y row hs hg hr b hb=>by
  obtain⟨o,ho,hc⟩:=hS b hb
  have hX:X.heap[b]? = some o:=(hs b hb).trans ho
  refine(hg.block b (Array.getElem?_eq_some_iff.1 hX).1 (fun e'=>?_)).trans (hs b hb)
  obtain⟨_,o',ho',hc'⟩:=hr b e'.symm
  rw[hX]at ho';cases ho';rw[hc]at hc';cases hc'
theorem cells_of_cell {W:World} {a:Addr} {v:Value} (h:W.cell? a=some v):∃ o:Obj,W.heap[a.block]? = some o∧o.isCells=true:=by
  unfold World.cell? at h
  cases ho:W.heap[a.block]? with
  | none=>simp[ho]at h
  | some o=>exact⟨o,rfl,by cases o <;> simp_all [Obj.isCells]⟩
theorem roundIn_in {n m l':Nat} {P:Program} {l:Nat} {f:FuncId} {tmps:Array Value} {assign body:Code} {w:World} {R:Ending→World→Prop} (h:RoundIn Fence.wide n P l f tmps assign body w R):RoundIn (Fence.wide.inRound l') m P l f tmps assign body w R :=
  ⟨h.1,fun c cs _=>h.2 c cs (room_wide _)⟩
theorem callsIn_in {m l':Nat} {P:Program} {f:FuncId} {args:Array Value} {w:World} {R:Ending→World→Prop} (h:Calls P f args w R):CallsIn (Fence.wide.inRound l') m P f args w R :=
  (callsIn_wide (n:=m)).2 h
theorem grown_new {w w':World} (h:New w w'):w.grownBy w' none:=⟨h.os,h.tape,h.output,h.size,fun k hk _=>h.block k hk⟩
theorem keepsFrom_new {B:Nat} {w w':World} (h:New w w'):KeepsFrom B w w':=⟨h.size,fun k o _ h0 _=>(h.block k (Array.getElem?_eq_some_iff.1 h0).1).trans h0⟩
theorem own_over {β:Type} {B:Nat} {J:β→World→Prop} (h:OwnFrom B J) {s:β} {w w':World} (hs:J s w) (n:New w w'):J s w':=h s w w' none hs (grown_new n) (fun r e=>by cases e)
theorem own_up {β γ:Type} {B B':Nat} {J:β→World→Prop} (f:γ→β) (h:OwnFrom B J) (hB:B≤B'):OwnFrom B' (fun(s:γ) W=>J (f s) W):=fun s X Y row hs hg hr=>h (f s) X Y row hs hg (fun r e=>⟨Nat.le_trans hB (hr r e).1,(hr r e).2⟩)
end Go.Proofs.YtmhghnbgllaihaaGreatDoor

namespace Go.Proofs.YtmhghnbgllaihaaGreatDoor
open Go.RowKit
set_option linter.unusedVariables false
set_option maxRecDepth 100000
abbrev iE (t:Int):List Value:=[.int .i64 t]
theorem iE_len (t:Int):(iE t).length=1:=rfl
theorem int_info:(Tryz.prog.info? 3).map (fun i=>(i.zero,i.size,i.bytes))=some (some (.int .i64 0),1,8):=by kernel_rfl
theorem cells_int (w:World) (t:Int) (ty:TypeId):∀ j u,(iE t)[j]? = some u→(w.alloc (.cells #[.int .i64 t] ty)).cell? ((⟨w.heap.size,0,none⟩:Addr).add j)=some u:=by
  intro j u hj
  match j,hj with
  | 0,hj=>simp at hj;subst hj;simp[Addr.add]
  | j+1,hj=>simp at hj
end Go.Proofs.YtmhghnbgllaihaaGreatDoor

namespace Go.Proofs.YtmhghnbgllaihaaGreatDoor
theorem mul_bd {a b A B:Int} (ha : -A≤a∧a≤A) (hb : -B≤b∧b≤B) : -(A*B)≤a*b∧a*b≤A*B:=by
  have hA:0≤A:=by omega
  have hB:0≤B:=by omega
  have h1:0≤(A - a)*(B - b):=Int.mul_nonneg (by omega) (by omega)
  have h2:0≤(A+a)*(B+b):=Int.mul_nonneg (by omega) (by omega)
  have h3:0≤(A - a)*(B+b):=Int.mul_nonneg (by omega) (by omega)
  have h4:0≤(A+a)*(B - b):=Int.mul_nonneg (by omega) (by omega)
  simp only[Int.sub_mul,Int.mul_sub,Int.add_mul,Int.mul_add]at h1 h2 h3 h4
  omega
end Go.Proofs.YtmhghnbgllaihaaGreatDoor

namespace Go.Proofs.YtmhghnbgllaihaaGreatDoor
open Go.RowKit
set_option linter.unusedVariables false
def Thr (w:World) (b n:Nat):Prop:=∀ j,j<n→(∃ v,w.cell? ⟨b,j,none⟩=some v)∧w.frozen? ⟨b,j,none⟩=false
theorem Thr.keep {w w':World} {b n:Nat} (h:Thr w b n) (hn:New w w'):Thr w' b n:=fun j hj=>by
  obtain⟨⟨v,hv⟩,hf⟩:=h j hj
  exact⟨⟨v,hn.keep hv⟩,hn.keepF hv hf⟩
theorem Thr.lt {w:World} {b n:Nat} (h:Thr w b n) (h0:0<n):b<w.heap.size:=by
  obtain⟨⟨v,hv⟩,_⟩:=h 0 h0
  exact World.block_lt_of_cell? _ _ hv
theorem Thr.new (w:World) (cs:Array Value) (T:TypeId) (b:Nat) (hb:w.heap.size=b):Thr (w.alloc (.cells cs T)) b cs.size:=fun j hj=>by
  subst hb
  have h1:(w.alloc (.cells cs T)).heap[w.heap.size]? = some (.cells cs T):=heap_new _ _
  exact⟨⟨cs[j],cell_of_heap h1 (by simp[hj])⟩,frozen_of_heap h1⟩
theorem new_setCells {a w:World} {b:Nat} (h:New a w) (hb:a.heap.size≤b):∀ (vs:List Value) (o:Nat),New a (w.setCells b o vs)
  | [],o=>h
  | v::vs,o=>by
    rw[World.setCells]
    exact new_setCells (New.setCell h (p:=⟨b,o,none⟩) hb v) hb vs (o+1)
end Go.Proofs.YtmhghnbgllaihaaGreatDoor
