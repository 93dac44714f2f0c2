import Derived.RangeFuncNested
import Derived.RangeFuncLeaves
import Derived.Test.YtmhghnbgllaihaaGreatDoorSoLSP2Z2
import Derived.Test.YtmhghnbgllaihaaGreatDoorSoXFP2Z2
import Derived.Deep.MidRow
import Derived.Shelf.Abstract
import Derived.WalkKit
import Derived.OwnWalkIn
import Derived.TacticsInMore
import Derived.LoopNIn
import Derived.LoopIn
import Derived.Sort.WalkA
import Derived.Test.YtmhghnbgllaihaaGreatDoorRows
import Derived.Test.YtmhghnbgllaihaaGreatDoorSpPP2Z2
import Derived.Test.YtmhghnbgllaihaaGreatDoorWholeMP2Z2
set_option linter.unusedVariables false

namespace Go.Proofs.YtmhghnbgllaihaaGreatDoor
open Go.RowKit
theorem keepsFrom_up {B B':Nat} {W W':World} (h:KeepsFrom B W W') (hB:B≤B'):KeepsFrom B' W W' :=
 ⟨h.size,fun k o hk=>h.same k o (Nat.le_trans hB hk)⟩
theorem keepsFrom_put {B l:Nat} {W:World} {o:Obj} (hl:l<B):KeepsFrom B W (W.putObj l o) :=
 ⟨by simp,fun k o' hk h0 _=>(World.putObj_heap_other (by omega)).trans h0⟩
theorem own_blk {β:Type} (b:Nat) {cs:Array Value} {t:TypeId} {fr:Nat×Nat} (D:Nat):OwnFrom D (fun(_:β) W=>W.heap[b]? = some (.cells cs t fr)):=fun _ X Y row hs hg hr=>by
 refine(hg.block b (Array.getElem?_eq_some_iff.1 hs).1 (fun e'=>?_)).trans hs
 obtain⟨_,o,ho,hc⟩:=hr b e'.symm
 rw[hs]at ho;cases ho;cases hc
theorem own_pure {β:Type} (B:Nat) (p:β→Prop):OwnFrom B (fun s (_:World)=>p s):=fun _ _ _ _ hs _ _=>hs
theorem ret_mark {n:Nat} {P:Program} {fn:Func} {R:Ending→World→Prop} {T:Array Value} {D:Nat} {W:World} (hK:W.heap[D]? = some (.deferred (some [])))
  (h:∀ W',W'=W.putObj D (.deferred none)→(∀ k,k≠D→W'.heap[k]? = W.heap[k]?)→LeavesIn Fence.wide n P fn T R [] .returning W') :
  bodyPostM Fence.wide n P fn R .ret { tmps:=T,defers:=[{ target:=.collected D,args:=#[] }] } W :=
 ⟨by simp,.inl ⟨_,_,rfl,run_takeDeferred hK,h _ rfl fun k hk=>World.putObj_heap_other hk⟩⟩
def SeqL {α:Type} (F:Fence) (n:Nat) (P:Program) (g:Nat) (lb:Array Value) (encs:α→Array Value) (L:List α) (Kp:World→World→Prop) (w:World):Prop :=
 ∀ (lp:Nat) (J Jx:Nat→World→Prop) (W:World),Below w.heap.size w W→OwnFrom W.heap.size J→OwnFrom W.heap.size Jx →
  (∀ (i:Nat) (h:i<L.length) (W1:World),J i W1→YieldAt F (n - 1) P lp (encs L[i]) W1 fun e W' =>
   (e=.returned (.bool true)∧KeepsFrom W.heap.size W1 W'∧Kp W1 W'∧J (i+1) W')∨(e=.returned (.bool false)∧KeepsFrom W.heap.size W1 W'∧Jx (i+1) W')) →
  J 0 W →
  CallsIn F n P g (#[.func (.yield lp) #[] #[]]++lb) W fun e W'=>(∃ v,e=.returned v)∧(J L.length W'∨∃ i,0<i∧i≤L.length∧Jx i W')
def roundL (B:Nat) (Kp:World→World→Prop) (I:Nat→World→Prop) (Ix:Code→Nat→World→Prop) (i:Nat) (W:World):Exit→Act→World→Prop
 | .normal,_,W'=>KeepsFrom B W W'∧Kp W W'∧I (i+1) W'
 | .ret,_,W'=>KeepsFrom B W W'∧Ix .ret (i+1) W'
 | .exit id,_,W'=>KeepsFrom B W W'∧Ix (.exit id) (i+1) W'
 | .goto t,_,W'=>KeepsFrom B W W'∧Ix (.goto t) (i+1) W'
 | .panic _,_,_=>False
 | .outgrown,_,_=>False
theorem wpIn_rangeL {F:Fence} {n:Nat} {P:Program} {α:Type} {g:Operand} {ps:Array Tmp} {assign body:Code} {Q:Exit→Act→World→Prop} {a:Act} {w:World}
  (hro:F.round=none) (h1:1≤n) {gf:Nat} {lb:Array Value} (hg:a.eval g=.func (.func gf) #[] lb) (hFg:F.fn gf) (eg:∀ args w,(callFunc gf args).run P w=.ok (.enter gf args) w)
  {encs:α→Array Value} {L:List α} {Kp:World→World→Prop} {w0:World} (hseq:SeqL F (n - 1) P gf lb encs L Kp w0)
  (hKt:∀ {A B C:World},Kp A B→Kp B C→Kp A C) (hKb:∀ (W:World) (o:Obj),(∃ r,W.heap[w.heap.size+1]? = some (.loop r))→Kp W (W.putObj (w.heap.size+1) o))
  (hb0:Below w0.heap.size w0 w) (hps:∀ x,(encs x).size=ps.size)
  (I:Nat→World→Prop) (Ix:Code→Nat→World→Prop) (hI:OwnFrom w.heap.size I) (hIx:∀ c,OwnFrom w.heap.size (Ix c)) (h0:I 0 w)
  (Ax:Nat→Act→World→Prop) (hAx:∀ i a',OwnFrom w.heap.size (fun(_:Unit) W=>Ax i a' W))
  (hassign:∀ (i:Nat) (h:i<L.length) (W:World) (K:Act→World→Prop),I i W→(∀ a' W',KeepsFrom w.heap.size W W'→Kp W W'→I i W'→Ax i a' W'→K a' W') →
   assign.wpIn (F.inRound (w.heap.size+1)) (n - 1 - 1) P (Exit.then K (fun _ _ _=>False)) { tmps:=(ps.zip (encs L[i])).foldl (fun t (p,v)=>t.setIfInBounds p v) a.tmps,defers:=[] } W)
  (hbody:∀ (i:Nat) (h:i<L.length) (a':Act) (W:World),(∃ r,W.heap[w.heap.size+1]? = some (.loop r))→I i W→Ax i a' W →
   body.wpIn (F.inRound (w.heap.size+1)) (n - 1 - 1) P (roundL w.heap.size Kp I Ix i W) a' W)
  (hdone:∀ (W:World),I L.length W→W.heap[w.heap.size]? = some (.deferred (some []))→Q .normal { a with defers:={ target:=.collected w.heap.size,args:=#[] }::a.defers } W)
  (hstop:∀ (i:Nat) (c:Code) (W:World),0<i→i≤L.length→Ix c i W→W.heap[w.heap.size]? = some (.deferred (some [])) →
   c.wpIn F n P Q { a with defers:={ target:=.collected w.heap.size,args:=#[] }::a.defers } W) :
  (Code.rangeFunc g ps assign body).wpIn F n P Q a w:=by
 refine wpIn_rangeFunc fun fn hfn=>?_
 rw[hro]
 obtain⟨rec,hrec⟩:∃ rec:LoopState→Option Code→Loop,rec=fun st pe=>{ state:=st,pending:=pe,fn,tmps:=a.tmps,params:=ps,assign,body,defers:=w.heap.size }:=⟨_,rfl⟩
 obtain⟨V,hV⟩:∃ V,V=(w.alloc (.deferred (some []))).alloc (.loop (rec .ready none)):=⟨_,rfl⟩
 have zV:V.heap.size=w.heap.size+2:=by rw[hV];simp
 have rV:V.heap[w.heap.size+1]? = some (.loop (rec .ready none)):=by
  have h:=World.alloc_heap_new (w.alloc (.deferred (some []))) (.loop (rec .ready none))
  rw[World.size_alloc]at h
  rw[hV];exact h
 have dV:V.heap[w.heap.size]? = some (.deferred (some [])):=by
  rw[hV];exact(Below.heap_alloc _ _ _ (by simp)).trans (World.alloc_heap_new w _)
 have iV:I 0 V:=by rw[hV];exact hI.alloc _ (hI.alloc _ h0)
 have bV:Below w0.heap.size w0 V:=by
  rw[hV];exact hb0.trans ((((Below.refl _ w).alloc (Nat.le_refl _) _).alloc (by simp) _).mono hb0.size)
 refine⟨w.heap.size+1,[{ target:=.collected w.heap.size,args:=#[] }],V,{ target:=.fn (.func gf) lb,args:=#[.func (.yield (w.heap.size+1)) #[] #[]] },V,gf,
  #[.func (.yield (w.heap.size+1)) #[] #[]]++lb,V,?_,?_,?_,?_,fun _=>h1,?_⟩
 ·rw[hV,hrec];exact run_enterLoop_outer _ _ _ _ _
 ·simp only[resolve,hg]
  simp[go_sem]
 ·intro f' hf';simp[Target.leads]at hf';subst hf';exact hFg
 ·simp[invoke,go_sem,eg]
 have stay:∀ {A B:World} {row:Option Nat} {k:Nat} {o:Obj},A.grownBy B row→(∀ r,row=some r→V.heap.size≤r∧∃ o:Obj,A.heap[r]? = some o∧o.isCells=false)→k<w.heap.size+2→A.heap[k]? = some o→B.heap[k]? = some o :=
  fun hg' hr hk ho=>(hg'.block _ (Array.getElem?_eq_some_iff.1 ho).1 (fun e=>by have:=(hr _ e.symm).1;omega)).trans ho
 have low:∀ {A:World} {row:Option Nat},(∀ r,row=some r→V.heap.size≤r∧∃ o:Obj,A.heap[r]? = some o∧o.isCells=false)→∀ r,row=some r→w.heap.size≤r∧∃ o:Obj,A.heap[r]? = some o∧o.isCells=false :=
  fun hr r e=>⟨by have:=(hr r e).1;omega,(hr r e).2⟩
 refine(hseq (w.heap.size+1)
  (fun i W=>I i W∧W.heap[w.heap.size+1]? = some (.loop (rec .ready none))∧W.heap[w.heap.size]? = some (.deferred (some [])))
  (fun i W=>∃ c,Ix c i W∧W.heap[w.heap.size+1]? = some (.loop (rec .done (some c)))∧W.heap[w.heap.size]? = some (.deferred (some [])))
  V bV
  (fun s A B row h hg' hr=>⟨hI s A B row h.1 hg' (low hr),stay hg' hr (by omega) h.2.1,stay hg' hr (by omega) h.2.2⟩)
  (fun s A B row h hg' hr=>by
   obtain⟨c,hc,h2,h3⟩:=h
   exact⟨c,hIx c s A B row hc hg' (low hr),stay hg' hr (by omega) h2,stay hg' hr (by omega) h3⟩)
  ?_ ⟨iV,rV,dV⟩).mono ?_
 ·rintro i hi W ⟨hi1,hr1,hd1⟩
  have hy:=run_yield (P:=P) (args:=encs L[i]) hr1 (by rw[hrec];exact hps _)
  rw[hrec]at hy
  refine⟨fn,_,assign,body,hy,roundIn_of_wpIn hfn (hassign i hi W _ hi1 ?_)⟩
  intro a' Wa ka pa ia xa
  have ra:=ka.same _ _ (by omega) hr1 rfl
  have da:=ka.same _ _ (Nat.le_refl _) hd1 rfl
  refine⟨_,run_beginRound ra (by rw[hrec]),?_⟩
  obtain⟨Wb,hWb⟩:∃ Wb,Wb=Wa.putObj (w.heap.size+1) (.loop { rec .ready none with state:=.busy }):=⟨_,rfl⟩
  rw[←hWb]
  have rb:Wb.heap[w.heap.size+1]? = some (.loop { rec .ready none with state:=.busy }):=by rw[hWb];exact World.putObj_heap_same (Array.getElem?_eq_some_iff.1 ra).1
  have db:Wb.heap[w.heap.size]? = some (.deferred (some [])):=by rw[hWb];exact(World.putObj_heap_other (by omega)).trans da
  have kb:KeepsFrom V.heap.size W Wb:=(keepsFrom_up ka (by omega)).trans (by rw[hWb];exact keepsFrom_put (by omega))
  have pb:Kp W Wb:=hKt pa (by rw[hWb];exact hKb _ _ ⟨_,ra⟩)
  have ib:I i Wb:=by rw[hWb];exact hI.putObj _ ia (by omega) ra rfl
  have xb:Ax i a' Wb:=by rw[hWb];exact(hAx i a').putObj (s:=()) _ xa (by omega) ra rfl
  clear hWb
  refine wpIn_mono (hbody i hi a' Wb ⟨_,rb⟩ ib xb) ?_
  have fin:∀ (jump:Option Code) (Wc:World),KeepsFrom w.heap.size Wb Wc→∃ Wd,Wd=Wc.putObj (w.heap.size+1) (.loop (rec (if jump.isNone then .ready else .done) jump)) ∧
    (Instr.endRound (w.heap.size+1) jump).run P Wc=.ok (.bool jump.isNone) Wd∧Wc.heap[w.heap.size+1]? = some (.loop { rec .ready none with state:=.busy }) ∧
    Wd.heap[w.heap.size+1]? = some (.loop (rec (if jump.isNone then .ready else .done) jump))∧Wd.heap[w.heap.size]? = some (.deferred (some []))∧KeepsFrom V.heap.size W Wd:=fun jump Wc kc=>by
   have rc:=kc.same _ _ (by omega) rb rfl
   have dc:=kc.same _ _ (Nat.le_refl _) db rfl
   have h:=run_endRound (P:=P) jump rc
   refine⟨_,rfl,?_,rc,World.putObj_heap_same (Array.getElem?_eq_some_iff.1 rc).1,(World.putObj_heap_other (by omega)).trans dc,(kb.trans (keepsFrom_up kc (by omega))).trans (keepsFrom_put (by omega))⟩
   rw[hrec]at h ⊢
   exact h
  rintro e a3 Wc hp
  cases e with
  | normal =>
   obtain⟨kc,pc,ic⟩:=hp
   obtain⟨Wd,hWd,hr,rc,rd,dd,kd⟩:=fin none Wc kc
   exact⟨_,Wd,hr,.inl ⟨rfl,kd,hKt pb (hKt pc (by rw[hWd];exact hKb _ _ ⟨_,rc⟩)),by rw[hWd];exact hI.putObj _ ic (by omega) rc rfl,rd,dd⟩⟩
  | ret =>
   obtain⟨kc,ic⟩:=hp
   obtain⟨Wd,hWd,hr,rc,rd,dd,kd⟩:=fin (some .ret) Wc kc
   exact⟨_,Wd,hr,.inr ⟨rfl,kd,.ret,by rw[hWd];exact(hIx _).putObj _ ic (by omega) rc rfl,rd,dd⟩⟩
  | exit id =>
   obtain⟨kc,ic⟩:=hp
   obtain⟨Wd,hWd,hr,rc,rd,dd,kd⟩:=fin (some (.exit id)) Wc kc
   exact⟨_,Wd,hr,.inr ⟨rfl,kd,.exit id,by rw[hWd];exact(hIx _).putObj _ ic (by omega) rc rfl,rd,dd⟩⟩
  | goto t =>
   obtain⟨kc,ic⟩:=hp
   obtain⟨Wd,hWd,hr,rc,rd,dd,kd⟩:=fin (some (.goto t)) Wc kc
   exact⟨_,Wd,hr,.inr ⟨rfl,kd,.goto t,by rw[hWd];exact(hIx _).putObj _ ic (by omega) rc rfl,rd,dd⟩⟩
  | panic ch=>exact hp.elim
  | outgrown=>exact hp.elim
 ·rintro e W2 ⟨⟨v,rfl⟩,⟨hi,hl,hk⟩|⟨i,hi0,hi1,c,hc,hl,hk⟩⟩
  ·exact⟨none,_,by have:=run_endLoop (P:=P) hl (by rw[hrec];simp);rw[hrec]at this;exact this,hdone _ (hI.putObj _ hi (by omega) hl rfl) ((World.putObj_heap_other (by omega)).trans hk)⟩
  ·exact⟨some c,_,by have:=run_endLoop (P:=P) hl (by rw[hrec];simp);rw[hrec]at this;exact this,hstop i c _ hi0 hi1 ((hIx c).putObj _ hc (by omega) hl rfl) ((World.putObj_heap_other (by omega)).trans hk)⟩
theorem wpList_append_sl {P:Program} {ops:Array Oper} {rest:List Oper} {o:Oper} {a:Act} {w:World} {Q:Exit→Act→World→Prop} (hgd:o.guard=none) (s x:Operand) (t:TypeId)
  (ho:o.op=.call { callee:=.builtin .append,args:=#[s,x],argTypes:=#[t,t] })
  {α:Type} {enc:α→List Value} {k:Nat} (hk:∀ a,(enc a).length=k) (h1:∀ a,∀ u∈enc a,u.oneCell'=true)
  (base:Nat) (e:TypeId) (i:TypeInfo) (z:Value) (bytes:Nat) (ht:P.underlying t=some (.slice e)) (hi:P.info? e=some i) (hz:i.zero=some z)
  (hsize:i.size=k) (hby:i.bytes=bytes) (hzs:z.cells.size=k) (hsz:0<k)
  (v:Value) (l:List α) (hs:a.eval s=v) (hown:w.ownsRow base e k v l.length (l.flatMap enc))
  (u:Value) (m:List α) (hx:a.eval x=u) (hm:Sl enc k w u m)
  (h63:l.length+m.length≤maxLen) (hbytes:(l.length+m.length)*bytes≤140737488355328) (hbase:base≤w.heap.size)
  (h:∀ v' w',w'.ownsRow base e k v' (l++m).length ((l++m).flatMap enc)→(∀ a0,New a0 w→a0.heap.size≤base→New a0 w')→(∀ b,b<base→w'.heap[b]? = w.heap[b]?)→wpList P ops Q rest (a.put o.dst v') w'):wpList P ops Q (o::rest) a w:=by
 obtain⟨at0,c,rfl,hc,hcm,hnone,hrow⟩:=hm
 cases at0 with
 | none =>
  have hc0:=hnone rfl
  have hm0:m=[]:=List.eq_nil_of_length_eq_zero (by omega)
  subst hm0
  rw[hc0]at hx
  exact Lib.wpList_append_run w hgd s x t t ho _ _ hs hx _ _ (run_append_owned_none (P:=P) w base t o.type e i k ht hi _ _ _ hown) (h _ _ (by simpa using hown) (fun _ h _=>h) (fun _ _=>rfl))
 | some ad =>
  refine wpList_append_own w hgd s x t ho base e i z k bytes ht hi hz hsize hby hzs hsz v l.length (l.flatMap enc) hs hown ad m.length c (m.flatMap enc) hx (flatMap_len hk m) (sl_news hk ⟨some ad,c,rfl,hc,hcm,hnone,hrow⟩) (by intro u hu;obtain⟨y,_,hy⟩:=List.mem_flatMap.1 hu;exact h1 y u hy) h63 hbytes hbase (fun v' w' h2 h3 _=>?_)
  refine h v' w' (by rw[List.length_append,List.flatMap_append];exact h2) (fun a0 hn hb=>newGrown hn h3 (fun j hj=>Nat.le_trans hb (own_block hown j hj))) (fun b hb=>h3.block b (by omega) (fun e=>by have:=own_block hown b e.symm;omega))
theorem cell_block {w w':World} {b:Nat} (h:w'.heap[b]? = w.heap[b]?) {o:Nat} {v:Value} (hc:w.cell? ⟨b,o,none⟩=some v):w'.cell? ⟨b,o,none⟩=some v:=by
 unfold World.cell? at hc ⊢
 rw[h];exact hc
theorem frozen_block {w w':World} {b:Nat} (h:w'.heap[b]? = w.heap[b]?) {o:Nat} {f:Bool} (hc:w.frozen? ⟨b,o,none⟩=f):w'.frozen? ⟨b,o,none⟩=f:=by
 unfold World.frozen? at hc ⊢
 rw[h];exact hc
def fixV:List Value→(World→Value→Prop)→Nat→World→Value→Prop
 | [],P,_,w,v=>P w v
 | c::_,_,0,_,v=>v=c
 | _::cs,P,i+1,w,v=>fixV cs P i w v
theorem fixV_keep {P:World→Value→Prop} (hP:∀ w w' v,P w v→New w w'→P w' v):∀ (cs:List Value) (i:Nat) (w w':World) (v:Value),fixV cs P i w v→New w w'→fixV cs P i w' v
 | [],_,w,w',v,h,n=>hP w w' v h n
 | _::_,0,_,_,_,h,_=>h
 | _::cs,i+1,w,w',v,h,n=>fixV_keep hP cs i w w' v h n
theorem own_shape2 {w:World} {base size:Nat} {e:TypeId} {v:Value} {n:Nat} {xs:List Value} (h:w.ownsRow base e size v n xs):∃ a c N,N=n∧v=.slice a N c:=by
 rcases h.2 with ⟨rfl,rfl⟩|⟨g,cap,cur,rfl,_⟩
 ·exact⟨_,_,_,rfl,rfl⟩
 ·exact⟨_,_,_,rfl,rfl⟩
theorem cell_lt {w:World} {b o:Nat} {v:Value} (h:w.cell? ⟨b,o,none⟩=some v):b<w.heap.size:=World.block_lt_of_cell? _ _ h
section
variable {α:Type}
def mid (l:List α) (p:Nat) (x:α) (m:Nat):List α:=if m≤p then l.take m else l.take p++[x]++(l.drop p).take (m - p)
end
def Thr (w:World) (b n:Nat):Prop:=∀ j,j<n→(∃ v,w.cell? ⟨b,j,none⟩=some v)∧w.frozen? ⟨b,j,none⟩=false
theorem Thr.keep {w w':World} {b n:Nat} (h:Thr w b n) (hn:New w w'):Thr w' b n:=fun j hj=>by
 obtain⟨⟨v,hv⟩,hf⟩:=h j hj
 exact⟨⟨v,hn.keep hv⟩,hn.keepF hv hf⟩
theorem Thr.lt {w:World} {b n:Nat} (h:Thr w b n) (h0:0<n):b<w.heap.size:=by
 obtain⟨⟨v,hv⟩,_⟩:=h 0 h0
 exact World.block_lt_of_cell? _ _ hv
theorem Thr.new (w:World) (cs:Array Value) (T:TypeId) (b:Nat) (hb:w.heap.size=b):Thr (w.alloc (.cells cs T)) b cs.size:=fun j hj=>by
 subst hb
 have h1:(w.alloc (.cells cs T)).heap[w.heap.size]? = some (.cells cs T):=heap_new _ _
 exact⟨⟨cs[j],cell_of_heap h1 (by simp[hj])⟩,frozen_of_heap h1⟩
theorem new_setCells {a w:World} {b:Nat} (h:New a w) (hb:a.heap.size≤b):∀ (vs:List Value) (o:Nat),New a (w.setCells b o vs)
 | [],o=>h
 | v::vs,o=>by
  rw[World.setCells]
  exact new_setCells (New.setCell h (p:=⟨b,o,none⟩) hb v) hb vs (o+1)
theorem wpList_store_row {P:Program} {ops:Array Oper} {rest:List Oper} {op:Oper} {a:Act} {w:World} {Q:Exit→Act→World→Prop} (hgd:op.guard=none) (ty:TypeId) (x y:Operand) (ho:op.op=.store ty x y)
  (b:Nat) (cells:Array Value) (hx:a.eval x=.pointer (some ⟨b,0,none⟩)) (hy:a.eval y=.agg cells)
  (ht:Thr w b cells.size) (hi:(P.info? ty).map (·.size)=some cells.size) (h1:∀ v∈cells.toList,v.oneCell'=true)
  (h:∀ W,(∀ a0,New a0 w→a0.heap.size≤b→New a0 W)→(∀ b' o v,b'≠b→w.cell? ⟨b',o,none⟩=some v→W.cell? ⟨b',o,none⟩=some v)→CellsAt W b 0 cells.toList→wpList P ops Q rest (a.put op.dst undef) W):wpList P ops Q (op::rest) a w:=by
 have ht':w.there b 0 cells.size:=fun j hj=>by
  obtain⟨⟨v,hv⟩,hf⟩:=ht j hj
  rw[Nat.zero_add]
  exact⟨by rw[hv];rfl,hf⟩
 refine wpList_store_mid hgd ty x y ho b 0 cells hx hy ht' hi (all_oneCell_toArray h1) (h _ (fun a0 h0 hb=>new_setCells h0 hb _ _) (fun b' o v hne hv=>by rw[World.cell?_setCells_out b _ 0 w ⟨b',o,none⟩ (fun e=>absurd e hne)];exact hv) ?_)
 intro j hj
 have:=World.rangeAt_setCells_same w b 0 cells.toList (by simpa using ht')
 exact this j _ (List.getElem?_eq_getElem hj)
theorem sl_but {α:Type} {enc:α→List Value} {k:Nat} {w W:World} {b:Nat} {v:Value} {l:List α} (h:Sl enc k w v l) (hb:∀ j,v.ownBlock=some j→j≠b) (hk:∀ b' o u,b'≠b→w.cell? ⟨b',o,none⟩=some u→W.cell? ⟨b',o,none⟩=some u):Sl enc k W v l:=by
 obtain⟨a,c,rfl,h1,h2,h3,h4⟩:=h
 refine⟨a,c,rfl,h1,h2,h3,fun h0=>?_⟩
 obtain⟨B,off,rfl,hA⟩:=h4 h0
 exact⟨B,off,rfl,fun j hj i hi=>hk _ _ _ (hb B rfl) (hA j hj i hi)⟩
structure SoupV.own (S:SoupV) (n:Nat):Prop where
 t:∀ j,(Value.slice S.a0 S.ts.length S.c0).ownBlock=some j→n≤j
 b:∀ j,(Value.slice S.a1 S.bs.length S.c1).ownBlock=some j→n≤j
 h:∀ j,(Value.slice S.a2 S.hs.length S.c2).ownBlock=some j→n≤j
def SoupIs (T:List TriR) (B:List BoxR) (H:List HopR) (w:World) (e:Ending) (w':World):Prop:=∃ S:SoupV,e=.returned (.agg #[.slice S.a0 S.ts.length S.c0,.slice S.a1 S.bs.length S.c1,.slice S.a2 S.hs.length S.c2])∧S.ok w'∧S.ts=T∧S.bs=B∧S.hs=H∧S.own w.heap.size∧New w w'
theorem SoupV.ok_but {S:SoupV} {w W:World} {b n:Nat} (h:S.ok w) (ho:S.own n) (hb:b<n) (hk:∀ b' o u,b'≠b→w.cell? ⟨b',o,none⟩=some u→W.cell? ⟨b',o,none⟩=some u):S.ok W :=
 ⟨sl_but h.t (fun j hj=>by have:=ho.t j hj;omega) hk,sl_but h.b (fun j hj=>by have:=ho.b j hj;omega) hk,sl_but h.h (fun j hj=>by have:=ho.h j hj;omega) hk⟩
theorem SoupV.own.mono {S:SoupV} {n m:Nat} (h:S.own n) (hm:m≤n):S.own m:=⟨fun j hj=>Nat.le_trans hm (h.t j hj),fun j hj=>Nat.le_trans hm (h.b j hj),fun j hj=>Nat.le_trans hm (h.h j hj)⟩
end Go.Proofs.YtmhghnbgllaihaaGreatDoor

namespace Go.Proofs.YtmhghnbgllaihaaGreatDoor
open Go.RowKit Go.Shelf Go.Sort
theorem New.stays {w w':World} (h:New w w') {b:Nat} {o:Obj} (hb:w.heap[b]? = some o):w'.heap[b]? = some o:=(h.block b (Array.getElem?_eq_some_iff.1 hb).1).trans hb
def KeepS (S:List Nat) (W W':World):Prop:=∀ b∈S,W'.heap[b]? = W.heap[b]?
theorem KeepS.refl {S:List Nat} (W:World):KeepS S W W:=fun _ _=>rfl
theorem KeepS.trans {S:List Nat} {X Y Z:World} (h:KeepS S X Y) (k:KeepS S Y Z):KeepS S X Z:=fun b hb=>(k b hb).trans (h b hb)
theorem KeepS.new {S:List Nat} {w W:World} (hS:∀ b∈S,b<w.heap.size) (n:New w W):KeepS S w W:=fun b hb=>n.block b (hS b hb)
theorem own_keepS {β:Type} {S:List Nat} {w:World} {D:Nat} (hS:∀ b∈S,∃ o:Obj,w.heap[b]? = some o∧o.isCells=true):OwnFrom D (fun(_:β) W=>KeepS S w W):=fun _ X Y row hs hg hr b hb=>by
 obtain⟨o,ho,hc⟩:=hS b hb
 have hX:X.heap[b]? = some o:=(hs b hb).trans ho
 refine(hg.block b (Array.getElem?_eq_some_iff.1 hX).1 (fun e'=>?_)).trans (hs b hb)
 obtain⟨_,o',ho',hc'⟩:=hr b e'.symm
 rw[hX]at ho';cases ho';rw[hc]at hc';cases hc'
theorem cells_of_cell {W:World} {a:Addr} {v:Value} (h:W.cell? a=some v):∃ o:Obj,W.heap[a.block]? = some o∧o.isCells=true:=by
 unfold World.cell? at h
 cases ho:W.heap[a.block]? with
 | none=>simp[ho]at h
 | some o=>exact⟨o,rfl,by cases o <;> simp_all [Obj.isCells]⟩
theorem roundIn_in {n m l':Nat} {P:Program} {l:Nat} {f:FuncId} {tmps:Array Value} {assign body:Code} {w:World} {R:Ending→World→Prop} (h:RoundIn Fence.wide n P l f tmps assign body w R):RoundIn (Fence.wide.inRound l') m P l f tmps assign body w R :=
 ⟨h.1,fun c cs _=>h.2 c cs (room_wide _)⟩
theorem callsIn_in {m l':Nat} {P:Program} {f:FuncId} {args:Array Value} {w:World} {R:Ending→World→Prop} (h:Calls P f args w R):CallsIn (Fence.wide.inRound l') m P f args w R :=
 (callsIn_wide (n:=m)).2 h
theorem grown_new {w w':World} (h:New w w'):w.grownBy w' none:=⟨h.os,h.tape,h.output,h.size,fun k hk _=>h.block k hk⟩
theorem keepsFrom_new {B:Nat} {w w':World} (h:New w w'):KeepsFrom B w w':=⟨h.size,fun k o _ h0 _=>(h.block k (Array.getElem?_eq_some_iff.1 h0).1).trans h0⟩
theorem own_over {β:Type} {B:Nat} {J:β→World→Prop} (h:OwnFrom B J) {s:β} {w w':World} (hs:J s w) (n:New w w'):J s w':=h s w w' none hs (grown_new n) (fun r e=>by cases e)
theorem own_up {β γ:Type} {B B':Nat} {J:β→World→Prop} (f:γ→β) (h:OwnFrom B J) (hB:B≤B'):OwnFrom B' (fun(s:γ) W=>J (f s) W):=fun s X Y row hs hg hr=>h (f s) X Y row hs hg (fun r e=>⟨Nat.le_trans hB (hr r e).1,(hr r e).2⟩)
end Go.Proofs.YtmhghnbgllaihaaGreatDoor

namespace Go.Proofs.YtmhghnbgllaihaaGreatDoor
theorem mul_bd {a b A B:Int} (ha : -A≤a∧a≤A) (hb : -B≤b∧b≤B) : -(A*B)≤a*b∧a*b≤A*B:=by
 have hA:0≤A:=by omega
 have hB:0≤B:=by omega
 have h1:0≤(A - a)*(B - b):=Int.mul_nonneg (by omega) (by omega)
 have h2:0≤(A+a)*(B+b):=Int.mul_nonneg (by omega) (by omega)
 have h3:0≤(A - a)*(B+b):=Int.mul_nonneg (by omega) (by omega)
 have h4:0≤(A+a)*(B - b):=Int.mul_nonneg (by omega) (by omega)
 simp only[Int.sub_mul,Int.mul_sub,Int.add_mul,Int.mul_add]at h1 h2 h3 h4
 omega
open Go.RowKit
theorem not_bad {l:List Sn} (h:fstB badS l=false):∀ p∈l,-2048≤p.lo∧p.lo≤p.hi∧p.hi≤2048:=fun p hp=>by
 unfold fstB at h
 rw[List.any_eq_false]at h
 have:=h p hp
 exact(badS_not p).1 (by cases hb:badS p;rfl;exact absurd hb this)
theorem heap_setCells_other (b:Nat):∀ (vs:List Value) (o:Nat) (W:World) (k:Nat),k≠b→(W.setCells b o vs).heap[k]? = W.heap[k]?
 | [],o,W,k,h=>rfl
 | v::vs,o,W,k,h=>by rw[World.setCells,heap_setCells_other b vs _ _ k h];exact Below.heap_setCell _ _ _ _ h
theorem wpList_store_blk {P:Program} {ops:Array Oper} {rest:List Oper} {op:Oper} {a:Act} {w:World} {Q:Exit→Act→World→Prop} (hgd:op.guard=none) (ty:TypeId) (x y:Operand) (ho:op.op=.store ty x y)
  (b:Nat) (cells:Array Value) (hx:a.eval x=.pointer (some ⟨b,0,none⟩)) (hy:a.eval y=.agg cells)
  (ht:Thr w b cells.size) (hi:(P.info? ty).map (·.size)=some cells.size) (h1:∀ v∈cells.toList,v.oneCell'=true)
  (h:∀ W,(∀ a0,New a0 w→a0.heap.size≤b→New a0 W)→(∀ b',b'≠b→W.heap[b']? = w.heap[b']?)→CellsAt W b 0 cells.toList→wpList P ops Q rest (a.put op.dst undef) W):wpList P ops Q (op::rest) a w:=by
 have ht':w.there b 0 cells.size:=fun j hj=>by
  obtain⟨⟨v,hv⟩,hf⟩:=ht j hj
  rw[Nat.zero_add]
  exact⟨by rw[hv];rfl,hf⟩
 refine wpList_store_mid hgd ty x y ho b 0 cells hx hy ht' hi (all_oneCell_toArray h1) (h _ (fun a0 h0 hb=>new_setCells h0 hb _ _) (fun b' hne=>heap_setCells_other b _ _ _ _ hne) fun j hj=>?_)
 have:=World.rangeAt_setCells_same w b 0 cells.toList (by simpa using ht')
 exact this j _ (List.getElem?_eq_getElem hj)
section
variable {P:Program} {ops:Array Oper} {W:World} {n e:Nat}
def sinkE (ops:Array Oper) (n e:Nat):Bool :=
 (List.range n).all fun i=>i==e||(List.range (n+1)).any fun j=>decide (i<j)&&j != e&&Region.waitsFor .any ops j i
theorem tail_waitsE {listed:Array Bool} (hs:sinkE ops n e=true) (hc:chain2B ops n=true) (hn:n<ops.size) (inv:HeadInv .any ops n listed) (i:Nat) (hi:i<n) (hie:i≠e) (hun:listed.getD i true=false) :
  ∀ t,n≤t→t∉Region.ready .any ops listed:=by
 intro t ht hr
 obtain⟨_,ot,hot,hall⟩:=mem_ready.1 hr
 have htlt:t<ops.size:=(Array.getElem?_eq_some_iff.1 hot).1
 by_cases htn:t=n
 ·subst htn
  have key:∀ (d i:Nat),t - i=d→i<t→i≠e→listed.getD i true=false→False:=by
   intro d
   induction d using Nat.strongRecOn with
   | _ d ih =>
    intro i hd hi hie hun
    have h1:=List.all_eq_true.1 hs i (List.mem_range.2 hi)
    simp only[Bool.or_eq_true,beq_iff_eq,hie,false_or]at h1
    obtain⟨j,hj,hj2⟩:=List.any_eq_true.1 h1
    simp only[Bool.and_eq_true,decide_eq_true_eq,bne_iff_ne]at hj2
    obtain⟨oj,hoj,x,he,hb,hon⟩:=Region.waitsFor_spec hj2.2
    have hjle:j≤t:=by have:=List.mem_range.1 hj;omega
    by_cases hjt:j=t
    ·subst hjt
     have:oj=ot:=Option.some.inj (hoj.symm.trans hot)
     subst this
     have h2:=hall x he hb
     rw[hon,getD_both hun]at h2
     cases h2
    ·cases hl:listed.getD j false with
     | true =>
      have h2:=inv.closed j oj hoj hl x he hb
      rw[hon,getD_both hun]at h2
      cases h2
     | false =>
      have hjs:j<listed.size:=by rw[inv.size];omega
      exact ih (t - j) (by omega) j rfl (by omega) hj2.1.2 (getD_in hjs hl)
  exact key _ i rfl hi hie hun
 ·have h1:=List.all_eq_true.1 hc t (List.mem_range.2 htlt)
  simp only[Bool.or_eq_true,decide_eq_true_eq]at h1
  rcases h1 with h1|h1
  ·omega
  ·obtain⟨j,hj,hj2⟩:=List.any_eq_true.1 h1
   simp only[Bool.and_eq_true,decide_eq_true_eq]at hj2
   have hjt:=List.mem_range.1 hj
   obtain⟨o',ho',x,he,hb,hon⟩:=Region.waitsFor_spec hj2.2
   have:o'=ot:=Option.some.inj (ho'.symm.trans hot)
   subst this
   have h2:=hall x he hb
   rw[hon,getD_both (inv.tail j hj2.1 (by omega))]at h2
   cases h2
theorem linv_step {V:Nat→World→Value→Prop} {a a':Act} {listed:Array Bool} {w' w'':World} {i d:Nat} {o:Oper} {v:Value} (hV:∀ i w w' v,V i w v→New w w'→V i w' v) (K:LInv ops W n V a listed a' w') (hin:i<n) (hoi:ops[i]? = some o) (hd:o.dst=some d) (hds:d<a.tmps.size)
  (hdis:∀ k o',k<n→k≠i→ops[k]? = some o'→o'.dst≠some d) (hn:New w' w'') (hv:V i w'' v):LInv ops W n V a (listed.setIfInBounds i true) (a'.put (some d) v) w'':=by
 refine⟨K.new.trans hn,by rw[put_def];exact K.defs,by rw[put_size];exact K.size,fun s h=>?_,fun j oj dj hj hoj hl hdj=>?_⟩
 ·rw[put_get_ne (by rintro _ ⟨rfl⟩ x;subst x;exact h i o hin hoi hd)]
  exact K.same s h
 ·by_cases hji:j=i
  ·subst hji
   obtain rfl:oj=o:=Option.some.inj (hoj.symm.trans hoi)
   obtain rfl:dj=d:=Option.some.inj (hdj.symm.trans hd)
   rw[eval_get,put_get_eq (by rw[K.size];exact hds)]
   exact hv
  ·rw[getD_set_ne false (fun x=>hji x.symm)]at hl
   have h1:=hdis j oj hj hji hoj
   rw[eval_get,put_get_ne (by rintro _ ⟨rfl⟩ x;subst x;exact h1 hdj),←eval_get]
   exact hV _ _ _ _ (K.held j oj dj hj hoj hl hdj) hn
theorem linv_putL {l:List Oper} {V:Nat→World→Value→Prop} {a a':Act} {listed:Array Bool} {w':World} (ho:∀ j,j<n→opB l.toArray n a.tmps.size j=true) (hall:∀ j,j<n→listed.getD j false=true) (K:LInv l.toArray W n V a listed a' w') :
  ∃ vs:Nat→Value,(∀ j,j<n→V j w' (vs j))∧putL (l.take n) vs 0 a=a':=by
 refine⟨fun j=>a'.eval (.tmp (((l.toArray[j]?).bind (·.dst)).getD 0)),fun j hj=>?_,?_⟩
 ·obtain⟨o,d,hoj,_,hd,_⟩:=opB_spec (ho j hj)
  have:=K.held j o d hj hoj (hall j hj) hd
  show V j w' (a'.eval (.tmp (((l.toArray[j]?).bind (·.dst)).getD 0)))
  rw[hoj]
  show V j w' (a'.eval (.tmp (o.dst.getD 0)))
  rw[hd]
  exact this
 ·have hta:∀ i o,(l.take n)[i]? = some o→i<n∧l.toArray[i]? = some o:=fun i o h=>by
   have h1:i<(l.take n).length:=(List.getElem?_eq_some_iff.1 h).1
   have h2:i<n:=by simp at h1;omega
   rw[List.getElem?_take,if_pos h2]at h
   exact⟨h2,by simpa using h⟩
  refine act_eq (by rw[putL_def,K.defs]) fun s=>?_
  by_cases hw:∃ j oj,j<n∧l.toArray[j]? = some oj∧oj.dst=some s
  ·obtain⟨j,oj,hj,hoj,hd⟩:=hw
   obtain⟨o,d,hoj',_,hd',hds,hdis,_⟩:=opB_spec (ho j hj)
   obtain rfl:oj=o:=Option.some.inj (hoj.symm.trans hoj')
   obtain rfl:s=d:=Option.some.inj (hd.symm.trans hd')
   rw[putL_some (l.take n) _ 0 a j oj (by rw[List.getElem?_take,if_pos hj];simpa using hoj) hd hds fun i o' hi hij hd2=>hdis i o' (hta i o' hi).1 hij (hta i o' hi).2 hd2]
   rw[Nat.zero_add,hoj]
   show some (a'.eval (.tmp ((oj.dst).getD 0)))=_
   rw[hd]
   show some (a'.eval (.tmp s))=_
   rw[eval_get,Array.getElem?_eq_getElem (by rw[K.size];exact hds)]
   rfl
  ·rw[putL_none _ _ _ _ fun o ho' hd=>by
    obtain⟨i,hi,he⟩:=List.getElem_of_mem ho'
    have:=hta i o (by rw[List.getElem?_eq_getElem hi,he])
    exact hw ⟨i,o,this.1,this.2,hd⟩]
   exact(K.same s fun j oj hj hoj hd=>hw ⟨j,oj,hj,hoj,hd⟩).symm
theorem wpAny_looseE {V:Nat→World→Value→Prop} {a:Act} {Q:Exit→Act→World→Prop} {g:Nat} (he:e<n) (hs:sinkE ops n e=true) (hc:chain2B ops n=true) (hlt:n<ops.size) (ho:∀ j,j<n→opB ops n a.tmps.size j=true)
  (hV:∀ i w w' v,V i w v→New w w'→V i w' v)
  (hstep:∀ i o,i<n→ops[i]? = some o→∀ a' w',New W w'→(∀ t,restsB ops n t=true→a'.eval (.tmp t)=a.eval (.tmp t))→(∀ j d,j<n→waitsB o j=true→(ops[j]?).bind (·.dst)=some d→V j w' (a'.eval (.tmp d)))→Yields P o a' w' fun v w''=>New w' w''∧V i w'' v)
  (hL:∀ listed a' w',(∀ j,j<n→listed.getD j false=true)→HeadInv .any ops n listed→LInv ops W n V a listed a' w'→wpAny P .any ops Q g listed a' w')
  (hE:∀ listed a' w',(∀ j,j<n→j≠e→listed.getD j false=true)→listed.getD e false=false→HeadInv .any ops n listed→LInv ops W n V a listed a' w'→wpAny P .any ops Q (g+1) listed a' w') :
  ∀ (f:Nat) (listed:Array Bool) (a':Act) (w':World),HeadInv .any ops n listed→toCome listed n=f→LInv ops W n V a listed a' w'→wpAny P .any ops Q (f+g) listed a' w'
 | 0,listed,a',w',inv,hf,K=>by rw[Nat.zero_add];exact hL _ _ _ (toCome_zero n hf) inv K
 | f+1,listed,a',w',inv,hf,K=>by
  by_cases hH:∃ i,i<n∧i≠e∧listed.getD i false=false
  rotate_left
  ·have hall:∀ j,j<n→j≠e→listed.getD j false=true:=fun j hj hje=>by
    cases h:listed.getD j false with
    | true=>rfl
    | false=>exact absurd ⟨j,hj,hje,h⟩ hH
   obtain⟨i0,hi0,hf0⟩:=toCome_some (listed:=listed) n (by omega)
   have h0e:i0=e:=by
    by_cases h:i0=e
    ·exact h
    ·rw[hall i0 hi0 h]at hf0;cases hf0
   subst h0e
   have hse:=toCome_set (i:=i0) (listed:=listed) (by rw[inv.size];omega) hf0 n hi0
   have hz:toCome (listed.setIfInBounds i0 true) n=0:=by
    rcases Nat.eq_zero_or_pos (toCome (listed.setIfInBounds i0 true) n)with q|q
    ·exact q
    ·obtain⟨j,hj,hjf⟩:=toCome_some n q
     by_cases hji:j=i0
     ·subst hji
      have:(listed.setIfInBounds j true).getD j false=true:=by simp[Array.getD_eq_getD_getElem?,show j<listed.size by rw[inv.size];omega]
      rw[this]at hjf;cases hjf
     ·rw[getD_set_ne false (fun x=>hji x.symm),hall j hj hji]at hjf;cases hjf
   have hf1:f=0:=by omega
   subst hf1
   rw[show 0+1+g=g+1 by omega]
   exact hE _ _ _ hall hf0 inv K
  obtain⟨ih,hih1,hih2,hih3⟩:=hH
  rw[show f+1+g=(f+g)+1 by omega]
  obtain⟨i0,hi0,hm0⟩:=exists_least (toCome_some n (by omega:0<toCome listed n))
  obtain⟨o0,d0,ho0,_,_,_,_,haf⟩:=opB_spec (ho i0 hi0.1)
  have hsz:i0<listed.size:=by rw[inv.size];omega
  have hr0:i0∈Region.ready .any ops listed:=mem_ready.2 ⟨getD_in hsz hi0.2,o0,ho0,fun x he hb=>by
   have h1:=haf x he hb
   cases hl:listed.getD x.on false with
   | true=>rfl
   | false=>have:=hm0 x.on ⟨by omega,hl⟩;omega⟩
  refine⟨fun h0=>absurd hr0 (by rw[h0];simp),fun i hi=>?_⟩
  have hin:i<n:=Nat.lt_of_not_le fun h=>tail_waitsE hs hc hlt inv ih hih1 hih2 (getD_in (by rw[inv.size];omega) hih3) i h hi
  obtain⟨hun,o',ho',hall⟩:=mem_ready.1 hi
  obtain⟨o,d,hoi,hg,hd,hds,hdis,_⟩:=opB_spec (ho i hin)
  obtain rfl:o'=o:=Option.some.inj (ho'.symm.trans hoi)
  unfold wpOp
  simp only[hoi]
  have hw:Region.wanted o' (yielded ops a'.tmps)=true:=by unfold Region.wanted;rw[hg]
  rw[if_pos hw]
  refine .inl (yields_wp (hstep i o' hin hoi a' w' K.new (fun t ht=>?_) (fun j dj hj hwj hdj=>?_)) fun v w'' ⟨hn,hv⟩=>?_)
  ·rw[eval_get,eval_get,K.same t fun j oj hj hoj hd'=>by
    have h1:=List.all_eq_true.1 ht j (List.mem_range.2 hj)
    simp only[hoj,bne_iff_ne]at h1
    exact h1 hd']
  ·obtain⟨x,he,hb⟩:=Array.any_eq_true'.1 hwj
   simp only[Bool.and_eq_true,beq_iff_eq]at hb
   have h1:=hall x he hb.1
   rw[hb.2]at h1
   cases hoj:ops[j]? with
   | none=>rw[hoj]at hdj;cases hdj
   | some oj =>
    rw[hoj]at hdj
    exact K.held j oj dj hj hoj h1 hdj
  ·rw[hd]
   exact wpAny_looseE he hs hc hlt ho hV hstep hL hE f _ _ _ (inv.set hi hin) (by have:=toCome_set (by rw[inv.size];omega) (getD_both hun) n hin;omega) (linv_step hV K hin hoi hd hds hdis hn hv)
def looseE (ops:Array Oper) (n e sz:Nat):Bool :=
 sinkE ops n e&&chain2B ops n&&decide (n<ops.size)&&decide (e<n)&&(List.range n).all (opB ops n sz)&&Region.seqB .any ops (ops.size - n) n (heads ops.size n) &&
 (Region.ready .any ops ((heads ops.size n).setIfInBounds e false)).all (fun j=>j==e||j==n)&&(Region.ready .any ops ((heads ops.size n).setIfInBounds e false)).contains e &&
 decide (Region.ready .any ops (((heads ops.size n).setIfInBounds e false).setIfInBounds n true)=[e])&&Region.seqB .any ops (ops.size - (n+1)) (n+1) ((((heads ops.size n).setIfInBounds e false).setIfInBounds n true).setIfInBounds e true)
theorem wp_region_loose_e {id:Nat} {Q:Exit→Act→World→Prop} {a:Act} {w:World} {l:List Oper} (n e:Nat) (V:Nat→World→Value→Prop) {oe os:Oper} {de:Nat} (hm:P.follows .mixedOrders=true) (hB:looseE l.toArray n e a.tmps.size=true)
  (hoe:l.toArray[e]? = some oe) (hde:oe.dst=some de) (hos:l.toArray[n]? = some os) (hod:os.dst=none) (hog:os.guard=none) (hlook:de∉os.looksAt l.toArray) (hsel:∀ cs b,os.op≠.select cs b)
  (hV:∀ i w w' v,V i w v→New w w'→V i w' v)
  (hstep:∀ i o,i<n→l.toArray[i]? = some o→∀ a' w',New w w'→(∀ t,restsB l.toArray n t=true→a'.eval (.tmp t)=a.eval (.tmp t))→(∀ j d,j<n→waitsB o j=true→(l.toArray[j]?).bind (·.dst)=some d→V j w' (a'.eval (.tmp d)))→Yields P o a' w' fun v w''=>New w' w''∧V i w'' v)
  (hpure:∀ (a':Act) (w':World),New w w'→(∀ j d,j<n→waitsB oe j=true→(l.toArray[j]?).bind (·.dst)=some d→V j w' (a'.eval (.tmp d)))→∃ v,∀ W,(execOp a'.eval oe).run P W=.ok (.value v) W)
  (htail:∀ vs w',New w w'→(∀ j,j<n→V j w' (vs j))→∃ w2,(execOp (putL (l.take n) vs 0 a).eval os).run P w'=.ok .skip w2∧wpList P l.toArray Q (l.drop (n+1)) (putL (l.take n) vs 0 a) w2):(Code.region id l.toArray true).wp P Q a w:=by
 simp only[looseE,Bool.and_eq_true,decide_eq_true_eq]at hB
 obtain⟨⟨⟨⟨⟨⟨⟨⟨⟨hs,hc⟩,hlt⟩,hen⟩,hops⟩,hseq⟩,hr1⟩,hr2⟩,hr3⟩,hseq2⟩:=hB
 have ho:∀ j,j<n→opB l.toArray n a.tmps.size j=true:=fun j hj=>List.all_eq_true.1 hops j (List.mem_range.2 hj)
 have hll:l.toArray.size=l.length:=by simp
 have inv0:HeadInv .any l.toArray n (Array.replicate l.toArray.size false) :=
  ⟨by simp,fun j oj _ hl=>(by rw[getD_replicate_false]at hl;cases hl),fun t _ ht=>getD_in (by simpa using ht) (getD_replicate_false _ _)⟩
 have h0:∀ k,toCome (Array.replicate l.toArray.size false) k=k:=by
  intro k
  induction k with
  | zero=>rfl
  | succ k ih =>
   unfold toCome
   rw[ih,getD_replicate_false]
   simp
   omega
 have hdrop:l.drop n=os::l.drop (n+1):=by
  have hn':n<l.length:=by omega
  rw[List.drop_eq_getElem_cons hn']
  have:l.toArray[n]? = some l[n]:=by simp[hn']
  rw[this]at hos
  rw[Option.some.inj hos]
 have hwant:∀ ts,Region.wanted os (yielded l.toArray ts)=true:=fun ts=>by unfold Region.wanted;rw[hog]
 have hLall:∀ listed a' w',(∀ j,j<n→listed.getD j false=true)→HeadInv .any l.toArray n listed→LInv l.toArray w n V a listed a' w'→wpAny P .any l.toArray Q (l.toArray.size - n) listed a' w':=fun listed a' w' hall inv K=>by
  have hlist:listed=heads l.toArray.size n:=by
   refine Array.ext (by rw[inv.size];simp[heads]) fun j h1 h2=>?_
   have hj:j<l.toArray.size:=by rw[←inv.size];exact h1
   have e2:(heads l.toArray.size n)[j]=decide (j<n):=by simp[heads]
   rw[e2]
   by_cases hjn:j<n
   ·have:=hall j hjn
    rw[Array.getD_eq_getD_getElem?,Array.getElem?_eq_getElem h1]at this
    simpa [hjn]using this
   ·have:=inv.tail j (by omega) hj
    rw[Array.getD_eq_getD_getElem?,Array.getElem?_eq_getElem h1]at this
    simpa [hjn]using this
  have hdl:(l.drop n).length=l.toArray.size - n:=by simp
  obtain⟨vs,hvs,hput⟩:=linv_putL ho hall K
  obtain⟨w2,hrun,hrest⟩:=htail vs w' K.new hvs
  rw[hput]at hrun hrest
  have hw:=wpAny_of_seq (P:=P) (md:=.any) (ops:=l.toArray) (Q':=Q) (l.drop n) n listed a' w' (fun j=>by simp[List.getElem?_drop]) (by rw[hdl,hlist];exact hseq) (by
   rw[hdrop]
   unfold wpList
   rw[if_pos (hwant _)]
   refine .inl ?_
   unfold Oper.wp
   rw[hrun,Oper.upon_skip,hod]
   exact hrest)
  rwa [hdl]at hw
 refine wp_region_any hm ?_
 have:=wpAny_looseE (P:=P) (W:=w) (V:=V) (Q:=Q) (g:=l.toArray.size - n) (a:=a) hen hs hc hlt ho hV hstep hLall (fun listed a' w' hall hef inv K=>by
  have hlist:listed=(heads l.toArray.size n).setIfInBounds e false:=by
   refine Array.ext (by rw[inv.size];simp[heads]) fun j h1 h2=>?_
   have hj:j<l.toArray.size:=by rw[←inv.size];exact h1
   have e2:((heads l.toArray.size n).setIfInBounds e false)[j]=if e=j then false else decide (j<n):=by
    rw[Array.getElem_setIfInBounds (by simpa [heads]using hj)]
    simp[heads]
   rw[e2]
   by_cases hej:e=j
   ·subst hej
    rw[Array.getD_eq_getD_getElem?,Array.getElem?_eq_getElem h1]at hef
    simpa using hef
   ·rw[if_neg hej]
    by_cases hjn:j<n
    ·have:=hall j hjn (fun x=>hej x.symm)
     rw[Array.getD_eq_getD_getElem?,Array.getElem?_eq_getElem h1]at this
     simpa [hjn]using this
    ·have:=inv.tail j (by omega) hj
     rw[Array.getD_eq_getD_getElem?,Array.getElem?_eq_getElem h1]at this
     simpa [hjn]using this
  rw[←hlist]at hr1 hr2 hr3 hseq2
  have hre:e∈Region.ready .any l.toArray listed:=by simpa using hr2
  obtain⟨oe',de',hoe',hge,hde',hdes,hdise,_⟩:=opB_spec (ho e hen)
  obtain rfl:oe'=oe:=Option.some.inj (hoe'.symm.trans hoe)
  obtain rfl:de'=de:=Option.some.inj (hde'.symm.trans hde)
  have hwe:∀ ts,Region.wanted oe' (yielded l.toArray ts)=true:=fun ts=>by unfold Region.wanted;rw[hge]
  obtain⟨_,o1,ho1,haft⟩:=mem_ready.1 hre
  obtain rfl:o1=oe':=Option.some.inj (ho1.symm.trans hoe)
  have hdep:∀ j d,j<n→waitsB o1 j=true→(l.toArray[j]?).bind (·.dst)=some d→V j w' (a'.eval (.tmp d)):=fun j dj hj hwj hdj=>by
   obtain⟨x,he,hb⟩:=Array.any_eq_true'.1 hwj
   simp only[Bool.and_eq_true,beq_iff_eq]at hb
   have h1:=haft x he hb.1
   rw[hb.2]at h1
   cases hoj:l.toArray[j]? with
   | none=>rw[hoj]at hdj;cases hdj
   | some oj =>
    rw[hoj]at hdj
    exact K.held j oj dj hj hoj h1 hdj
  obtain⟨v,hv⟩:=hpure a' w' K.new hdep
  have hY:=hstep e o1 hen hoe a' w' K.new (fun t ht=>by
   rw[eval_get,eval_get,K.same t fun j oj hj hoj hd'=>by
    have h1:=List.all_eq_true.1 ht j (List.mem_range.2 hj)
    simp only[hoj,bne_iff_ne]at h1
    exact h1 hd']) hdep
  unfold Yields at hY
  rw[hv w']at hY
  have hVe:V e w' v:=hY.2
  have hall2:∀ j,j<n→(listed.setIfInBounds e true).getD j false=true:=fun j hj=>by
   by_cases hje:j=e
   ·subst hje
    simp[Array.getD_eq_getD_getElem?,show j<listed.size by rw[inv.size];omega]
   ·rw[getD_set_ne false (fun x=>hje x.symm)]
    exact hall j hj hje
  have K2:=linv_step hV K hen hoe hde hdes hdise (New.refl _) hVe
  refine⟨fun h=>absurd hre (by rw[h];simp),fun i hi=>?_⟩
  have hie:=List.all_eq_true.1 hr1 i hi
  simp only[Bool.or_eq_true,beq_iff_eq]at hie
  rcases hie with rfl|rfl
  ·unfold wpOp
   simp only[hoe]
   rw[if_pos (hwe _)]
   refine .inl ?_
   unfold Oper.wp
   rw[hv w',Oper.upon_value,hde]
   exact hLall _ _ _ hall2 (inv.set hre hen) K2
  ·obtain⟨vs,hvs,hput⟩:=linv_putL ho hall2 K2
   obtain⟨w2,hrun,hrest⟩:=htail vs w' K2.new hvs
   rw[hput]at hrun hrest
   rw[execOp_put os hsel a' (some de') v (by rintro t ⟨rfl⟩;exact hlook)]at hrun
   unfold wpOp
   simp only[hos]
   rw[if_pos (hwant _)]
   refine .inl ?_
   unfold Oper.wp
   rw[hrun,Oper.upon_skip,hod]
   show wpAny P .any l.toArray Q (l.toArray.size - i) (listed.setIfInBounds i true) a' w2
   rw[show l.toArray.size - i=(l.toArray.size - (i+1))+1 by omega]
   refine⟨fun h=>(by rw[hr3]at h;cases h),fun i2 hi2=>?_⟩
   rw[hr3]at hi2
   obtain rfl:i2=e:=by simpa using hi2
   unfold wpOp
   simp only[hoe]
   rw[if_pos (hwe _)]
   refine .inl ?_
   unfold Oper.wp
   rw[hv w2,Oper.upon_value,hde]
   have hdl:(l.drop (i+1)).length=l.toArray.size - (i+1):=by simp
   have hw:=wpAny_of_seq (P:=P) (md:=.any) (ops:=l.toArray) (Q':=Q) (l.drop (i+1)) (i+1) ((listed.setIfInBounds i true).setIfInBounds i2 true) (a'.put (some de') v) w2 (fun j=>by simp[List.getElem?_drop]) (by rw[hdl];exact hseq2) hrest
   rwa [hdl]at hw) n _ a { w with drawn:=w.drawn+1 } inv0 (h0 n) ⟨Below.drew (Below.refl _ w),rfl,rfl,fun _ _=>rfl,fun j oj d _ _ hl=>by rw[getD_replicate_false]at hl;cases hl⟩
 rwa [show n+(l.toArray.size - n)=l.toArray.size by omega]at this
end
end Go.Proofs.YtmhghnbgllaihaaGreatDoor
