import Derived.Test.YtmhghnbgllaihaaGreatDoorSpPP2Z2
import Derived.Test.YtmhghnbgllaihaaGreatDoorSoETP2Z2
import Derived.Test.YtmhghnbgllaihaaGreatDoorLooseEP2Z2
import Derived.Test.YtmhghnbgllaihaaGreatDoorSoLSP2Z2
import Derived.Test.YtmhghnbgllaihaaGreatDoorWholeIP2Z2
import Derived.Deep.DeepCutAuto
import Derived.Lib.SliceRun
import Derived.Test.YtmhghnbgllaihaaGreatDoorSoXFP2Z2
set_option linter.unusedVariables false
set_option maxHeartbeats 16000000

namespace Go.Proofs.YtmhghnbgllaihaaGreatDoor
open Go.RowKit
theorem fi_hasRoom (C:CfgR) (s:Sn) (top:Int) (w:World) :
  Calls Tryz.prog 165 #[.agg #[.int .i64 C.cl,.int .i64 C.cb,.int .i64 C.ht,.int .i64 C.ri,.int .i64 C.ru,.int .i64 C.wd,.int .i64 C.dp],.agg #[.int .i64 s.lo,.int .i64 s.hi,.bool s.wk],.int .i64 top] w fun e w'=>e=.returned (.bool (decide (C.ht≤wrap64 (top - s.hi))))∧New w w':=by
 go_enter Tryz.func165,Tryz.ntmps165
 go_wp2_with fail
 refine bodyPost_ret (v:=.bool (decide (C.ht≤wrap64 (top - s.hi)))) (by simp[results,Tryz.results165,go_sem, *]) rfl ?_
 exact⟨rfl,by exact nw⟩
def fiE (C:CfgR) (l:List Sn):Int:=if C.err=0 then spE l else C.err
theorem fiE_ok {C:CfgR} {l:List Sn} (h:fiE C l=0):C.err=0∧spE l=0:=by
 unfold fiE at h
 split at h
 ·rename_i h1;exact⟨h1,h⟩
 ·rename_i h1;exact absurd h h1
theorem fi_err_two (C:CfgR):C.err=0∨C.err=20:=by unfold CfgR.err checkE;split <;> simp
theorem fiE_three (C:CfgR) (l:List Sn):fiE C l=0∨fiE C l=2∨fiE C l=20:=by
 unfold fiE
 rcases fi_err_two C with h|h <;> rcases chkE_two l with k|k <;> rw[h] <;> simp[k]
theorem fi_check (C:CfgR) (at0:Option Addr) (l:List Sn) (c:Nat) (hl:l.length≤maxLen) (w:World) (H:RowIn Sn.enc 3 w at0 l) :
  Calls Tryz.prog 161 #[.agg #[.int .i64 C.cl,.int .i64 C.cb,.int .i64 C.ht,.int .i64 C.ri,.int .i64 C.ru,.int .i64 C.wd,.int .i64 C.dp],.slice at0 l.length c] w fun e w'=>e=.returned (.int .i64 (fiE C l))∧New w w':=by
 have KS:=Lib.hid (fun W n=>sp_check at0 l c hl W (H.keep (n:New w W)))
 have KC:=Lib.hid (fun W=>check_any C.cl C.cb C.ht C.ri C.ru C.wd C.dp W)
 obtain⟨n,hn⟩:∃ n,n=l.length:=⟨_,rfl⟩
 rw[←hn]at KS ⊢
 have h2:=fi_err_two C
 obtain⟨r,hr⟩:∃ r,r=C.err:=⟨_,rfl⟩
 have HR:Hid (fiE C l=if r=0 then spE l else r):=Lib.hid (by rw[hr];rfl)
 rw[show checkE C.cl C.cb C.ht C.ri C.ru C.wd C.dp=r from hr.symm]at KC
 rw[←hr]at h2
 clear hr hn H hl
 go_enter Tryz.func161,Tryz.ntmps161
 go_wp2_with fail
 refine(KC.out _).mono ?_
 rintro e w1 ⟨rfl,n1,-⟩
 have hn1:New w w1:=New.trans (by exact nw) n1
 clear n1
 rcases h2 with rfl|rfl
 ·go_wp2_with fail
  refine(KS.out _ hn1).mono ?_
  rintro e w2 ⟨rfl,n2⟩
  go_wp2_with fail
  go_ret
  exact⟨by rw[HR.out];rfl,hn1.trans n2⟩
 ·go_wp2_with fail
  go_ret
  exact⟨by rw[HR.out];rfl,hn1⟩
theorem fi_rooms (at0:Option Addr) (len c:Nat) (n:Nat) (w:World) :
  CallsIn Fence.wide n Tryz.prog 167 #[.slice at0 len c] w fun e w'=>e=.returned (.func (.func 205) #[] #[.pointer (some ⟨w.heap.size,0,none⟩)])∧w'=w.alloc (.cells #[.slice at0 len c] 147):=by
 refine callsIn_wide.2 ?_
 go_enter Tryz.func167,Tryz.ntmps167
 go_wp2_with fail
 go_ret
 exact⟨rfl,rfl⟩
theorem fi_clone (at0:Option Addr) (l:List Sn) (c:Nat) (hl:l.length≤1000) (w:World) (h:Sl Sn.enc 3 w (.slice at0 l.length c) l) :
  Calls Tryz.prog 163 #[.slice at0 l.length c] w fun e w'=>∃ a d,e=.returned (.slice a l.length d)∧Sl Sn.enc 3 w' (.slice a l.length d) l∧New w w'∧∀ ad,a=some ad→w.heap.size≤ad.block∧∃ cs fr,w'.heap[ad.block]? = some (.cells cs 180 fr):=by
 obtain⟨i0,hi,hz0,hz1,hz2⟩:=info_parts sn_info
 cases at0 with
 | none =>
  obtain⟨-,h1,h2,h3,-⟩:=h.row'
  have hc0:=h3 rfl
  have hm0:l=[]:=List.eq_nil_of_length_eq_zero (by omega)
  subst hm0
  subst hc0
  have e1:∀ W,(binOp .eql 147 (.slice none 0 0) (.slice none 0 0)).run Tryz.prog W=.ok (.bool true) W:=fun W=>(Lib.run_eql_slice_nil W _ _ _ _ _ _ _ Tryz.underlying147).trans rfl
  go_enter Tryz.func163,Tryz.ntmps163
  go_wp2_with fail
  go_ret
  exact⟨none,0,rfl,Sl.nil,by exact nw,fun ad h=>by cases h⟩
 | some ad =>
  go_enter Tryz.func163,Tryz.ntmps163
  have e2:∀ W n d,(binOp .eql 147 (.slice (some ad) n d) (.slice none 0 0)).run Tryz.prog W=.ok (.bool false) W:=fun W n d=>(Lib.run_eql_slice_nil W _ _ _ _ _ _ _ Tryz.underlying147).trans rfl
  go_wp2_with (at_builtin;refine wpList_append_sl rfl _ _ 147 rfl Sn.enc_len Sn.enc_one w.heap.size 180 i0 _ 24 Tryz.underlying147 hi hz0 hz1 hz2 rfl (by decide) _ ([]:List Sn) rfl ⟨rfl,.inr ⟨w.heap.size,0,#[],rfl,Nat.le_refl _,heap_new _ _,Nat.le_refl _,Nat.zero_le _,rfl,rfl⟩⟩ _ l rfl (h.keep (by exact nw)) (by unfold maxLen;simp;omega) (by simp;omega) (by simp) ?_;intro v' w1 hown hnew _;obtain⟨a,d,N,hN,rfl⟩:=own_shape2 hown)
  go_ret
  rw[List.nil_append]at hN hown
  subst hN
  refine⟨a,d,rfl,own_sl Sn.enc_len hown,hnew _ (by exact nw) (Nat.le_refl _),fun ad h=>⟨own_block hown _ (by rw[h];rfl),?_⟩⟩
  rcases hown.2 with ⟨q,-⟩|⟨g,cap',cur,q,-,hg,-⟩
  ·injection q with q;rw[h]at q;cases q
  ·injection q with q;rw[h]at q;cases q;exact⟨_,_,hg⟩
structure WRowS (w:World) (b:Nat) (l:List Sn):Prop where
 row:RowAt Sn.enc 3 w b 0 l
 free:∀ j,j<l.length*3→w.frozen? ⟨b,j,none⟩=false
theorem WRowS.of_own {w:World} {base g cap:Nat} {e:TypeId} {l:List Sn} (h:w.ownsRow base e 3 (.slice (some ⟨g,0,none⟩) l.length cap) l.length (l.flatMap Sn.enc)):WRowS w g l :=
 ⟨fun j hj=>by
  obtain⟨-,-,-,-,hr⟩:=(own_sl Sn.enc_len h).row
  obtain⟨b,off,e,hA⟩:=hr (by omega)
  injection e with e;injection e with e1 e2
  subst e1 e2
  exact hA j hj,fun j _=>World.ownsRow.frozenAt h j⟩
def UponS (w:World) (g:Nat) (w':World):Prop:=∀ a,New a w→a.heap.size≤g→New a w'
theorem UponS.refl (w:World) (g:Nat):UponS w g w:=fun _ h _=>h
theorem UponS.new {a b c:World} {g:Nat} (h:UponS a g b) (k:New b c):UponS a g c:=fun x hx hg=>(h x hx hg).trans k
theorem UponS.setCells {w w':World} {g:Nat} (h:UponS w g w') (o:Nat) (vs:List Value):UponS w g (w'.setCells g o vs):=fun a ha hg=>new_setCells (h a ha hg) hg vs o
theorem WRowS.keep {w w':World} {b:Nat} {l:List Sn} (h:WRowS w b l) (hn:New w w'):WRowS w' b l :=
 ⟨h.row.keep hn,fun j hj=>by
  have hq:j / 3<l.length:=by omega
  have hc:=h.row (j / 3) hq (j % 3) (by rw[Sn.enc_len];exact Nat.mod_lt _ (by omega))
  rw[show 0+j / 3*3+j % 3=j by omega]at hc
  exact hn.keepF hc (h.free j hj)⟩
theorem sn_cells {w:World} {b:Nat} {l:List Sn} (H:WRowS w b l) (j:Nat) (h:j<l.length) :
  w.cell? ⟨b,j*3,none⟩=some (.int .i64 l[j].lo)∧w.cell? ⟨b,j*3+1,none⟩=some (.int .i64 l[j].hi)∧w.cell? ⟨b,j*3+2,none⟩=some (.bool l[j].wk):=by
 have h0:=H.row j h 0 (by rw[Sn.enc_len];omega)
 have h1:=H.row j h 1 (by rw[Sn.enc_len];omega)
 have h2:=H.row j h 2 (by rw[Sn.enc_len];omega)
 simp only[Nat.zero_add,Nat.add_zero]at h0 h1 h2
 exact⟨h0,h1,h2⟩
theorem WRowS.there {w:World} {b:Nat} {l:List Sn} (H:WRowS w b l) (o n:Nat) (h:o+n≤l.length*3):w.there b o n:=fun j hj=>by
 have hq:(o+j) / 3<l.length:=by omega
 have hc:=H.row ((o+j) / 3) hq ((o+j) % 3) (by rw[Sn.enc_len];exact Nat.mod_lt _ (by omega))
 rw[show 0+(o+j) / 3*3+(o+j) % 3=o+j by omega]at hc
 exact⟨by rw[hc];rfl,H.free _ (by omega)⟩
theorem frozenS_setCells (b:Nat):∀ (vs:List Value) (o:Nat) (w:World) (x:Addr),(w.setCells b o vs).frozen? x=w.frozen? x
 | [],_,_,_=>rfl
 | v::vs,o,w,x=>by
  rw[World.setCells,frozenS_setCells b vs (o+1)]
  simp
theorem WRowS.put {w:World} {b:Nat} {l:List Sn} (H:WRowS w b l) (k:Nat) (hk:k<l.length) (c:Sn):WRowS (w.setCells b (k*3) c.enc) b (l.set k c):=by
 refine⟨fun j hj i hi=>?_,fun j hj=>?_⟩
 ·have hj':j<l.length:=by simpa using hj
  have hi':i<3:=by rw[Sn.enc_len]at hi;exact hi
  by_cases e:j=k
  ·subst e
   have e1:(l.set j c)[j]=c:=by simp
   have:=World.rangeAt_setCells_same w b (j*3) c.enc (H.there _ _ (by rw[Sn.enc_len];omega)) i (c.enc[i]'(by rw[Sn.enc_len];exact hi')) (List.getElem?_eq_getElem _)
   rw[Nat.zero_add,this]
   simp only[e1]
  ·rw[World.cell?_setCells_out b _ _ w ⟨b,0+j*3+i,none⟩ (fun _ _=>by
    show 0+j*3+i<k*3∨k*3+c.enc.length≤0+j*3+i
    rw[Sn.enc_len]
    rcases Nat.lt_or_gt_of_ne e with q|q
    ·left;omega
    ·right;omega)]
   have e1:(l.set k c)[j]=l[j]:=by rw[List.getElem_set_ne (fun q=>e q.symm)]
   have:=H.row j hj' i (by rw[Sn.enc_len];exact hi')
   rw[this]
   simp only[e1]
 ·rw[frozenS_setCells]
  exact H.free j (by simpa using hj)
structure Jn (w0 wr:World) (g:Nat) (S:List Sn) (i kk:Nat):Prop where
 mid:∃ R:List Sn,WRowS wr g R∧R.length=S.length∧IsM (S.take i) (R.take kk)∧∀ j,i≤j→R[j]? = S[j]?
 up:UponS w0 g wr
 le:kk≤i
 lt:i≤S.length
theorem Jn.start {w:World} {g:Nat} {S:List Sn} (h:WRowS w g S):Jn w w g S 0 0:=⟨⟨S,h,rfl,IsM.nil,fun _ _=>rfl⟩,UponS.refl _ _,Nat.le_refl _,Nat.zero_le _⟩
theorem Jn.keep {w0 wr wr':World} {g:Nat} {S:List Sn} {i kk:Nat} (h:Jn w0 wr g S i kk) (n:New wr wr'):Jn w0 wr' g S i kk:=by
 obtain⟨⟨R,h1,h2⟩,hu,hl,ht⟩:=h
 exact⟨⟨R,h1.keep n,h2⟩,hu.new n,hl,ht⟩
theorem Jn.cells {w0 wr:World} {g:Nat} {S:List Sn} {i kk:Nat} (h:Jn w0 wr g S i kk) (hi:i<S.length) :
  wr.cell? ⟨g,i*3,none⟩=some (.int .i64 S[i].lo)∧wr.cell? ⟨g,i*3+1,none⟩=some (.int .i64 S[i].hi)∧wr.cell? ⟨g,i*3+2,none⟩=some (.bool S[i].wk):=by
 obtain⟨⟨R,h1,h2,h3,h4⟩,hu,hl,ht⟩:=h
 have hR:i<R.length:=by omega
 have e:R[i]=S[i]:=by
  have:=h4 i (Nat.le_refl _)
  rw[List.getElem?_eq_getElem hR,List.getElem?_eq_getElem hi]at this
  exact Option.some.inj this
 have:=sn_cells h1 i hR
 rw[e]at this
 exact this
theorem Jn.last {w0 wr:World} {g:Nat} {S:List Sn} {i k:Nat} (h:Jn w0 wr g S i (k+1)):∃ q:Sn,∃ K:List Sn,IsM (S.take i) (K++[q]) ∧
  wr.cell? ⟨g,k*3,none⟩=some (.int .i64 q.lo)∧wr.cell? ⟨g,k*3+1,none⟩=some (.int .i64 q.hi)∧wr.cell? ⟨g,k*3+2,none⟩=some (.bool q.wk)∧wr.there g (k*3) 3 ∧
  (∀ (hi:i<S.length) (w:World),q.hi<S[i].lo→(∀ p∈S.take i,p.lo≤p.hi∧p.lo≤S[i].lo)→S[i].lo≤S[i].hi→New wr w→Jn w0 (w.setCells g ((k+1)*3) S[i].enc) g S (i+1) (k+2)) ∧
  (∀ (hi:i<S.length) (w:World),S[i].lo≤q.hi→(∀ p∈S.take i,p.lo≤p.hi∧p.lo≤S[i].lo)→S[i].lo≤S[i].hi→New wr w→Jn w0 (w.setCells g (k*3) (un q S[i]).enc) g S (i+1) (k+1)):=by
 obtain⟨⟨R,h1,h2,h3,h4⟩,hu,hl,ht⟩:=h
 have hR:k<R.length:=by omega
 have e:R.take (k+1)=R.take k++[R[k]]:=List.take_succ_eq_append_getElem hR
 rw[e]at h3
 obtain⟨c0,c1,c2⟩:=sn_cells h1 k hR
 refine⟨R[k],R.take k,h3,c0,c1,c2,h1.there _ _ (by omega),fun hi w hlt hp hs n=>?_,fun hi w hle hp hs n=>?_⟩
 ·refine⟨⟨R.set (k+1) S[i],(h1.keep n).put (k+1) (by omega) _,by rw[List.length_set];exact h2,?_,fun j hj=>?_⟩,(hu.new n).setCells _ _,by omega,by omega⟩
  ·have hk2:k+1<(R.set (k+1) S[i]).length:=by rw[List.length_set];omega
   rw[List.take_succ_eq_append_getElem hi,List.take_succ_eq_append_getElem hk2,List.getElem_set_self,List.take_set_of_le (Nat.le_refl _),e]
   refine h3.new hs fun q hq=>?_
   rcases List.mem_append.1 hq with m|m
   ·have:=(List.pairwise_append.1 h3.sep).2.2 q m R[k] (List.mem_singleton.2 rfl)
    have:=h3.fit R[k] (List.mem_append_right _ (List.mem_singleton.2 rfl))
    omega
   ·rw[List.mem_singleton]at m;subst m;exact hlt
  ·rw[List.getElem?_set_ne (by omega)]
   exact h4 j (by omega)
 ·refine⟨⟨R.set k (un R[k] S[i]),(h1.keep n).put k hR _,by rw[List.length_set];exact h2,?_,fun j hj=>?_⟩,(hu.new n).setCells _ _,by omega,by omega⟩
  ·have hk2:k<(R.set k (un R[k] S[i])).length:=by rw[List.length_set];omega
   rw[List.take_succ_eq_append_getElem hi,List.take_succ_eq_append_getElem hk2,List.getElem_set_self,List.take_set_of_le (Nat.le_refl _)]
   have hq:=h3.low R[k] (List.mem_append_right _ (List.mem_singleton.2 rfl))
   obtain⟨p,hpm,hpl⟩:=hq
   exact IsM.fold (fun p hp'=>(hp p hp').1) h3 hs (by rw[←hpl];exact(hp p hpm).2) hle
  ·rw[List.getElem?_set_ne (by omega)]
   exact h4 j (by omega)
theorem Jn.first {w0 wr w:World} {g:Nat} {S:List Sn} {i:Nat} (h:Jn w0 wr g S i 0) (hi:i<S.length) (hs:S[i].lo≤S[i].hi) (n:New wr w):Jn w0 (w.setCells g 0 S[i].enc) g S (i+1) 1:=by
 obtain⟨⟨R,h1,h2,h3,h4⟩,hu,hl,ht⟩:=h
 have e0:(0:Nat)=0*3:=rfl
 refine⟨⟨R.set 0 S[i],by rw[e0];exact(h1.keep n).put 0 (by omega) _,by rw[List.length_set];exact h2,?_,fun j hj=>?_⟩,(hu.new n).setCells _ _,by omega,by omega⟩
 ·have hk2:0<(R.set 0 S[i]).length:=by rw[List.length_set];omega
  rw[List.take_succ_eq_append_getElem hi,List.take_succ_eq_append_getElem hk2,List.getElem_set_self,List.take_zero,List.nil_append]
  rw[List.take_zero]at h3
  have:S.take i=[]:=by
   cases hh:S.take i with
   | nil=>rfl
   | cons p l =>
    obtain⟨r,hr,_⟩:=h3.isin p (by rw[hh];exact List.mem_cons_self)
    simp at hr
  rw[this]
  exact IsM.nil.new hs (fun q hq=>by simp at hq)
 ·rw[List.getElem?_set_ne (by omega)]
  exact h4 j (by omega)
theorem Jn.there {w0 wr:World} {g:Nat} {S:List Sn} {i kk:Nat} (h:Jn w0 wr g S i kk) (k:Nat) (hk:k<S.length):wr.there g (k*3) 3:=by
 obtain⟨⟨R,h1,h2,h3,h4⟩,hu,hl,ht⟩:=h
 exact h1.there _ _ (by omega)
theorem Jn.done {w0 wr:World} {g:Nat} {S:List Sn} {kk:Nat} (h:Jn w0 wr g S S.length kk):∃ K:List Sn,K.length=kk∧IsM S K∧RowAt Sn.enc 3 wr g 0 K∧UponS w0 g wr∧kk≤S.length:=by
 obtain⟨⟨R,h1,h2,h3,h4⟩,hu,hl,ht⟩:=h
 rw[List.take_length]at h3
 exact⟨R.take kk,by simp;omega,h3,h1.row.take kk,hu,hl⟩
end Go.Proofs.YtmhghnbgllaihaaGreatDoor
