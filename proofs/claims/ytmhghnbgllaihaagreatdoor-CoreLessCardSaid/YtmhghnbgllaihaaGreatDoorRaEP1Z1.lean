import Derived.Test.YtmhghnbgllaihaaGreatDoorClIP1Z1
import Derived.Test.YtmhghnbgllaihaaGreatDoorClKP1Z1
import Derived.Test.YtmhghnbgllaihaaGreatDoorSoSP1Z1
import Derived.Deep.LoopGhost
import Derived.Test.YtmhghnbgllaihaaGreatDoorOgKP1Z1
import Derived.Test.YtmhghnbgllaihaaGreatDoorRaCP1Z1
import Derived.Test.YtmhghnbgllaihaaGreatDoorRaMP1Z1
import Derived.Maps.AppendAt
import Derived.WalkMore

namespace Go.Proofs.YtmhghnbgllaihaaGreatDoor
open Go.RowKit
set_option linter.unusedVariables false
structure Ex (w w':World):Prop where
  os:w'.os=w.os
  tape:w'.tape=w.tape
  output:w'.output=w.output
  size:w.heap.size≤w'.heap.size
  block:∀ k,k<w.heap.size→(∀ cs fr,w.heap[k]? ≠ some (.cells cs 267 fr))→w'.heap[k]? = w.heap[k]?
theorem Ex.refl (w:World):Ex w w:=⟨rfl,rfl,rfl,Nat.le_refl _,fun _ _ _=>rfl⟩
theorem Ex.trans {a b c:World} (h:Ex a b) (k:Ex b c):Ex a c :=
  ⟨k.os.trans h.os,k.tape.trans h.tape,k.output.trans h.output,Nat.le_trans h.size k.size,fun i hi hn=>by
    have e:=h.block i hi hn
    rw[k.block i (Nat.lt_of_lt_of_le hi h.size) (fun cs fr=>by rw[e];exact hn cs fr),e]⟩
theorem Ex.of_new {a b:World} (h:New a b):Ex a b:=⟨h.os,h.tape,h.output,h.size,fun k hk _=>h.block k hk⟩
theorem Ex.new {a b c:World} (h:Ex a b) (k:New b c):Ex a c:=h.trans (Ex.of_new k)
def Typ (w:World) (b:Nat) (t:TypeId):Prop:=∃ cs fr,w.heap[b]? = some (.cells cs t fr)
theorem Typ.lt {w:World} {b:Nat} {t:TypeId} (h:Typ w b t):b<w.heap.size:=by
  obtain⟨cs,fr,h⟩:=h
  rcases Nat.lt_or_ge b w.heap.size with q|q
  · exact q
  · rw[Array.getElem?_eq_none q]at h;cases h
theorem Typ.not {w:World} {b:Nat} {t:TypeId} (h:Typ w b t) (ht:t≠267):∀ cs fr,w.heap[b]? ≠ some (.cells cs 267 fr):=by
  obtain⟨cs,fr,h⟩:=h
  intro cs' fr' e
  rw[h]at e
  injection e with e
  injection e with _ e _
  exact ht e
theorem Ex.heap {w w':World} (h:Ex w w') {b:Nat} {t:TypeId} (hb:Typ w b t) (ht:t≠267):w'.heap[b]? = w.heap[b]? := h.block b hb.lt (hb.not ht)
theorem Ex.cell {w w':World} (h:Ex w w') {b o:Nat} {t:TypeId} {v:Value} (hb:Typ w b t) (ht:t≠267) (hc:w.cell? ⟨b,o,none⟩=some v):w'.cell? ⟨b,o,none⟩=some v:=cell_block (h.heap hb ht) hc
theorem Typ.keep {w w':World} {b:Nat} {t:TypeId} (h:Typ w b t) (n:New w w'):Typ w' b t:=by
  have hl:=h.lt
  obtain⟨cs,fr,k⟩:=h
  exact⟨cs,fr,(n.block b hl).trans k⟩
theorem Typ.made (w:World) (cs:Array Value) (t:TypeId):Typ (w.alloc (.cells cs t)) w.heap.size t:=⟨_,_,heap_new w (.cells cs t)⟩
theorem Ex.rows {α:Type} {enc:α→List Value} {k:Nat} {w w':World} (h:Ex w w') {b off:Nat} {l:List α} {t:TypeId} (hb:Typ w b t) (ht:t≠267) (hr:RowAt enc k w b off l):RowAt enc k w' b off l :=
  fun j hj i hi=>h.cell hb ht (hr j hj i hi)
theorem Ex.grown {w w':World} {base:Nat} {v:Value} {n:Nat} {xs:List Value} (hown:w.ownsRow base 267 4 v n xs) (hg:w.grownBy w' v.ownBlock):Ex w w' :=
  ⟨hg.os,hg.tape,hg.output,hg.size,fun k hk hn=>hg.block k hk fun e=>by
    rcases hown.2 with ⟨rfl,_⟩|⟨g,cap,cur,rfl,_,hh,_⟩
    · cases e
    · simp only[Value.ownBlock,Option.some.injEq]at e
      subst e
      exact hn _ _ hh⟩
def Past (w:World) (base:Nat) (w':World):Prop:=∀ a,New a w→a.heap.size≤base→New a w'
theorem Past.refl (w:World) (base:Nat):Past w base w:=fun _ h _=>h
theorem Past.trans {a b c:World} {base:Nat} (h:Past a base b) (k:Past b base c):Past a base c:=fun x hx hg=>k x (h x hx hg) hg
theorem Past.new {a b c:World} {base:Nat} (h:Past a base b) (k:New b c):Past a base c:=fun x hx hg=>(h x hx hg).trans k
theorem Past.grown {w w':World} {base:Nat} {v:Value} {n:Nat} {xs:List Value} (hown:w.ownsRow base 267 4 v n xs) (hg:w.grownBy w' v.ownBlock):Past w base w' :=
  fun a hn hb=>newGrown hn hg (fun j hj=>Nat.le_trans hb (own_block hown j hj))
theorem co_info:(Tryz.prog.info? 267).map (fun i=>(i.zero,i.size,i.bytes))=some (some (.agg #[.int .i64 0,.int .i64 0,.int .i64 0,.int .i64 0]),4,32):=by kernel_rfl
theorem co_new (w:World) (c:Co) (t:TypeId):∀ j u,c.enc[j]? = some u→(w.alloc (.cells #[.int .i64 c.x,.int .i64 c.z,.int .i64 c.y,.int .i64 c.d] t)).cell? ((⟨w.heap.size,0,none⟩:Addr).add j)=some u:=by
  intro j u hu
  have hh:=heap_new w (.cells #[.int .i64 c.x,.int .i64 c.z,.int .i64 c.y,.int .i64 c.d] t)
  rw[Addr.add_lit,Nat.zero_add]
  refine cell_of_heap hh ?_
  rw[←Array.getElem?_toList]
  exact hu
structure Gat (w0:World) (base:Nat) (wr:World) (v:Value) (l:List Co):Prop where
  ex:Ex w0 wr
  past:Past w0 base wr
  own:wr.ownsRow base 267 4 v l.length (l.flatMap Co.enc)
theorem Gat.new {w0 wr wr':World} {base:Nat} {v:Value} {l:List Co} (h:Gat w0 base wr v l) (n:New wr wr'):Gat w0 base wr' v l :=
  ⟨h.ex.new n,h.past.new n,own_new h.own n⟩
theorem Gat.more {w0 wr wr':World} {base:Nat} {v v':Value} {l:List Co} {c:Co} (h:Gat w0 base wr v l) (ho:wr'.ownsRow base 267 4 v' (l.length+1) (l.flatMap Co.enc++c.enc)) (hg:wr.grownBy wr' v.ownBlock):Gat w0 base wr' v' (l++[c]) :=
  ⟨h.ex.trans (Ex.grown h.own hg),h.past.trans (Past.grown h.own hg),by rw[List.length_append,List.flatMap_append];simpa using ho⟩
end Go.Proofs.YtmhghnbgllaihaaGreatDoor

namespace Go.Proofs.YtmhghnbgllaihaaGreatDoor
open Go.RowKit
set_option linter.unusedVariables false
structure St where
  (x z y:Int)
  f:Fl
instance:Inhabited St:=⟨⟨0,0,0,Fl.zero⟩⟩
def St.enc (s:St):List Value:=#[.int .i64 s.x,.int .i64 s.z,.int .i64 s.y,.int .i64 s.f.y,.int .i64 s.f.top,.int .i64 s.f.area].toList
theorem St.enc_len (s:St):s.enc.length=6:=rfl
theorem St.enc_one (x:St):∀ u∈x.enc,u.oneCell'=true:=by
  intro u hu
  simp[St.enc]at hu
  rcases hu with rfl|rfl|rfl|rfl|rfl|rfl <;> rfl
theorem St.cells {w:World} {b off:Nat} {l:List St} (H:RowAt St.enc 6 w b off l) (j:Nat) (h:j<l.length) :
    w.cell? ⟨b,off+j*6,none⟩=some (.int .i64 l[j].x)∧w.cell? ⟨b,off+j*6+1,none⟩=some (.int .i64 l[j].z)∧w.cell? ⟨b,off+j*6+2,none⟩=some (.int .i64 l[j].y)∧w.cell? ⟨b,off+j*6+3,none⟩=some (.int .i64 l[j].f.y)∧w.cell? ⟨b,off+j*6+4,none⟩=some (.int .i64 l[j].f.top)∧w.cell? ⟨b,off+j*6+5,none⟩=some (.int .i64 l[j].f.area) :=
  ⟨H j h 0 (by rw[St.enc_len];omega),H j h 1 (by rw[St.enc_len];omega),H j h 2 (by rw[St.enc_len];omega),H j h 3 (by rw[St.enc_len];omega),H j h 4 (by rw[St.enc_len];omega),H j h 5 (by rw[St.enc_len];omega)⟩
theorem st_new (w:World) (s:St) (t:TypeId):Sl St.enc 6 (w.alloc (.cells #[.int .i64 s.x,.int .i64 s.z,.int .i64 s.y,.int .i64 s.f.y,.int .i64 s.f.top,.int .i64 s.f.area] t)) (.slice (some ⟨w.heap.size,0,none⟩) 1 1) [s] :=
  ⟨_,_,rfl,Nat.le_refl _,by unfold maxLen;omega,fun h=>(by cases h),fun _=>⟨w.heap.size,0,rfl,fun j hj i hi=>by
    have hj':j=0:=by simpa using hj
    subst hj'
    have hi':i<6:=hi
    have hz:=heap_new w (.cells #[.int .i64 s.x,.int .i64 s.z,.int .i64 s.y,.int .i64 s.f.y,.int .i64 s.f.top,.int .i64 s.f.area] t)
    rcases(show i=0∨i=1∨i=2∨i=3∨i=4∨i=5 by omega)with rfl|rfl|rfl|rfl|rfl|rfl <;> exact cell_of_heap hz rfl⟩⟩
def stOf (G:Gd) (i:Nat) (f:Fl):St:=⟨G.x+((i % G.w.toNat:Nat):Int),G.z+((i / G.w.toNat:Nat):Int),f.y,f⟩
def gcol (G:Gd) (i:Nat):List Fl:=(G.L[i]?).getD []
theorem gcol_at {G:Gd} {i:Nat} (h:i<G.L.length):gcol G i=G.L[i]:=by unfold gcol;rw[List.getElem?_eq_getElem h];rfl
def stTo (G:Gd) (n:Nat):List St:=(List.range n).flatMap fun i=>(gcol G i).map (stOf G i)
theorem stTo_succ (G:Gd) (n:Nat):stTo G (n+1)=stTo G n++(gcol G n).map (stOf G n):=by
  unfold stTo
  rw[List.range_succ,List.flatMap_append]
  simp
def stAt (G:Gd) (n k:Nat):List St:=stTo G n++((gcol G n).take k).map (stOf G n)
theorem stAt_zero (G:Gd) (n:Nat):stAt G n 0=stTo G n:=by unfold stAt;simp
theorem stAt_succ {G:Gd} {n k:Nat} (h:k<(gcol G n).length):stAt G n (k+1)=stAt G n k++[stOf G n (gcol G n)[k]]:=by
  unfold stAt
  rw[List.take_succ_eq_append_getElem h,List.map_append,List.append_assoc]
  rfl
theorem stAt_all {G:Gd} {n k:Nat} (h:(gcol G n).length≤k):stAt G n k=stTo G (n+1):=by
  unfold stAt
  rw[List.take_of_length_le h,stTo_succ]
def allG (G:Gd):List St:=stTo G G.L.length
theorem gcol_len {G:Gd} (hE:gE G=0) (i:Nat):(gcol G i).length≤8:=by
  by_cases h:i<G.L.length
  · rw[gcol_at h];exact riseB_len ((gd_is hE).2.2 i h)
  · unfold gcol;rw[List.getElem?_eq_none (by omega)];simp
theorem stTo_len {G:Gd} (hE:gE G=0):∀ n,(stTo G n).length≤8*n
  | 0=>by unfold stTo;simp
  | n+1=>by
    rw[stTo_succ,List.length_append,List.length_map]
    have h1:=stTo_len hE n
    have h2:=gcol_len hE n
    omega
theorem stAt_len {G:Gd} (hE:gE G=0) (n k:Nat):(stAt G n k).length≤8*n+8:=by
  unfold stAt
  rw[List.length_append,List.length_map,List.length_take]
  have h1:=stTo_len hE n
  have h2:=gcol_len hE n
  omega
theorem st_info:(Tryz.prog.info? 247).map (fun i=>(i.zero,i.size,i.bytes))=some (some (.agg #[.int .i64 0,.int .i64 0,.int .i64 0,.int .i64 0,.int .i64 0,.int .i64 0]),6,48):=by kernel_rfl
theorem gd_step {G:Gd} (hE:gE G=0) {a b:Nat} (ha:(a:Int)<G.d) (hb:(b:Int)<G.w):inG G (G.x+b) (G.z+a)=true∧ixG G (G.x+b) (G.z+a)=a*G.w.toNat+b∧a*G.w.toNat+b<G.L.length∧(a*G.w.toNat+b) % G.w.toNat=b∧(a*G.w.toNat+b) / G.w.toNat=a:=by
  have hb':=placeB_iff.1 (gd_is hE).1
  have hin:inG G (G.x+b) (G.z+a)=true:=inG_iff.2 (by omega)
  obtain⟨h1,h2,h3,h4⟩:=ixG_is hE hin
  have e1:G.z+(a:Int) - G.z=a:=by omega
  have e2:G.x+(b:Int) - G.x=b:=by omega
  rw[e1,e2]at h3
  obtain⟨n,hn⟩:∃ n:Nat,G.w=n:=⟨G.w.toNat,by omega⟩
  have hx:ixG G (G.x+b) (G.z+a)=a*G.w.toNat+b:=by
    rw[hn]at h3 ⊢
    have:((ixG G (G.x+b) (G.z+a):Nat):Int)=((a*n+b:Nat):Int):=by rw[h3];push_cast;rfl
    simpa using Int.ofNat.inj this
  refine⟨hin,hx,by rw[←hx];exact h4,?_,?_⟩
  · rw[Nat.mul_comm,Nat.mul_add_mod,Nat.mod_eq_of_lt (by omega)]
  · rw[Nat.mul_comm,Nat.mul_add_div (by omega),Nat.div_eq_of_lt (by omega),Nat.add_zero]
end Go.Proofs.YtmhghnbgllaihaaGreatDoor

namespace Go.Proofs.YtmhghnbgllaihaaGreatDoor
open Go.RowKit Go.Sort
set_option linter.unusedVariables false
def fE (l:List Sn):Int:=if 8<(mrg l).length then 51 else 0
def fR (l:List Sn):List Sn:=if 8<(mrg l).length then []else mrg l
def FitS (l:List Sn):Prop:=∀ p∈l,-2048≤p.lo∧p.lo≤p.hi∧p.hi≤2048
theorem FitS.bad {l:List Sn} (h:FitS l):fstB badS l=false:=by
  unfold fstB
  rw[List.any_eq_false]
  intro p hp
  rw[(badS_not p).2 (h p hp)]
  simp
theorem FitS.proper {l:List Sn} (h:FitS l):Proper l:=fun p hp=>(h p hp).2.1
theorem own_at {a:Option Addr} {n c g:Nat} {B:Nat} (h:∀ x,a=some x→B≤x.block) (e:(Value.slice a n c).ownBlock=some g):B≤g:=by
  cases a with
  | none=>simp[Value.ownBlock]at e
  | some x =>
    have:=h x rfl
    obtain rfl:x.block=g:=by simpa [Value.ownBlock]using e
    exact this
set_option maxHeartbeats 1000000 in
theorem d_column (L:Nat→List Sn) (n0 G Gb N k:Nat) (hk:k<N) (hN:N≤4096) (hl:(L k).length≤1000) (hf:FitS (L k)) (W:World) (hb:Boxed W Gb 142 (.slice (some ⟨G,0,none⟩) N N)) (hG:Gth 147 180 W n0 G N L) :
    Calls Tryz.prog 159 #[.int .i64 k,.pointer (some ⟨Gb,0,none⟩)] W fun e w'=>∃ v,e=.returned (.tuple #[v,.int .i64 (fE (L k))])∧Sl Sn.enc 3 w' v (fR (L k))∧(∀ g,v.ownBlock=some g→W.heap.size≤g)∧New W w':=by
  obtain⟨vs,hv⟩:=hG
  have c0:=hb.cell
  obtain⟨c1,-⟩:=hv.cell hk
  have hS:Sl Sn.enc 3 W (vs k) (L k):=own_sl Sn.enc_len (hv.rows k hk)
  obtain⟨at0,c,e,hrest⟩:=hS
  have hS':Sl Sn.enc 3 W (.slice at0 (L k).length c) (L k):=⟨at0,c,rfl,hrest⟩
  rw[e]at c1
  have HS:=Lib.hid hS'
  have HB:=Lib.hid hf.bad
  have HP:=Lib.hid hf.proper
  have HL:=Lib.hid hl
  clear hb hv hrest hS' e vs hf hl
  obtain⟨z,hz⟩:∃ z,z=fE (L k):=⟨_,rfl⟩
  rw[←hz]
  have HZ:=Lib.hid hz
  clear hz
  generalize L k=l at *
  go_enter Tryz.func159,Tryz.ntmps159
  go_wp2_with fail
  refine(k_merge_own at0 l c HL.out W HS.out HB.out).mono ?_
  rintro e w1 ⟨n1,R,a,c',hM,hR,rfl,hs,hbl⟩
  have eR:R=mrg l:=mrg_eq HP.out hM
  have hm:c'≤maxLen:=hs.row'.2.2.1
  have hc':R.length≤c':=hs.row'.2.1
  unfold maxLen at hm
  by_cases h8:8<R.length
  · have HE:Hid (z=51∧fR l=[]):=Lib.hid (by rw[HZ.out];unfold fE fR;rw[←eR,if_pos h8,if_pos h8];exact⟨rfl,rfl⟩)
    have hd:((R.length:Int) > 8):=by omega
    have H1:=Lib.hid (And.intro n1 (And.intro hs hbl))
    clear n1 hs eR hM hbl
    go_wp2_with fail
    rw[HE.out.1,HE.out.2]
    refine bodyPost_ret (v:=.tuple #[.slice none 0 0,.int .i64 51]) (by simp[results,Tryz.results159,go_sem, *]) rfl ?_
    exact⟨_,rfl,Sl.nil,fun g h=>(by simp[Value.ownBlock]at h),H1.out.1⟩
  · have HE:Hid (z=0∧fR l=R):=Lib.hid (by rw[HZ.out];unfold fE fR;rw[←eR,if_neg h8,if_neg h8];exact⟨rfl,rfl⟩)
    have hd:¬ ((R.length:Int) > 8):=by omega
    have H1:=Lib.hid (And.intro n1 (And.intro hs hbl))
    clear n1 hs eR hM hbl
    go_wp2_with fail
    rw[HE.out.1,HE.out.2]
    refine bodyPost_ret (v:=.tuple #[.slice a R.length c',.int .i64 0]) (by simp[results,Tryz.results159,go_sem, *]) rfl ?_
    exact⟨_,rfl,H1.out.2.1,fun g h=>own_at H1.out.2.2 h,H1.out.1⟩
end Go.Proofs.YtmhghnbgllaihaaGreatDoor

namespace Go.Proofs.YtmhghnbgllaihaaGreatDoor
open Go.RowKit Go.Sort
set_option linter.unusedVariables false
def oneC (u:Value):List Value:=[u]
theorem oneC_flat (us:List Value):us.flatMap oneC=us:=by
  induction us with
  | nil=>rfl
  | cons u us ih=>rw[List.flatMap_cons,ih];rfl
def RowsV (w:World) (v:Value) (L:List (List Sn)):Prop:=∃ us:List Value,us.length=L.length∧Sl oneC 1 w v us∧∀ j (h:j<L.length),∃ u,us[j]? = some u∧Sl Sn.enc 3 w u L[j]
theorem RowsV.nil {w:World}:RowsV w (.slice none 0 0) []:=⟨[],rfl,Sl.nil,fun j h=>absurd h (by simp)⟩
structure RowsO (tG:TypeId) (base:Nat) (W:World) (v:Value) (us:List Value) (L:List (List Sn)):Prop where
  len:us.length=L.length
  own:W.ownsRow base tG 1 v us.length us
  each:∀ j (h:j<L.length),∃ u,us[j]? = some u∧Sl Sn.enc 3 W u L[j]∧(0<L[j].length→∀ g,u.ownBlock=some g→v.ownBlock≠some g)
theorem sl_other {w w':World} {row:Option Nat} {u:Value} {l:List Sn} (h:Sl Sn.enc 3 w u l) (hg:w.grownBy w' row) (hne:0<l.length→∀ g,u.ownBlock=some g→row≠some g):Sl Sn.enc 3 w' u l:=by
  obtain⟨a,c,rfl,h1,h2,h3,h4⟩:=h
  refine⟨a,c,rfl,h1,h2,h3,fun h0=>?_⟩
  obtain⟨b,off,rfl,hr⟩:=h4 h0
  refine⟨b,off,rfl,fun j hj i hi=>?_⟩
  have hc:=hr j hj i hi
  have:=hg.cell hc (fun e=>hne h0 b (by simp[Value.ownBlock]) e.symm)
  exact this
theorem sl_lt {w:World} {u:Value} {l:List Sn} (h:Sl Sn.enc 3 w u l) (h0:0<l.length) {g:Nat} (e:u.ownBlock=some g):g<w.heap.size:=by
  obtain⟨a,c,rfl,h1,h2,h3,h4⟩:=h
  obtain⟨b,off,rfl,hr⟩:=h4 h0
  obtain rfl:b=g:=by simpa [Value.ownBlock]using e
  exact World.block_lt_of_cell? _ _ (hr 0 h0 0 (by rw[Sn.enc_len];omega))
section
variable {tG:TypeId} {base:Nat} {W W1:World} {v v':Value} {us:List Value} {L:List (List Sn)}
theorem RowsO.nil:RowsO tG base W (.slice none 0 0) [] []:=⟨rfl,World.ownsRow_nil _ _ _ _,fun j h=>absurd h (by simp)⟩
theorem RowsO.new (h:RowsO tG base W v us L) (n:New W W1):RowsO tG base W1 v us L:=⟨h.len,own_new h.own n,fun j hj=>by obtain⟨u,e,hs,hn⟩:=h.each j hj;exact⟨u,e,hs.keep n,hn⟩⟩
theorem RowsO.push (h:RowsO tG base W v us L) {u:Value} {l:List Sn} (hs:Sl Sn.enc 3 W u l) (hn:0<l.length→∀ g,u.ownBlock=some g→v.ownBlock≠some g) (hown:W1.ownsRow base tG 1 v' (us.length+1) (us++[u])) (hg:W.grownBy W1 v.ownBlock) (hat:v'.ownBlock=v.ownBlock∨v'.ownBlock=some W.heap.size) :
    RowsO tG base W1 v' (us++[u]) (L++[l]):=by
  have one:∀ (x:Value) (m:List Sn),Sl Sn.enc 3 W x m→(0<m.length→∀ g,x.ownBlock=some g→v.ownBlock≠some g)→Sl Sn.enc 3 W1 x m∧(0<m.length→∀ g,x.ownBlock=some g→v'.ownBlock≠some g):=fun x m hx hxn =>
    ⟨sl_other hx hg hxn,fun h0 g e=>by
      rcases hat with q|q
      · rw[q];exact hxn h0 g e
      · rw[q]
        have:=sl_lt hx h0 e
        intro e2
        injection e2 with e2
        omega⟩
  refine⟨by simp[h.len],by simpa using hown,fun j hj=>?_⟩
  by_cases hjl:j<L.length
  · obtain⟨x,e,hx,hxn⟩:=h.each j hjl
    have e2:(L++[l])[j]=L[j]:=List.getElem_append_left hjl
    rw[e2]
    exact⟨x,by rw[List.getElem?_append_left (by rw[h.len];exact hjl)];exact e,one x _ hx hxn⟩
  · have hjl':j=L.length:=by simp at hj;omega
    subst hjl'
    have e2:(L++[l])[L.length]=l:=by simp
    rw[e2]
    exact⟨u,by rw[List.getElem?_append_right (by rw[h.len];exact Nat.le_refl _),h.len];simp,one u _ hs hn⟩
theorem RowsO.rows (h:RowsO tG base W v us L):RowsV W v L :=
  ⟨us,h.len,own_sl (enc:=oneC) (k:=1) (l:=us) (fun _=>rfl) (by rw[oneC_flat];exact h.own),fun j hj=>by obtain⟨u,e,hs,_⟩:=h.each j hj;exact⟨u,e,hs⟩⟩
end
def anyE (L:Nat→List Sn) (n:Nat):Bool:=(List.range n).any fun k=>fE (L k) != 0
def bldE (L:Nat→List Sn) (n:Nat):Int:=if anyE L n then 51 else 0
def rowsF (L:Nat→List Sn) (n:Nat):List (List Sn):=(List.range n).map fun k=>fR (L k)
def bldR (L:Nat→List Sn) (n:Nat):List (List Sn):=if anyE L n then []else rowsF L n
theorem rowsF_succ (L:Nat→List Sn) (n:Nat):rowsF L (n+1)=rowsF L n++[fR (L n)]:=by unfold rowsF;rw[List.range_succ,List.map_append];rfl
theorem rowsF_len (L:Nat→List Sn) (n:Nat):(rowsF L n).length=n:=by unfold rowsF;simp
theorem anyE_false {L:Nat→List Sn} {n:Nat} (h:∀ k,k<n→fE (L k)=0):anyE L n=false:=by
  unfold anyE
  rw[List.any_eq_false]
  intro k hk
  rw[h k (List.mem_range.1 hk)]
  simp
theorem anyE_true {L:Nat→List Sn} {n k:Nat} (hk:k<n) (h:fE (L k)≠0):anyE L n=true:=List.any_eq_true.2 ⟨k,List.mem_range.2 hk,by simpa using h⟩
theorem fE_two (l:List Sn):fE l=0∨fE l=51:=by unfold fE;split <;> simp
theorem rows_info:(Tryz.prog.info? 147).map (fun i=>(i.zero,i.size,i.bytes))=some (some (.slice none 0 0),1,24):=by kernel_rfl
end Go.Proofs.YtmhghnbgllaihaaGreatDoor
