import Derived.Test.YtmhghnbgllaihaaGreatDoorRows
import Derived.ProofKit
import Derived.OpenShut
import Derived.WalkKit
import Derived.WalkSpells
import Derived.WalkLawsBesides
import Derived.IntWalk
import Derived.Deep.QuietTactic
import Derived.BigQuiet
import Derived.Handy
import Derived.Lib.Hide
import Derived.Lib.MinMax
import Derived.Deep.Slices
import Derived.Deep.LoopGhost
set_option linter.unusedVariables false
set_option maxHeartbeats 16000000

namespace Go.Proofs.YtmhghnbgllaihaaGreatDoor
open Go.ChangeShapes Go.WideShapes Go.RowKit
inductive Kd where
 | num (k:IntKind)
 | yes
 | text
def Fit:Kd→Value→Prop
 | .num k,v=>∃ n:Int,v=.int k n∧(Lit.int k n).wf=true
 | .yes,v=>∃ b:Bool,v=.bool b
 | .text,v=>∃ s:ByteArray,v=.string s∧s.size≤maxLen
def Fits:List Kd→List Value→Prop
 | [],[]=>True
 | k::ks,v::vs=>Fit k v∧Fits ks vs
 | _,_=>False
theorem Fits.length:∀ {ks:List Kd} {vs:List Value},Fits ks vs→vs.length=ks.length
 | [],[],_=>rfl
 | _::_,_::_,h=>by simp[Fits.length h.2]
 | [],_::_,h=>h.elim
 | _::_,[],h=>h.elim
theorem Fits.append:∀ {ks ls:List Kd} {vs us:List Value},Fits ks vs→Fits ls us→Fits (ks++ls) (vs++us)
 | [],_,[],_,_,k=>k
 | _::_,_,_::_,_,h,k=>⟨h.1,Fits.append h.2 k⟩
 | [],_,_::_,_,h,_=>h.elim
 | _::_,_,[],_,h,_=>h.elim
mutual
def flat (P:Program):Nat→TypeId→Option (List Kd)
 | 0,_=>none
 | n+1,t=>match P.underlying t with
  | some (.int k)=>some [.num k]
  | some .bool=>some [.yes]
  | some .string=>some [.text]
  | some (.array m e)=>match flat P n e with
   | some ks=>if ks.length=P.cellsOf e∧m*ks.length=P.cellsOf t then some (List.replicate m ks).flatten else none
   | none=>none
  | some (.struct fs)=>match flatFields P n 0 fs.toList with
   | some ks=>if ks.length=P.cellsOf t then some ks else none
   | none=>none
  | _=>none
def flatFields (P:Program):Nat→Nat→List Field→Option (List Kd)
 | _,_,[]=>some []
 | 0,_,_::_=>none
 | n+1,o,f::fs=>if f.offset=o then match flat P n f.type with
   | some ks=>match flatFields P n (o+ks.length) fs with
    | some ls=>some (ks++ls)
    | none=>none
   | none=>none
  else none
end
theorem take_of_length {α:Type} {l:List α} {c m:Nat} (h:(l.take c).length=m):l.take m=l.take c:=by
 rw[List.length_take]at h
 subst h
 rw[List.take_eq_take_iff];omega
section
variable {H:Type} {enc:TypeId×Value→H} {P:Program} {w:World} {base:Nat} {spare:Nat→Bool} {held:Bool}
theorem fits_rep {ks:List Kd} {c:Nat} (hc:ks.length=c):∀ (m:Nat) (cs:List Value),(∀ i,i<m→Fits ks ((cs.drop (i*c)).take c))→Fits (List.replicate m ks).flatten (cs.take (m*c))
 | 0,cs,_=>by simp[Fits]
 | m+1,cs,h=>by
  rw[List.replicate_succ,List.flatten_cons,show(m+1)*c=c+m*c by rw[Nat.add_mul];omega,List.take_add]
  refine Fits.append (by simpa using h 0 (by omega)) (fits_rep hc m (cs.drop c) fun i hi=>?_)
  have:=h (i+1) (by omega)
  rw[List.drop_drop]
  rwa [show(i+1)*c=c+i*c by rw[Nat.add_mul];omega]at this
mutual
theorem fits_flat:∀ (n:Nat) {m:Nat} {t:TypeId} {cs:List Value} {x:DataW H×List MemPlace} {ks:List Kd},flat P n t=some ks→DataW.trod enc P w base spare held m t cs=some x→Fits ks cs
 | 0,_,_,_,_,_,hf,_=>by simp[flat]at hf
 | n+1,m,t,cs,x,ks,hf,h=>by
  unfold flat at hf
  split at hf
  ·rename_i k hu
   obtain⟨v,rfl,_,hw⟩:=DataW.trod_int hu h
   obtain rfl:=Option.some.inj hf
   exact⟨⟨v,rfl,hw⟩,trivial⟩
  ·rename_i hu
   obtain⟨v,rfl,_⟩:=DataW.trod_bool hu h
   obtain rfl:=Option.some.inj hf
   exact⟨⟨v,rfl⟩,trivial⟩
  ·rename_i hu
   obtain⟨v,rfl,_,hw⟩:=DataW.trod_string hu h
   obtain rfl:=Option.some.inj hf
   exact⟨⟨v,rfl,hw⟩,trivial⟩
  ·rename_i k e hu
   split at hf
   ·rename_i ls hl
    split at hf
    ·rename_i hc
     obtain rfl:=Option.some.inj hf
     obtain⟨xs,m',_,_,hlen,hxs,hi⟩:=DataW.trod_array hu h
     have:=fits_rep hc.1 k cs fun i hik=>by
      have h2:=hi i hik
      rw[List.getElem?_eq_getElem (by omega)]at h2
      exact fits_flat n hl h2
     rw[←hc.1,List.take_of_length_le (by omega)]at this
     exact this
    ·cases hf
   ·cases hf
  ·rename_i fs hu
   split at hf
   ·rename_i ls hl
    split at hf
    ·rename_i hc
     obtain rfl:=Option.some.inj hf
     obtain⟨xs,m',_,_,hlen,hxs,hi⟩:=DataW.trod_struct hu h
     have:=fits_fields n 0 fs.toList (cs:=cs) (m:=m') hl fun f hfm=>by
      obtain⟨i,hi1,hi2⟩:=List.getElem_of_mem hfm
      have h2:=hi i f (by rw[Array.getElem?_eq_getElem (by simpa using hi1)];simpa using hi2)
      rw[List.getElem?_eq_getElem (by rw[hxs];simpa using hi1)]at h2
      exact⟨_,h2⟩
     rw[List.drop_zero,List.take_of_length_le (by omega)]at this
     exact this
    ·cases hf
   ·cases hf
  ·cases hf
theorem fits_fields:∀ (n o:Nat) (fs:List Field) {m:Nat} {cs:List Value} {ks:List Kd},flatFields P n o fs=some ks →
  (∀ f∈fs,∃ x,DataW.trod enc P w base spare held m f.type ((cs.drop f.offset).take (P.cellsOf f.type))=some x)→Fits ks ((cs.drop o).take ks.length)
 | 0,_,[],_,_,_,hf,_=>by
  simp[flatFields]at hf
  subst hf
  exact trivial
 | n+1,_,[],_,_,_,hf,_=>by
  simp[flatFields]at hf
  subst hf
  exact trivial
 | 0,_,_::_,_,_,_,hf,_=>by simp[flatFields]at hf
 | n+1,o,f::fs,m,cs,ks,hf,h=>by
  unfold flatFields at hf
  split at hf
  ·rename_i ho
   split at hf
   ·rename_i ls hl
    split at hf
    ·rename_i rs hr
     obtain rfl:=Option.some.inj hf
     obtain⟨x,hx⟩:=h f List.mem_cons_self
     have h1:=fits_flat n hl hx
     rw[ho]at h1
     have h2:=fits_fields n (o+ls.length) fs (cs:=cs) hr fun g hg=>h g (List.mem_cons_of_mem _ hg)
     rw[←List.drop_drop]at h2
     rw[List.length_append,List.take_add]
     refine Fits.append ?_ h2
     rw[take_of_length h1.length]
     exact h1
    ·cases hf
   ·cases hf
  ·cases hf
end
theorem open_flat {r:Reach} {b0:Nat} {t:TypeId} {fs:Array Field} {v:Value} {d:DataW H} {p:List MemPlace} {ks:List Kd} (hs:P.underlying t=some (.struct fs)) (n:Nat) (hk:flat P n t=some ks)
  (hv:Value.okWide P w r b0 t v) (h:DataW.Trod enc P w base spare held t v d p):∃ cs:Array Value,v=.agg cs∧Fits ks cs.toList:=by
 obtain⟨cs,rfl,_⟩:=okWide_struct hs hv
 obtain⟨fuel,hf⟩:=h
 exact⟨cs,rfl,fits_flat n hk hf⟩
end
theorem Fits.cons {k:Kd} {ks:List Kd} {vs:List Value} (h:Fits (k::ks) vs):∃ v us,vs=v::us∧Fit k v∧Fits ks us:=by
 cases vs with
 | nil=>exact h.elim
 | cons v us=>exact⟨v,us,rfl,h.1,h.2⟩
theorem Fits.nil {vs:List Value} (h:Fits [] vs):vs=[]:=by
 cases vs with
 | nil=>rfl
 | cons v us=>exact h.elim
theorem fits7 {k:IntKind} {cs:Array Value} (h:Fits [.num k,.num k,.num k,.num k,.num k,.num k,.num k] cs.toList) :
  ∃ a b c d e f g:Int,cs=#[.int k a,.int k b,.int k c,.int k d,.int k e,.int k f,.int k g]:=by
 obtain⟨l⟩:=cs
 obtain⟨_,_,e1,⟨a,rfl,_⟩,h⟩:=h.cons
 obtain⟨_,_,e2,⟨b,rfl,_⟩,h⟩:=h.cons
 obtain⟨_,_,e3,⟨c,rfl,_⟩,h⟩:=h.cons
 obtain⟨_,_,e4,⟨d,rfl,_⟩,h⟩:=h.cons
 obtain⟨_,_,e5,⟨e,rfl,_⟩,h⟩:=h.cons
 obtain⟨_,_,e6,⟨f,rfl,_⟩,h⟩:=h.cons
 obtain⟨_,_,e7,⟨g,rfl,_⟩,h⟩:=h.cons
 have e8:=h.nil
 subst e8 e7 e6 e5 e4 e3 e2
 exact⟨a,b,c,d,e,f,g,by rw[show l=_ from e1]⟩
end Go.Proofs.YtmhghnbgllaihaaGreatDoor

namespace Go.Proofs.YtmhghnbgllaihaaGreatDoor
open Go.RowKit
structure Hat (W:World) where
 w:World
 h:Below W.heap.size W w
instance (W:World):Nonempty (Hat W):=⟨⟨W,Below.refl _ _⟩⟩
def New (w w':World):Prop:=Below w.heap.size w w'
theorem New.refl (w:World):New w w:=Below.refl _ _
theorem New.trans {a b c:World} (h:New a b) (k:New b c):New a c:=Below.trans h (Below.mono k h.size)
theorem New.alloc {a w:World} (h:New a w) (o:Obj):New a (w.alloc o):=Below.alloc h h.size o
theorem New.drew {a w:World} (h:New a w):New a w.drew:=Below.drew h
theorem New.drewN {a w:World} (h:New a w) (n:Nat):New a (w.drewN n):=⟨h.os,h.tape,h.output,h.size,h.block⟩
theorem New.setCell {a w:World} (h:New a w) {p:Addr} (hp:a.heap.size≤p.block) (u:Value):New a (w.setCell p u):=Below.setCell h hp u
theorem New.setB {a w:World} {p:Addr} (hp:a.heap.size≤p.block) (h:New a w) (u:Value):New a (w.setCell p u):=h.setCell hp u
theorem New.snart {a b c:World} (k:New b c) (h:New a b):New a c:=h.trans k
theorem New.hat {a W:World} (h:New a W) (x:Hat W):New a x.w:=h.trans x.h
theorem nw {a w:World} (h:New a w:=by(repeat(first|(with_reducible exact New.refl _)|(with_reducible assumption)|((with_reducible refine New.setB ?_ ?_ _);focus(first|omega|(simp;omega)|(simp;done)))|(with_reducible refine New.alloc ?_ _)|(with_reducible refine New.drew ?_)|(with_reducible refine New.drewN ?_ _)|(with_reducible refine New.hat ?_ _)|((with_reducible apply New.snart);(with_reducible assumption))))):New a w:=h
theorem New.size {a w:World} (h:New a w):a.heap.size≤w.heap.size:=Below.size h
theorem New.cell {a w:World} (h:New a w) (b o:Nat) (hb:b<a.heap.size):w.cell? ⟨b,o,none⟩=a.cell? ⟨b,o,none⟩:=Below.cell h (p:=⟨b,o,none⟩) hb
theorem New.frozen {a w:World} (h:New a w) (b o:Nat) (hb:b<a.heap.size):w.frozen? ⟨b,o,none⟩=a.frozen? ⟨b,o,none⟩:=Below.frozen h (p:=⟨b,o,none⟩) hb
theorem New.keep {a w:World} (h:New a w) {b o:Nat} {v:Value} (hc:a.cell? ⟨b,o,none⟩=some v):w.cell? ⟨b,o,none⟩=some v :=
 (h.cell b o (World.block_lt_of_cell? a ⟨b,o,none⟩ hc)).trans hc
theorem New.keepF {a w:World} (h:New a w) {b o:Nat} {v:Value} (hc:a.cell? ⟨b,o,none⟩=some v) {f:Bool} (hf:a.frozen? ⟨b,o,none⟩=f):w.frozen? ⟨b,o,none⟩=f :=
 (h.frozen b o (World.block_lt_of_cell? a ⟨b,o,none⟩ hc)).trans hf
theorem keeps {W w:World} (h:New W w):New W w∧∀ b o,(W.cell? ⟨b,o,none⟩).isSome=true→w.cell? ⟨b,o,none⟩=W.cell? ⟨b,o,none⟩ :=
 ⟨h,fun b o hb=>by obtain⟨v,hv⟩:=Option.isSome_iff_exists.1 hb;rw[hv];exact h.keep hv⟩
theorem keepsF {W w:World} (h:New W w):∀ b o,(W.cell? ⟨b,o,none⟩).isSome=true→w.frozen? ⟨b,o,none⟩=W.frozen? ⟨b,o,none⟩ :=
 fun b o hb=>by obtain⟨v,hv⟩:=Option.isSome_iff_exists.1 hb;exact h.keepF hv rfl
theorem hat_cell {W:World} (x:Hat W) (b o:Nat) (h:(W.cell? ⟨b,o,none⟩).isSome=true):x.w.cell? ⟨b,o,none⟩=W.cell? ⟨b,o,none⟩:=(keeps x.h).2 b o h
theorem hat_frozen {W:World} (x:Hat W) (b o:Nat) (h:(W.cell? ⟨b,o,none⟩).isSome=true):x.w.frozen? ⟨b,o,none⟩=W.frozen? ⟨b,o,none⟩:=keepsF x.h b o h
theorem Calls.at {P:Program} {f:FuncId} {args:Array Value} {w:World} {Q:Ending→World→Prop} (h:∀ W,W=w→Calls P f args W Q):Calls P f args w Q:=h w rfl
theorem Code.at {P:Program} {s:Code} {Q:Exit→Act→World→Prop} {a:Act} {w:World} (h:∀ W,W=w→s.wp P Q a W):s.wp P Q a w:=h w rfl
theorem Calls.hat {P:Program} {f:FuncId} {args:Array Value} {W:World} {x:Hat W} {v:Value}
  (h:Calls P f args x.w fun e w'=>e=.returned v∧New x.w w'):Calls P f args x.w fun e w''=>e=.returned v∧∃ y:Hat W,w''=y.w :=
 h.mono fun _ w'' ⟨he,hn⟩=>⟨he,⟨w'',Below.trans x.h (Below.mono hn x.h.size)⟩,rfl⟩
theorem Calls.hat_same {P:Program} {f:FuncId} {args:Array Value} {W:World} {x:Hat W} {v:Value}
  (h:Calls P f args x.w fun e w'=>e=.returned v∧x.w=w'):Calls P f args x.w fun e w''=>e=.returned v∧∃ y:Hat W,w''=y.w :=
 h.mono fun _ _ ⟨he,hn⟩=>⟨he,x,hn.symm⟩
theorem wp_region_hat {P:Program} {id:Nat} {Q:Exit→Act→World→Prop} {a:Act} {w:World} {l:List Oper} (hm:P.follows .mixedOrders=true) (hB:Region.lexB .any l.toArray=true)
  (h:(∀ (x:Hat w) (b o:Nat),(w.cell? ⟨b,o,none⟩).isSome=true→x.w.cell? ⟨b,o,none⟩=w.cell? ⟨b,o,none⟩)→(∀ (x:Hat w) (b o:Nat),(w.cell? ⟨b,o,none⟩).isSome=true→x.w.frozen? ⟨b,o,none⟩=w.frozen? ⟨b,o,none⟩)→wpQuiet P l.toArray (fun w'=>∃ x:Hat w,w'=x.w) (fun a'=>∀ w',(∃ x:Hat w,w'=x.w)→Q .normal a' w') l a):(Code.region id l.toArray true).wp P Q a w :=
 wp_region_quiet (C:=fun w'=>∃ x:Hat w,w'=x.w) hm hB ⟨⟨_,Below.drew (Below.refl _ w)⟩,rfl⟩ (by simpa using h hat_cell hat_frozen)
end Go.Proofs.YtmhghnbgllaihaaGreatDoor

namespace Go.Proofs.YtmhghnbgllaihaaGreatDoor
open Go.ChangeShapes Go.WideShapes Go.RowKit Go.Deep
theorem spot_none {w:World} {b o:Nat} {s:Option Nat} {v:Value} (h:w.cell? ⟨b,o,s⟩=some v):s=none:=by
 cases s with
 | none=>rfl
 | some x =>
  unfold World.cell? at h
  split at h <;> simp at h
theorem add_none (b o n:Nat):(⟨b,o,none⟩:Addr).add n=⟨b,o+n,none⟩:=by
 unfold Addr.add
 split
 ·simp_all
 ·rfl
def CellsAt (w:World) (b o:Nat) (vs:List Value):Prop:=∀ i (h:i<vs.length),w.cell? ⟨b,o+i,none⟩=some vs[i]
theorem CellsAt.keep {w w':World} {b o:Nat} {vs:List Value} (h:CellsAt w b o vs) (hn:New w w'):CellsAt w' b o vs:=fun i hi=>hn.keep (h i hi)
section
variable {α:Type}
def RowAt (enc:α→List Value) (k:Nat) (w:World) (b off:Nat) (l:List α):Prop:=∀ j (h:j<l.length),CellsAt w b (off+j*k) (enc l[j])
theorem RowAt.keep {enc:α→List Value} {k:Nat} {w w':World} {b off:Nat} {l:List α} (h:RowAt enc k w b off l) (hn:New w w'):RowAt enc k w' b off l:=fun j hj=>(h j hj).keep hn
def RowIn (enc:α→List Value) (k:Nat) (w:World) (at0:Option Addr) (l:List α):Prop:=0<l.length→∃ b off,at0=some ⟨b,off,none⟩∧RowAt enc k w b off l
theorem RowIn.keep {enc:α→List Value} {k:Nat} {w w':World} {at0:Option Addr} {l:List α} (h:RowIn enc k w at0 l) (hn:New w w'):RowIn enc k w' at0 l :=
 fun h0=>by obtain⟨b,off,e,h1⟩:=h h0;exact⟨b,off,e,h1.keep hn⟩
theorem RowIn.nil {enc:α→List Value} {k:Nat} {w:World} {at0:Option Addr}:RowIn enc k w at0 ([]:List α):=fun h=>absurd h (by simp)
theorem RowAt.take {enc:α→List Value} {k:Nat} {w:World} {b off:Nat} {l:List α} (h:RowAt enc k w b off l) (n:Nat):RowAt enc k w b off (l.take n):=fun j hj=>by
 have hj':j<l.length:=by simp at hj;omega
 rw[List.getElem_take]
 exact h j hj'
theorem RowAt.drop {enc:α→List Value} {k:Nat} {w:World} {b off:Nat} {l:List α} (h:RowAt enc k w b off l) (n:Nat):RowAt enc k w b (off+n*k) (l.drop n):=fun j hj=>by
 have hj':n+j<l.length:=by simp at hj;omega
 rw[List.getElem_drop]
 have:=h (n+j) hj'
 rwa [Nat.add_mul,←Nat.add_assoc]at this
def Sl (enc:α→List Value) (k:Nat) (w:World) (v:Value) (l:List α):Prop:=∃ at0 c,v=.slice at0 l.length c∧l.length≤c∧c≤maxLen∧(at0=none→c=0)∧RowIn enc k w at0 l
theorem Sl.keep {enc:α→List Value} {k:Nat} {w w':World} {v:Value} {l:List α} (h:Sl enc k w v l) (hn:New w w'):Sl enc k w' v l:=by
 obtain⟨a,c,e,h1,h2,h3,h4⟩:=h
 exact⟨a,c,e,h1,h2,h3,h4.keep hn⟩
theorem Sl.nil {enc:α→List Value} {k:Nat} {w:World}:Sl enc k w (.slice none 0 0) ([]:List α):=⟨none,0,rfl,Nat.le_refl _,Nat.zero_le _,fun _=>rfl,RowIn.nil⟩
theorem list_map_of {β:Type} (f:α→β) (P:β→Prop) (l:List β) (h:∀ x∈l,P x) (hp:∀ y,P y→∃ x,f x=y):∃ l':List α,l'.map f=l:=by
 induction l with
 | nil=>exact⟨[],rfl⟩
 | cons y l ih =>
  obtain⟨x,hx⟩:=hp y (h y List.mem_cons_self)
  obtain⟨l',hl'⟩:=ih fun z hz=>h z (List.mem_cons_of_mem _ hz)
  exact⟨x::l',by rw[List.map_cons,hx,hl']⟩
theorem open_row [Inhabited α] {H:Type} {enc:TypeId×Value→H} {P:Program} {w:World} {base:Nat} {spare:Nat→Bool} {held:Bool} {t e:TypeId} {cs:List Value} {x:DataW H×List MemPlace} {fuel:Nat} {ks:List Kd} (en:α→List Value) (k:Nat) (hkl:∀ a,(en a).length=k) (hk0:0<k)
  (ht:P.underlying t=some (.slice e)) (hce:P.cellsOf e=k) (hk:flat P 64 e=some ks) (hen:∀ vs,Fits ks vs→∃ a,en a=vs) (h:DataW.trod enc P w base spare held fuel t cs=some x):∃ (v:Value) (l:List α),cs=[v]∧Sl en k w v l:=by
 rcases open_slice ht h with ⟨hc,_⟩|⟨a',len',cap',m,n',D,Pl,hc,hb,hl,hm,hmm,_,hx⟩
 ·exact⟨_,[],hc,Sl.nil⟩
 ·have hlm:len'≤m:=by rw[hmm];split <;> omega
  have each:∀ i,i<len'→∃ q:α,∀ j (hj:j<(en q).length),w.cell? ((a'.add (i*k)).add j)=some (en q)[j]:=fun i hi=>by
   obtain⟨cs',g1,g2⟩:=hx i (by omega)
   rw[hce]at g1
   obtain⟨_,hlen,hcell⟩:=World.cells?_some g1
   have hfit:=fits_flat 64 hk g2
   obtain⟨q,hq⟩:=hen _ hfit
   refine⟨q,fun j hj=>?_⟩
   subst hq
   rw[hcell j (by rw[←hlen];exact hj),List.getElem?_eq_getElem hj]
  obtain⟨f,hf⟩:=choose_lt each
  obtain⟨ab,ao,as'⟩:=a'
  refine⟨_,(List.range len').map f,hc,some ⟨ab,ao,as'⟩,cap',by simp,by simpa using hl,hm,fun h=>(by cases h),fun h0=>?_⟩
  simp only[List.length_map,List.length_range]at h0
  have hs:as'=none:=by
   have h1:=hf 0 h0 0 (by rw[hkl];exact hk0)
   cases as' with
   | none=>rfl
   | some x =>
    rw[Nat.zero_mul,Addr.add_zero',Addr.add_zero']at h1
    exact absurd (spot_none h1) (by simp)
  subst hs
  refine⟨ab,ao,rfl,fun j hj i hi=>?_⟩
  simp only[List.length_map,List.length_range]at hj
  simp only[List.getElem_map,List.getElem_range]at hi ⊢
  have:=hf j hj i hi
  simp only[add_none]at this
  exact this
end
end Go.Proofs.YtmhghnbgllaihaaGreatDoor

namespace Go.Proofs.YtmhghnbgllaihaaGreatDoor
open Go.RowKit
structure Sn where
 (lo hi:Int)
 wk:Bool
instance:Inhabited Sn:=⟨⟨0,0,false⟩⟩
def Sn.zero:Sn:=⟨0,0,false⟩
theorem Sn.ext' {a b:Sn} (h1:a.lo=b.lo) (h2:a.hi=b.hi) (h3:a.wk=b.wk):a=b:=by
 cases a;cases b;simp_all
def Sn.enc (x:Sn):List Value:=#[.int .i64 x.lo,.int .i64 x.hi,.bool x.wk].toList
theorem Sn.enc_len (x:Sn):x.enc.length=3:=rfl
theorem Sn.enc_one (x:Sn):∀ u∈x.enc,u.oneCell'=true:=by
 intro u hu
 simp[Sn.enc]at hu
 rcases hu with rfl|rfl|rfl <;> rfl
def Sn.eqB (a b:Sn):Bool:=a.lo==b.lo&&a.hi==b.hi&&a.wk==b.wk
theorem Sn.eqB_iff (a b:Sn):a.eqB b=true↔a=b:=by
 obtain⟨a0,a1,a2⟩:=a
 obtain⟨b0,b1,b2⟩:=b
 simp[Sn.eqB,and_assoc]
instance:DecidableEq Sn:=fun a b=>decidable_of_iff _ (Sn.eqB_iff a b)
theorem Sn.cells {w:World} {b off:Nat} {l:List Sn} (H:RowAt Sn.enc 3 w b off l) (j:Nat) (h:j<l.length) :
  w.cell? ⟨b,off+j*3,none⟩=some (.int .i64 l[j].lo)∧w.cell? ⟨b,off+j*3+1,none⟩=some (.int .i64 l[j].hi)∧w.cell? ⟨b,off+j*3+2,none⟩=some (.bool l[j].wk) :=
 ⟨H j h 0 (by rw[Sn.enc_len];omega),H j h 1 (by rw[Sn.enc_len];omega),H j h 2 (by rw[Sn.enc_len];omega)⟩
theorem Sl.row' {α:Type} {enc:α→List Value} {k:Nat} {w:World} {at0:Option Addr} {n c:Nat} {l:List α} (h:Sl enc k w (.slice at0 n c) l):n=l.length∧l.length≤c∧c≤maxLen∧(at0=none→c=0)∧RowIn enc k w at0 l:=by
 obtain⟨a,c',e,h1,h2,h3,h4⟩:=h
 injection e with e1 e2 e3
 subst e1 e2 e3
 exact⟨rfl,h1,h2,h3,h4⟩
def Proper (l:List Sn):Prop:=∀ p∈l,p.lo≤p.hi
def Sep (l:List Sn):Prop:=l.Pairwise fun a b=>a.hi<b.lo
theorem Sep.three {l:List Sn} (h:Sep l) {a b:Sn} (ha:a∈l) (hb:b∈l):a=b∨a.hi<b.lo∨b.hi<a.lo:=by
 obtain⟨i,hi,rfl⟩:=List.getElem_of_mem ha
 obtain⟨j,hj,rfl⟩:=List.getElem_of_mem hb
 have h':=List.pairwise_iff_getElem.1 h
 rcases Nat.lt_trichotomy i j with k|k|k
 ·exact .inr (.inl (h' i j hi hj k))
 ·subst k;exact .inl rfl
 ·exact .inr (.inr (h' j i hj hi k))
theorem Sep.one {l:List Sn} (h:Sep l) {a b:Sn} (ha:a∈l) (hb:b∈l) {y:Int} (a1:a.lo≤y) (a2:y≤a.hi) (b1:b.lo≤y) (b2:y≤b.hi):a=b:=by
 rcases h.three ha hb with k|k|k
 ·exact k
 ·omega
 ·omega
structure IsM (l R:List Sn):Prop where
 sep:Sep R
 fit:Proper R
 isin:∀ p∈l,∃ r∈R,r.lo≤p.lo∧p.hi≤r.hi
 cov:∀ r∈R,∀ c,r.lo≤c→c<r.hi→∃ p∈l,p.lo≤c∧c<p.hi
 low:∀ r∈R,∃ p∈l,p.lo=r.lo
 top:∀ r∈R,r.wk=true↔∃ p∈l,p.hi=r.hi∧p.wk=true
theorem IsM.nil:IsM [] []:=⟨List.Pairwise.nil,fun p h=>by simp at h,fun p h=>by simp at h,fun p h=>by simp at h,fun p h=>by simp at h,fun p h=>by simp at h⟩
theorem IsM.congr {l l' R:List Sn} (h:IsM l R) (e:∀ p,p∈l'↔p∈l):IsM l' R where
 sep:=h.sep
 fit:=h.fit
 isin p hp:=h.isin p ((e p).1 hp)
 cov r hr c h1 h2:=by obtain⟨p,hp,k⟩:=h.cov r hr c h1 h2;exact⟨p,(e p).2 hp,k⟩
 low r hr:=by obtain⟨p,hp,k⟩:=h.low r hr;exact⟨p,(e p).2 hp,k⟩
 top r hr:=by
  rw[h.top r hr]
  constructor
  ·rintro⟨p,hp,k⟩;exact⟨p,(e p).2 hp,k⟩
  ·rintro⟨p,hp,k⟩;exact⟨p,(e p).1 hp,k⟩
theorem IsM.self {R:List Sn} (h:Sep R) (hf:Proper R):IsM R R where
 sep:=h
 fit:=hf
 isin p hp:=⟨p,hp,Int.le_refl _,Int.le_refl _⟩
 cov r hr c h1 h2:=⟨r,hr,h1,h2⟩
 low r hr:=⟨r,hr,rfl⟩
 top r hr:=by
  constructor
  ·intro k;exact⟨r,hr,rfl,k⟩
  ·rintro⟨p,hp,k1,k2⟩
   have f1:=hf p hp
   have f2:=hf r hr
   have:=h.one hp hr (y:=r.hi) (by omega) (by omega) (by omega) (by omega)
   rw[←this];exact k2
theorem IsM.sinks {l l' R R':List Sn} (hf:Proper l) (h:IsM l R) (h':IsM l' R') (e:∀ p,p∈l→p∈l') {r:Sn} (hr:r∈R):∃ r'∈R',r'.lo≤r.lo∧r.hi≤r'.hi:=by
 obtain⟨p,hp,hlo⟩:=h.low r hr
 obtain⟨r',hr',k1,k2⟩:=h'.isin p (e p hp)
 have hfr:=h.fit r hr
 have hfr':=h'.fit r' hr'
 have key:∀ n:Nat,r.lo+n≤r.hi→r'.lo≤r.lo+n∧r.lo+n≤r'.hi:=by
  intro n
  induction n with
  | zero =>
   intro _
   have:=hf p hp
   omega
  | succ n ih =>
   intro hle
   obtain⟨i1,i2⟩:=ih (by omega)
   obtain⟨u,hu,u1,u2⟩:=h.cov r hr (r.lo+n) (by omega) (by omega)
   obtain⟨v,hv,v1,v2⟩:=h'.isin u (e u hu)
   have:=h'.sep.one hr' hv (y:=r.lo+n) i1 i2 (by omega) (by omega)
   subst this
   omega
 obtain⟨n,hn⟩:∃ n:Nat,r.hi=r.lo+n:=⟨(r.hi - r.lo).toNat,by omega⟩
 exact⟨r',hr',by omega,by have:=(key n (by omega)).2;omega⟩
theorem sep_rise {R:List Sn} (h:Sep R) (hf:Proper R):R.Pairwise fun a b=>a.lo<b.lo:=by
 unfold Sep at h
 rw[List.pairwise_iff_getElem]at h ⊢
 intro i j hi hj hij
 have:=h i j hi hj hij
 have:=hf _ (List.getElem_mem hi)
 omega
theorem rise_one:∀ {R S:List Sn},R.Pairwise (fun a b=>a.lo<b.lo)→S.Pairwise (fun a b=>a.lo<b.lo)→(∀ a,a∈R↔a∈S)→R=S
 | [],[],_,_,_=>rfl
 | [],s::S,_,_,h=>absurd ((h s).2 List.mem_cons_self) (by simp)
 | r::R,[],_,_,h=>absurd ((h r).1 List.mem_cons_self) (by simp)
 | r::R,s::S,hr,hs,h=>by
  rw[List.pairwise_cons]at hr hs
  have e:r=s:=by
   rcases List.mem_cons.1 ((h r).1 List.mem_cons_self)with k|k
   ·exact k
   ·rcases List.mem_cons.1 ((h s).2 List.mem_cons_self)with g|g
    ·exact g.symm
    ·have:=hs.1 r k
     have:=hr.1 s g
     omega
  subst e
  congr 1
  refine rise_one hr.2 hs.2 fun a=>?_
  constructor
  ·intro ha
   rcases List.mem_cons.1 ((h a).1 (List.mem_cons_of_mem _ ha))with k|k
   ·subst k;have:=hr.1 a ha;omega
   ·exact k
  ·intro ha
   rcases List.mem_cons.1 ((h a).2 (List.mem_cons_of_mem _ ha))with k|k
   ·subst k;have:=hs.1 a ha;omega
   ·exact k
theorem IsM.uniq {l l' R R':List Sn} (hf:Proper l) (h:IsM l R) (h':IsM l' R') (e:∀ p,p∈l↔p∈l'):R=R':=by
 have half:∀ {l l' R R':List Sn},Proper l→Proper l'→IsM l R→IsM l' R'→(∀ p,p∈l↔p∈l')→∀ r,r∈R→r∈R':=by
  intro l l' R R' hf hf' h h' e r hr
  obtain⟨r',hr',a1,a2⟩:=h.sinks hf h' (fun p hp=>(e p).1 hp) hr
  obtain⟨s,hs,b1,b2⟩:=h'.sinks hf' h (fun p hp=>(e p).2 hp) hr'
  have f1:=h.fit r hr
  have:=h.sep.one hr hs (y:=r.lo) (by omega) (by omega) (by omega) (by omega)
  subst this
  have e1:r.lo=r'.lo:=by omega
  have e2:r.hi=r'.hi:=by omega
  have e3:r.wk=r'.wk:=by
   rw[Bool.eq_iff_iff,h.top r hr,h'.top r' hr',e2]
   constructor
   ·rintro⟨p,hp,k⟩;exact⟨p,(e p).1 hp,k⟩
   ·rintro⟨p,hp,k⟩;exact⟨p,(e p).2 hp,k⟩
  rw[Sn.ext' e1 e2 e3]
  exact hr'
 have hf':Proper l':=fun p hp=>hf p ((e p).2 hp)
 exact rise_one (sep_rise h.sep h.fit) (sep_rise h'.sep h'.fit) fun a=>⟨half hf hf' h h' e a,half hf' hf h' h (fun p=>(e p).symm) a⟩
theorem IsM.parts {a P b R:List Sn} (hf:Proper a) (h1:IsM a P) (h2:IsM (P++b) R):IsM (a++b) R where
 sep:=h2.sep
 fit:=h2.fit
 isin p hp:=by
  rcases List.mem_append.1 hp with k|k
  ·obtain⟨q,hq,q1,q2⟩:=h1.isin p k
   obtain⟨r,hr,r1,r2⟩:=h2.isin q (List.mem_append_left _ hq)
   exact⟨r,hr,by omega,by omega⟩
  ·exact h2.isin p (List.mem_append_right _ k)
 cov r hr c c1 c2:=by
  obtain⟨q,hq,q1,q2⟩:=h2.cov r hr c c1 c2
  rcases List.mem_append.1 hq with k|k
  ·obtain⟨p,hp,p1,p2⟩:=h1.cov q k c q1 q2
   exact⟨p,List.mem_append_left _ hp,p1,p2⟩
  ·exact⟨q,List.mem_append_right _ k,q1,q2⟩
 low r hr:=by
  obtain⟨q,hq,q1⟩:=h2.low r hr
  rcases List.mem_append.1 hq with k|k
  ·obtain⟨p,hp,p1⟩:=h1.low q k
   exact⟨p,List.mem_append_left _ hp,by omega⟩
  ·exact⟨q,List.mem_append_right _ k,q1⟩
 top r hr:=by
  rw[h2.top r hr]
  constructor
  ·rintro⟨q,hq,q1,q2⟩
   rcases List.mem_append.1 hq with k|k
   ·obtain⟨p,hp,p1,p2⟩:=(h1.top q k).1 q2
    exact⟨p,List.mem_append_left _ hp,by omega,p2⟩
   ·exact⟨q,List.mem_append_right _ k,q1,q2⟩
  ·rintro⟨p,hp,p1,p2⟩
   rcases List.mem_append.1 hp with k|k
   ·obtain⟨q,hq,q1,q2⟩:=h1.isin p k
    obtain⟨s,hs,s1,s2⟩:=h2.isin q (List.mem_append_left _ hq)
    have f1:=hf p k
    have f2:=h2.fit r hr
    have:=h2.sep.one hs hr (y:=r.hi) (by omega) (by omega) (by omega) (by omega)
    subst this
    refine⟨q,List.mem_append_left _ hq,by omega,?_⟩
    exact(h1.top q hq).2 ⟨p,k,by omega,p2⟩
   ·exact⟨p,List.mem_append_right _ k,p1,p2⟩
theorem IsM.cons {l R:List Sn} {x:Sn} (h:IsM l R) (hf:Proper l) (hx:x.lo≤x.hi) (hb:∀ p∈l,x.hi<p.lo):IsM (x::l) (x::R) where
 sep:=by
  refine List.pairwise_cons.2 ⟨fun r hr=>?_,h.sep⟩
  obtain⟨p,hp,k⟩:=h.low r hr
  have:=hb p hp
  omega
 fit:=by
  intro p hp
  rcases List.mem_cons.1 hp with rfl|k
  ·exact hx
  ·exact h.fit p k
 isin p hp:=by
  rcases List.mem_cons.1 hp with rfl|k
  ·exact⟨p,List.mem_cons_self,Int.le_refl _,Int.le_refl _⟩
  ·obtain⟨r,hr,k⟩:=h.isin p k
   exact⟨r,List.mem_cons_of_mem _ hr,k⟩
 cov r hr c c1 c2:=by
  rcases List.mem_cons.1 hr with rfl|k
  ·exact⟨r,List.mem_cons_self,c1,c2⟩
  ·obtain⟨p,hp,k⟩:=h.cov r k c c1 c2
   exact⟨p,List.mem_cons_of_mem _ hp,k⟩
 low r hr:=by
  rcases List.mem_cons.1 hr with rfl|k
  ·exact⟨r,List.mem_cons_self,rfl⟩
  ·obtain⟨p,hp,k⟩:=h.low r k
   exact⟨p,List.mem_cons_of_mem _ hp,k⟩
 top r hr:=by
  rcases List.mem_cons.1 hr with rfl|k
  ·constructor
   ·intro g;exact⟨r,List.mem_cons_self,rfl,g⟩
   ·rintro⟨p,hp,p1,p2⟩
    rcases List.mem_cons.1 hp with rfl|k
    ·exact p2
    ·have:=hb p k
     have:=hf p k
     omega
  ·rw[h.top r k]
   constructor
   ·rintro⟨p,hp,g⟩;exact⟨p,List.mem_cons_of_mem _ hp,g⟩
   ·rintro⟨p,hp,p1,p2⟩
    rcases List.mem_cons.1 hp with rfl|k2
    ·obtain⟨q,hq,q1⟩:=h.low r k
     have:=hb q hq
     have:=h.fit r k
     omega
    ·exact⟨p,k2,p1,p2⟩
def meets (a b:Sn):Bool:=decide (a.lo≤b.hi)&&decide (b.lo≤a.hi)
def un (p q:Sn):Sn:=⟨min p.lo q.lo,max p.hi q.hi,(p.wk&&decide (q.hi≤p.hi))||(q.wk&&decide (p.hi≤q.hi))⟩
theorem un_lo (p q:Sn):(un p q).lo=min p.lo q.lo:=rfl
theorem un_hi (p q:Sn):(un p q).hi=max p.hi q.hi:=rfl
theorem un_wk (p q:Sn):(un p q).wk=true↔(p.wk=true∧q.hi≤p.hi)∨(q.wk=true∧p.hi≤q.hi):=by
 unfold un;simp
theorem IsM.two {p q:Sn} (hp:p.lo≤p.hi) (hq:q.lo≤q.hi) (h1:p.lo≤q.hi) (h2:q.lo≤p.hi):IsM [p,q] [un p q] where
 sep:=List.pairwise_singleton _ _
 fit:=by
  intro r hr
  rw[List.mem_singleton]at hr
  subst hr
  rw[un_lo,un_hi];omega
 isin r hr:=by
  refine⟨un p q,List.mem_singleton.2 rfl,?_⟩
  rw[un_lo,un_hi]
  simp only[List.mem_cons,List.not_mem_nil,or_false]at hr
  rcases hr with rfl|rfl
  ·omega
  ·omega
 cov r hr c c1 c2:=by
  rw[List.mem_singleton]at hr
  subst hr
  rw[un_lo]at c1
  rw[un_hi]at c2
  by_cases k:p.lo≤c∧c<p.hi
  ·exact⟨p,by simp,k⟩
  ·exact⟨q,by simp,by omega,by omega⟩
 low r hr:=by
  rw[List.mem_singleton]at hr
  subst hr
  rw[un_lo]
  by_cases k:p.lo≤q.lo
  ·exact⟨p,by simp,by omega⟩
  ·exact⟨q,by simp,by omega⟩
 top r hr:=by
  rw[List.mem_singleton]at hr
  subst hr
  rw[un_wk,un_hi]
  constructor
  ·rintro(⟨k1,k2⟩|⟨k1,k2⟩)
   ·exact⟨p,by simp,by omega,k1⟩
   ·exact⟨q,by simp,by omega,k1⟩
  ·rintro⟨r,hr,k1,k2⟩
   simp only[List.mem_cons,List.not_mem_nil,or_false]at hr
   rcases hr with rfl|rfl
   ·exact .inl ⟨k2,by omega⟩
   ·exact .inr ⟨k2,by omega⟩
theorem IsM.new {l K:List Sn} {p:Sn} (h:IsM l K) (hp:p.lo≤p.hi) (hk:∀ q∈K,q.hi<p.lo):IsM (l++[p]) (K++[p]) where
 sep:=by
  refine List.pairwise_append.2 ⟨h.sep,List.pairwise_singleton _ _,fun q hq r hr=>?_⟩
  rw[List.mem_singleton]at hr
  subst hr
  exact hk q hq
 fit:=by
  intro q hq
  rcases List.mem_append.1 hq with k|k
  ·exact h.fit q k
  ·rw[List.mem_singleton]at k;subst k;exact hp
 isin q hq:=by
  rcases List.mem_append.1 hq with k|k
  ·obtain⟨r,hr,g⟩:=h.isin q k
   exact⟨r,List.mem_append_left _ hr,g⟩
  ·rw[List.mem_singleton]at k;subst k
   exact⟨q,List.mem_append_right _ (List.mem_singleton.2 rfl),Int.le_refl _,Int.le_refl _⟩
 cov r hr c c1 c2:=by
  rcases List.mem_append.1 hr with k|k
  ·obtain⟨q,hq,g⟩:=h.cov r k c c1 c2
   exact⟨q,List.mem_append_left _ hq,g⟩
  ·rw[List.mem_singleton]at k;subst k
   exact⟨r,List.mem_append_right _ (List.mem_singleton.2 rfl),c1,c2⟩
 low r hr:=by
  rcases List.mem_append.1 hr with k|k
  ·obtain⟨q,hq,g⟩:=h.low r k
   exact⟨q,List.mem_append_left _ hq,g⟩
  ·rw[List.mem_singleton]at k;subst k
   exact⟨r,List.mem_append_right _ (List.mem_singleton.2 rfl),rfl⟩
 top r hr:=by
  rcases List.mem_append.1 hr with k|k
  ·rw[h.top r k]
   constructor
   ·rintro⟨q,hq,g⟩;exact⟨q,List.mem_append_left _ hq,g⟩
   ·rintro⟨q,hq,g1,g2⟩
    rcases List.mem_append.1 hq with j|j
    ·exact⟨q,j,g1,g2⟩
    ·rw[List.mem_singleton]at j;subst j
     have:=hk r k
     omega
  ·rw[List.mem_singleton]at k;subst k
   constructor
   ·intro g;exact⟨r,List.mem_append_right _ (List.mem_singleton.2 rfl),rfl,g⟩
   ·rintro⟨q,hq,g1,g2⟩
    rcases List.mem_append.1 hq with j|j
    ·obtain⟨s,hs,s1,s2⟩:=h.isin q j
     have:=hk s hs
     omega
    ·rw[List.mem_singleton]at j;subst j;exact g2
theorem IsM.fold {l K:List Sn} {p q:Sn} (hf:Proper l) (h:IsM l (K++[q])) (hp:p.lo≤p.hi) (hr:q.lo≤p.lo) (hm:p.lo≤q.hi):IsM (l++[p]) (K++[un q p]):=by
 have hq:=h.fit q (List.mem_append_right _ (List.mem_singleton.2 rfl))
 have hs:=List.pairwise_append.1 h.sep
 refine IsM.parts hf h ?_
 have hsep:Sep (K++[un q p]):=by
  refine List.pairwise_append.2 ⟨hs.1,List.pairwise_singleton _ _,fun a ha b hb=>?_⟩
  rw[List.mem_singleton]at hb
  subst hb
  have:=hs.2.2 a ha q (List.mem_singleton.2 rfl)
  rw[un_lo];omega
 have hfit:Proper (K++[un q p]):=by
  intro a ha
  rcases List.mem_append.1 ha with k|k
  ·exact h.fit a (List.mem_append_left _ k)
  ·rw[List.mem_singleton]at k;subst k
   rw[un_lo,un_hi];omega
 have t:=IsM.parts (a:=[q,p]) (P:=[un q p]) (b:=K) (R:=K++[un q p]) (by
  intro a ha
  simp only[List.mem_cons,List.not_mem_nil,or_false]at ha
  rcases ha with rfl|rfl
  ·exact hq
  ·exact hp) (IsM.two hq hp (by omega) (by omega)) ((IsM.self hsep hfit).congr fun a=>by simp[or_comm])
 exact t.congr fun a=>by
  simp only[List.mem_append,List.mem_cons,List.not_mem_nil,or_false]
  constructor
  ·rintro((h|h)|h) <;> simp[h]
  ·rintro((h|h)|h) <;> simp[h]
def putS:Sn→List Sn→Bool→List Sn
 | s,[],dn=>if dn then []else [s]
 | s,x::l,dn=>if meets x s then putS (un x s) l dn else if !dn&&decide (s.hi<x.lo)then s::x::putS s l true else x::putS s l dn
theorem putGo_above:∀ (s:Sn) (l:List Sn),(∀ x∈l,s.hi<x.lo)→putS s l true=l
 | s,[],_=>rfl
 | s,x::l,h=>by
  have h1:=h x List.mem_cons_self
  have e:meets x s=false:=by unfold meets;simp;omega
  unfold putS
  rw[e,putGo_above s l fun y hy=>h y (List.mem_cons_of_mem _ hy)]
  simp
theorem putS_len:∀ (s:Sn) (l:List Sn) (dn:Bool),(putS s l dn).length≤l.length+1
 | s,[],dn=>by unfold putS;split <;> simp
 | s,x::l,dn=>by
  unfold putS
  split
  ·have:=putS_len (un x s) l dn;simp;omega
  ·split
   ·have:=putGo_len' s l
    simp;omega
   ·have:=putS_len s l dn;simp;omega
where
 putGo_len':∀ (s:Sn) (l:List Sn),(putS s l true).length≤l.length
  | s,[]=>by simp[putS]
  | s,x::l=>by
   unfold putS
   split
   ·have:=putGo_len' (un x s) l;simp;omega
   ·have:=putGo_len' s l;simp;omega
theorem putGo_is:∀ (R:List Sn) (s:Sn),Sep R→Proper R→s.lo≤s.hi→IsM (R++[s]) (putS s R false)
 | [],s,_,_,hs=>by
  unfold putS
  exact IsM.self (List.pairwise_singleton _ _) (by intro p hp;rw[List.nil_append,List.mem_singleton]at hp;subst hp;exact hs)
 | x::R,s,hR,hF,hs=>by
  have hc:=List.pairwise_cons.1 hR
  have hx:=hF x List.mem_cons_self
  have hF':Proper R:=fun p hp=>hF p (List.mem_cons_of_mem _ hp)
  by_cases hm:meets x s=true
  ·have e:putS s (x::R) false=putS (un x s) R false:=by rw[putS,if_pos hm]
   rw[e]
   have hm':=hm
   unfold meets at hm'
   simp only[Bool.and_eq_true,decide_eq_true_eq]at hm'
   have i:=putGo_is R (un x s) hc.2 hF' (by rw[un_lo,un_hi];omega)
   have t:=IsM.parts (a:=[x,s]) (P:=[un x s]) (b:=R) (by
    intro a ha
    simp only[List.mem_cons,List.not_mem_nil,or_false]at ha
    rcases ha with rfl|rfl
    ·exact hx
    ·exact hs) (IsM.two hx hs hm'.1 hm'.2) (i.congr fun a=>by simp[or_comm])
   exact t.congr fun a=>by
    simp only[List.mem_append,List.mem_cons,List.not_mem_nil,or_false]
    constructor
    ·rintro((h|h)|h) <;> simp[h]
    ·rintro((h|h)|h) <;> simp[h]
  ·have hm2:meets x s=false:=by cases g:meets x s;rfl;exact absurd g hm
   have hm':=hm2
   unfold meets at hm'
   simp only[Bool.and_eq_false_iff,decide_eq_false_iff_not]at hm'
   by_cases hlt:s.hi<x.lo
   ·have e:putS s (x::R) false=s::x::putS s R true:=by rw[putS,hm2];simp[hlt]
    have hab:∀ y∈R,s.hi<y.lo:=fun y hy=>by have:=hc.1 y hy;omega
    rw[e,putGo_above s R hab]
    refine(IsM.self (R:=s::x::R) ?_ ?_).congr fun a=>by
     simp only[List.mem_append,List.mem_cons,List.not_mem_nil,or_false]
     constructor
     ·rintro((h|h)|h) <;> simp[h]
     ·rintro(h|h|h) <;> simp[h]
    ·refine List.pairwise_cons.2 ⟨fun y hy=>?_,hR⟩
     rcases List.mem_cons.1 hy with rfl|k
     ·exact hlt
     ·exact hab y k
    ·intro p hp
     rcases List.mem_cons.1 hp with rfl|k
     ·exact hs
     ·exact hF p k
   ·have e:putS s (x::R) false=x::putS s R false:=by rw[putS,hm2];simp[hlt]
    rw[e]
    refine IsM.cons (l:=R++[s]) (putGo_is R s hc.2 hF' hs) ?_ hx ?_
    ·intro p hp
     rcases List.mem_append.1 hp with k|k
     ·exact hF' p k
     ·rw[List.mem_singleton]at k;subst k;exact hs
    ·intro p hp
     rcases List.mem_append.1 hp with k|k
     ·exact hc.1 p k
     ·rw[List.mem_singleton]at k;subst k;omega
theorem IsM.put {l R:List Sn} {s:Sn} (hf:Proper l) (h:IsM l R) (hs:s.lo≤s.hi):IsM (l++[s]) (putS s R false) :=
 IsM.parts hf h (putGo_is R s h.sep h.fit hs)
end Go.Proofs.YtmhghnbgllaihaaGreatDoor

namespace Go.Proofs.YtmhghnbgllaihaaGreatDoor
open Go.ChangeShapes Go.WideShapes Go.RowKit Go.Deep
structure TriR where
 (i x0 y0 z0 x1 y1 z1 x2 y2 z2:Int)
structure BoxR where
 (i x0 z0 x1 z1 y0 y1 ar:Int)
structure HopR where
 (i fx fz fy tx tz ty:Int)
 bo:Bool
 (ar co:Int)
instance:Inhabited TriR:=⟨⟨0,0,0,0,0,0,0,0,0,0⟩⟩
instance:Inhabited BoxR:=⟨⟨0,0,0,0,0,0,0,0⟩⟩
instance:Inhabited HopR:=⟨⟨0,0,0,0,0,0,0,false,0,0⟩⟩
def TriR.zero:TriR:=⟨0,0,0,0,0,0,0,0,0,0⟩
def BoxR.zero:BoxR:=⟨0,0,0,0,0,0,0,0⟩
def HopR.zero:HopR:=⟨0,0,0,0,0,0,0,false,0,0⟩
def TriR.enc (x:TriR):List Value:=#[.int .i64 x.i,.int .i64 x.x0,.int .i64 x.y0,.int .i64 x.z0,.int .i64 x.x1,.int .i64 x.y1,.int .i64 x.z1,.int .i64 x.x2,.int .i64 x.y2,.int .i64 x.z2].toList
theorem TriR.enc_len (x:TriR):x.enc.length=10:=rfl
theorem TriR.enc_one (x:TriR):∀ u∈x.enc,u.oneCell'=true:=by
 intro u hu
 simp[TriR.enc]at hu
 rcases hu with rfl|rfl|rfl|rfl|rfl|rfl|rfl|rfl|rfl|rfl <;> rfl
theorem TriR.cells {w:World} {b off:Nat} {l:List TriR} (H:RowAt TriR.enc 10 w b off l) (j:Nat) (h:j<l.length) :
  w.cell? ⟨b,off+j*10,none⟩=some (.int .i64 l[j].i)∧w.cell? ⟨b,off+j*10+1,none⟩=some (.int .i64 l[j].x0)∧w.cell? ⟨b,off+j*10+2,none⟩=some (.int .i64 l[j].y0)∧w.cell? ⟨b,off+j*10+3,none⟩=some (.int .i64 l[j].z0)∧w.cell? ⟨b,off+j*10+4,none⟩=some (.int .i64 l[j].x1)∧w.cell? ⟨b,off+j*10+5,none⟩=some (.int .i64 l[j].y1)∧w.cell? ⟨b,off+j*10+6,none⟩=some (.int .i64 l[j].z1)∧w.cell? ⟨b,off+j*10+7,none⟩=some (.int .i64 l[j].x2)∧w.cell? ⟨b,off+j*10+8,none⟩=some (.int .i64 l[j].y2)∧w.cell? ⟨b,off+j*10+9,none⟩=some (.int .i64 l[j].z2) :=
 ⟨H j h 0 (by rw[TriR.enc_len];omega),H j h 1 (by rw[TriR.enc_len];omega),H j h 2 (by rw[TriR.enc_len];omega),H j h 3 (by rw[TriR.enc_len];omega),H j h 4 (by rw[TriR.enc_len];omega),H j h 5 (by rw[TriR.enc_len];omega),H j h 6 (by rw[TriR.enc_len];omega),H j h 7 (by rw[TriR.enc_len];omega),H j h 8 (by rw[TriR.enc_len];omega),H j h 9 (by rw[TriR.enc_len];omega)⟩
def BoxR.enc (x:BoxR):List Value:=#[.int .i64 x.i,.int .i64 x.x0,.int .i64 x.z0,.int .i64 x.x1,.int .i64 x.z1,.int .i64 x.y0,.int .i64 x.y1,.int .i64 x.ar].toList
theorem BoxR.enc_len (x:BoxR):x.enc.length=8:=rfl
theorem BoxR.enc_one (x:BoxR):∀ u∈x.enc,u.oneCell'=true:=by
 intro u hu
 simp[BoxR.enc]at hu
 rcases hu with rfl|rfl|rfl|rfl|rfl|rfl|rfl|rfl <;> rfl
theorem BoxR.cells {w:World} {b off:Nat} {l:List BoxR} (H:RowAt BoxR.enc 8 w b off l) (j:Nat) (h:j<l.length) :
  w.cell? ⟨b,off+j*8,none⟩=some (.int .i64 l[j].i)∧w.cell? ⟨b,off+j*8+1,none⟩=some (.int .i64 l[j].x0)∧w.cell? ⟨b,off+j*8+2,none⟩=some (.int .i64 l[j].z0)∧w.cell? ⟨b,off+j*8+3,none⟩=some (.int .i64 l[j].x1)∧w.cell? ⟨b,off+j*8+4,none⟩=some (.int .i64 l[j].z1)∧w.cell? ⟨b,off+j*8+5,none⟩=some (.int .i64 l[j].y0)∧w.cell? ⟨b,off+j*8+6,none⟩=some (.int .i64 l[j].y1)∧w.cell? ⟨b,off+j*8+7,none⟩=some (.int .i64 l[j].ar) :=
 ⟨H j h 0 (by rw[BoxR.enc_len];omega),H j h 1 (by rw[BoxR.enc_len];omega),H j h 2 (by rw[BoxR.enc_len];omega),H j h 3 (by rw[BoxR.enc_len];omega),H j h 4 (by rw[BoxR.enc_len];omega),H j h 5 (by rw[BoxR.enc_len];omega),H j h 6 (by rw[BoxR.enc_len];omega),H j h 7 (by rw[BoxR.enc_len];omega)⟩
def HopR.enc (x:HopR):List Value:=#[.int .i64 x.i,.int .i64 x.fx,.int .i64 x.fz,.int .i64 x.fy,.int .i64 x.tx,.int .i64 x.tz,.int .i64 x.ty,.bool x.bo,.int .i64 x.ar,.int .i64 x.co].toList
theorem HopR.enc_len (x:HopR):x.enc.length=10:=rfl
theorem HopR.enc_one (x:HopR):∀ u∈x.enc,u.oneCell'=true:=by
 intro u hu
 simp[HopR.enc]at hu
 rcases hu with rfl|rfl|rfl|rfl|rfl|rfl|rfl|rfl|rfl|rfl <;> rfl
theorem HopR.cells {w:World} {b off:Nat} {l:List HopR} (H:RowAt HopR.enc 10 w b off l) (j:Nat) (h:j<l.length) :
  w.cell? ⟨b,off+j*10,none⟩=some (.int .i64 l[j].i)∧w.cell? ⟨b,off+j*10+1,none⟩=some (.int .i64 l[j].fx)∧w.cell? ⟨b,off+j*10+2,none⟩=some (.int .i64 l[j].fz)∧w.cell? ⟨b,off+j*10+3,none⟩=some (.int .i64 l[j].fy)∧w.cell? ⟨b,off+j*10+4,none⟩=some (.int .i64 l[j].tx)∧w.cell? ⟨b,off+j*10+5,none⟩=some (.int .i64 l[j].tz)∧w.cell? ⟨b,off+j*10+6,none⟩=some (.int .i64 l[j].ty)∧w.cell? ⟨b,off+j*10+7,none⟩=some (.bool l[j].bo)∧w.cell? ⟨b,off+j*10+8,none⟩=some (.int .i64 l[j].ar)∧w.cell? ⟨b,off+j*10+9,none⟩=some (.int .i64 l[j].co) :=
 ⟨H j h 0 (by rw[HopR.enc_len];omega),H j h 1 (by rw[HopR.enc_len];omega),H j h 2 (by rw[HopR.enc_len];omega),H j h 3 (by rw[HopR.enc_len];omega),H j h 4 (by rw[HopR.enc_len];omega),H j h 5 (by rw[HopR.enc_len];omega),H j h 6 (by rw[HopR.enc_len];omega),H j h 7 (by rw[HopR.enc_len];omega),H j h 8 (by rw[HopR.enc_len];omega),H j h 9 (by rw[HopR.enc_len];omega)⟩
structure SoupV where
 (ts:List TriR) (bs:List BoxR) (hs:List HopR)
 (a0 a1 a2:Option Addr) (c0 c1 c2:Nat)
structure SoupV.ok (S:SoupV) (w:World):Prop where
 t:Sl TriR.enc 10 w (.slice S.a0 S.ts.length S.c0) S.ts
 b:Sl BoxR.enc 8 w (.slice S.a1 S.bs.length S.c1) S.bs
 h:Sl HopR.enc 10 w (.slice S.a2 S.hs.length S.c2) S.hs
theorem SoupV.ok.keep {S:SoupV} {w w':World} (h:S.ok w) (n:New w w'):S.ok w':=⟨h.t.keep n,h.b.keep n,h.h.keep n⟩
theorem Sl.row {α:Type} {enc:α→List Value} {k:Nat} {w:World} {at0:Option Addr} {n c:Nat} {l:List α} (h:Sl enc k w (.slice at0 n c) l):n=l.length∧l.length≤c∧c≤maxLen∧(at0=none→c=0)∧RowIn enc k w at0 l:=by
 obtain⟨a,c',e,h1,h2,h3,h4⟩:=h
 injection e with e1 e2 e3
 subst e1 e2 e3
 exact⟨rfl,h1,h2,h3,h4⟩
end Go.Proofs.YtmhghnbgllaihaaGreatDoor

namespace Go.Proofs.YtmhghnbgllaihaaGreatDoor
open Go.RowKit
structure Fl where
 (y top area:Int)
instance:Inhabited Fl:=⟨⟨0,0,0⟩⟩
def Fl.zero:Fl:=⟨0,0,0⟩
def Fl.enc (x:Fl):List Value:=#[.int .i64 x.y,.int .i64 x.top,.int .i64 x.area].toList
theorem Fl.enc_len (x:Fl):x.enc.length=3:=rfl
theorem Fl.enc_one (x:Fl):∀ u∈x.enc,u.oneCell'=true:=by
 intro u hu
 simp[Fl.enc]at hu
 rcases hu with rfl|rfl|rfl <;> rfl
def Fl.eqB (a b:Fl):Bool:=a.y==b.y&&a.top==b.top&&a.area==b.area
theorem Fl.eqB_iff (a b:Fl):a.eqB b=true↔a=b:=by
 obtain⟨a0,a1,a2⟩:=a
 obtain⟨b0,b1,b2⟩:=b
 simp[Fl.eqB,and_assoc]
instance:DecidableEq Fl:=fun a b=>decidable_of_iff _ (Fl.eqB_iff a b)
theorem Fl.cells {w:World} {b off:Nat} {l:List Fl} (H:RowAt Fl.enc 3 w b off l) (j:Nat) (h:j<l.length) :
  w.cell? ⟨b,off+j*3,none⟩=some (.int .i64 l[j].y)∧w.cell? ⟨b,off+j*3+1,none⟩=some (.int .i64 l[j].top)∧w.cell? ⟨b,off+j*3+2,none⟩=some (.int .i64 l[j].area) :=
 ⟨H j h 0 (by rw[Fl.enc_len];omega),H j h 1 (by rw[Fl.enc_len];omega),H j h 2 (by rw[Fl.enc_len];omega)⟩
def Fl.allEq:List Fl→List Fl→Bool
 | [],[]=>true
 | a::l,b::m=>a.eqB b&&Fl.allEq l m
 | _,_=>false
theorem Fl.allEq_iff:∀ l m:List Fl,Fl.allEq l m=true↔l=m
 | [],[]=>by simp[Fl.allEq]
 | [],_::_=>by simp[Fl.allEq]
 | _::_,[]=>by simp[Fl.allEq]
 | a::l,b::m=>by simp[Fl.allEq,Fl.eqB_iff,Fl.allEq_iff l m]
theorem fl_neq (w:World) (a b:Fl):(binOp .neq 56 (.agg #[.int .i64 a.y,.int .i64 a.top,.int .i64 a.area]) (.agg #[.int .i64 b.y,.int .i64 b.top,.int .i64 b.area])).run Tryz.prog w=.ok (.bool (!a.eqB b)) w:=by
 obtain⟨a0,a1,a2⟩:=a
 obtain⟨b0,b1,b2⟩:=b
 unfold Fl.eqB
 cases h0:(a0==b0)
 ·go_simp
 ·skip
  cases h1:(a1==b1)
  ·go_simp
  ·skip
   cases h2:(a2==b2)
   ·go_simp
   ·go_simp
end Go.Proofs.YtmhghnbgllaihaaGreatDoor
