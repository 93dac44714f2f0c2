import Derived.Test.YtmhghnbgllaihaaGreatDoorRows
import Derived.ProofKit
import Derived.OpenShut
import Derived.WalkKit
import Derived.WalkSpells
import Derived.WalkLawsBesides
import Derived.IntWalk
import Derived.Deep.QuietTactic
import Derived.BigQuiet
import Derived.Handy
import Derived.Lib.Hide
import Derived.Lib.MinMax
import Derived.Deep.Slices
import Derived.StillTail
import Derived.Deep.LoopGhost
import Derived.RowKit

namespace Go.Proofs.YtmhghnbgllaihaaGreatDoor
open Go.ChangeShapes Go.WideShapes Go.RowKit
inductive Kd where
  | num (k:IntKind)
  | yes
  | text
def Fit:Kd→Value→Prop
  | .num k,v=>∃ n:Int,v=.int k n∧(Lit.int k n).wf=true
  | .yes,v=>∃ b:Bool,v=.bool b
  | .text,v=>∃ s:ByteArray,v=.string s∧s.size≤maxLen
def Fits:List Kd→List Value→Prop
  | [],[]=>True
  | k::ks,v::vs=>Fit k v∧Fits ks vs
  | _,_=>False
theorem Fits.length:∀ {ks:List Kd} {vs:List Value},Fits ks vs→vs.length=ks.length
  | [],[],_=>rfl
  | _::_,_::_,h=>by simp[Fits.length h.2]
  | [],_::_,h=>h.elim
  | _::_,[],h=>h.elim
theorem Fits.append:∀ {ks ls:List Kd} {vs us:List Value},Fits ks vs→Fits ls us→Fits (ks++ls) (vs++us)
  | [],_,[],_,_,k=>k
  | _::_,_,_::_,_,h,k=>⟨h.1,Fits.append h.2 k⟩
  | [],_,_::_,_,h,_=>h.elim
  | _::_,_,[],_,h,_=>h.elim
mutual
def flat (P:Program):Nat→TypeId→Option (List Kd)
  | 0,_=>none
  | n+1,t=>match P.underlying t with
    | some (.int k)=>some [.num k]
    | some .bool=>some [.yes]
    | some .string=>some [.text]
    | some (.array m e)=>match flat P n e with
      | some ks=>if ks.length=P.cellsOf e∧m*ks.length=P.cellsOf t then some (List.replicate m ks).flatten else none
      | none=>none
    | some (.struct fs)=>match flatFields P n 0 fs.toList with
      | some ks=>if ks.length=P.cellsOf t then some ks else none
      | none=>none
    | _=>none
def flatFields (P:Program):Nat→Nat→List Field→Option (List Kd)
  | _,_,[]=>some []
  | 0,_,_::_=>none
  | n+1,o,f::fs=>if f.offset=o then match flat P n f.type with
      | some ks=>match flatFields P n (o+ks.length) fs with
        | some ls=>some (ks++ls)
        | none=>none
      | none=>none
    else none
end
theorem take_of_length {α:Type} {l:List α} {c m:Nat} (h:(l.take c).length=m):l.take m=l.take c:=by
  rw[List.length_take]at h
  subst h
  rw[List.take_eq_take_iff];omega
section
variable {H:Type} {enc:TypeId×Value→H} {P:Program} {w:World} {base:Nat} {spare:Nat→Bool} {held:Bool}
theorem fits_rep {ks:List Kd} {c:Nat} (hc:ks.length=c):∀ (m:Nat) (cs:List Value),(∀ i,i<m→Fits ks ((cs.drop (i*c)).take c))→Fits (List.replicate m ks).flatten (cs.take (m*c))
  | 0,cs,_=>by simp[Fits]
  | m+1,cs,h=>by
    rw[List.replicate_succ,List.flatten_cons,show(m+1)*c=c+m*c by rw[Nat.add_mul];omega,List.take_add]
    refine Fits.append (by simpa using h 0 (by omega)) (fits_rep hc m (cs.drop c) fun i hi=>?_)
    have:=h (i+1) (by omega)
    rw[List.drop_drop]
    rwa [show(i+1)*c=c+i*c by rw[Nat.add_mul];omega]at this
mutual
theorem fits_flat:∀ (n:Nat) {m:Nat} {t:TypeId} {cs:List Value} {x:DataW H×List MemPlace} {ks:List Kd},flat P n t=some ks→DataW.trod enc P w base spare held m t cs=some x→Fits ks cs
  | 0,_,_,_,_,_,hf,_=>by simp[flat]at hf
  | n+1,m,t,cs,x,ks,hf,h=>by
    unfold flat at hf
    split at hf
    · rename_i k hu
      obtain⟨v,rfl,_,hw⟩:=DataW.trod_int hu h
      obtain rfl:=Option.some.inj hf
      exact⟨⟨v,rfl,hw⟩,trivial⟩
    · rename_i hu
      obtain⟨v,rfl,_⟩:=DataW.trod_bool hu h
      obtain rfl:=Option.some.inj hf
      exact⟨⟨v,rfl⟩,trivial⟩
    · rename_i hu
      obtain⟨v,rfl,_,hw⟩:=DataW.trod_string hu h
      obtain rfl:=Option.some.inj hf
      exact⟨⟨v,rfl,hw⟩,trivial⟩
    · rename_i k e hu
      split at hf
      · rename_i ls hl
        split at hf
        · rename_i hc
          obtain rfl:=Option.some.inj hf
          obtain⟨xs,m',_,_,hlen,hxs,hi⟩:=DataW.trod_array hu h
          have:=fits_rep hc.1 k cs fun i hik=>by
            have h2:=hi i hik
            rw[List.getElem?_eq_getElem (by omega)]at h2
            exact fits_flat n hl h2
          rw[←hc.1,List.take_of_length_le (by omega)]at this
          exact this
        · cases hf
      · cases hf
    · rename_i fs hu
      split at hf
      · rename_i ls hl
        split at hf
        · rename_i hc
          obtain rfl:=Option.some.inj hf
          obtain⟨xs,m',_,_,hlen,hxs,hi⟩:=DataW.trod_struct hu h
          have:=fits_fields n 0 fs.toList (cs:=cs) (m:=m') hl fun f hfm=>by
            obtain⟨i,hi1,hi2⟩:=List.getElem_of_mem hfm
            have h2:=hi i f (by rw[Array.getElem?_eq_getElem (by simpa using hi1)];simpa using hi2)
            rw[List.getElem?_eq_getElem (by rw[hxs];simpa using hi1)]at h2
            exact⟨_,h2⟩
          rw[List.drop_zero,List.take_of_length_le (by omega)]at this
          exact this
        · cases hf
      · cases hf
    · cases hf
theorem fits_fields:∀ (n o:Nat) (fs:List Field) {m:Nat} {cs:List Value} {ks:List Kd},flatFields P n o fs=some ks →
    (∀ f∈fs,∃ x,DataW.trod enc P w base spare held m f.type ((cs.drop f.offset).take (P.cellsOf f.type))=some x)→Fits ks ((cs.drop o).take ks.length)
  | 0,_,[],_,_,_,hf,_=>by
    simp[flatFields]at hf
    subst hf
    exact trivial
  | n+1,_,[],_,_,_,hf,_=>by
    simp[flatFields]at hf
    subst hf
    exact trivial
  | 0,_,_::_,_,_,_,hf,_=>by simp[flatFields]at hf
  | n+1,o,f::fs,m,cs,ks,hf,h=>by
    unfold flatFields at hf
    split at hf
    · rename_i ho
      split at hf
      · rename_i ls hl
        split at hf
        · rename_i rs hr
          obtain rfl:=Option.some.inj hf
          obtain⟨x,hx⟩:=h f List.mem_cons_self
          have h1:=fits_flat n hl hx
          rw[ho]at h1
          have h2:=fits_fields n (o+ls.length) fs (cs:=cs) hr fun g hg=>h g (List.mem_cons_of_mem _ hg)
          rw[←List.drop_drop]at h2
          rw[List.length_append,List.take_add]
          refine Fits.append ?_ h2
          rw[take_of_length h1.length]
          exact h1
        · cases hf
      · cases hf
    · cases hf
end
theorem open_flat {r:Reach} {b0:Nat} {t:TypeId} {fs:Array Field} {v:Value} {d:DataW H} {p:List MemPlace} {ks:List Kd} (hs:P.underlying t=some (.struct fs)) (n:Nat) (hk:flat P n t=some ks)
    (hv:Value.okWide P w r b0 t v) (h:DataW.Trod enc P w base spare held t v d p):∃ cs:Array Value,v=.agg cs∧Fits ks cs.toList:=by
  obtain⟨cs,rfl,_⟩:=okWide_struct hs hv
  obtain⟨fuel,hf⟩:=h
  exact⟨cs,rfl,fits_flat n hk hf⟩
end
theorem Fits.cons {k:Kd} {ks:List Kd} {vs:List Value} (h:Fits (k::ks) vs):∃ v us,vs=v::us∧Fit k v∧Fits ks us:=by
  cases vs with
  | nil=>exact h.elim
  | cons v us=>exact⟨v,us,rfl,h.1,h.2⟩
theorem Fits.nil {vs:List Value} (h:Fits [] vs):vs=[]:=by
  cases vs with
  | nil=>rfl
  | cons v us=>exact h.elim
theorem fits7 {k:IntKind} {cs:Array Value} (h:Fits [.num k,.num k,.num k,.num k,.num k,.num k,.num k] cs.toList) :
    ∃ a b c d e f g:Int,cs=#[.int k a,.int k b,.int k c,.int k d,.int k e,.int k f,.int k g]:=by
  obtain⟨l⟩:=cs
  obtain⟨_,_,e1,⟨a,rfl,_⟩,h⟩:=h.cons
  obtain⟨_,_,e2,⟨b,rfl,_⟩,h⟩:=h.cons
  obtain⟨_,_,e3,⟨c,rfl,_⟩,h⟩:=h.cons
  obtain⟨_,_,e4,⟨d,rfl,_⟩,h⟩:=h.cons
  obtain⟨_,_,e5,⟨e,rfl,_⟩,h⟩:=h.cons
  obtain⟨_,_,e6,⟨f,rfl,_⟩,h⟩:=h.cons
  obtain⟨_,_,e7,⟨g,rfl,_⟩,h⟩:=h.cons
  have e8:=h.nil
  subst e8 e7 e6 e5 e4 e3 e2
  exact⟨a,b,c,d,e,f,g,by rw[show l=_ from e1]⟩
end Go.Proofs.YtmhghnbgllaihaaGreatDoor

namespace Go.Proofs.YtmhghnbgllaihaaGreatDoor
open Go.RowKit
set_option linter.unusedVariables false
structure Hat (W:World) where
  w:World
  h:Below W.heap.size W w
instance (W:World):Nonempty (Hat W):=⟨⟨W,Below.refl _ _⟩⟩
def New (w w':World):Prop:=Below w.heap.size w w'
theorem New.refl (w:World):New w w:=Below.refl _ _
theorem New.trans {a b c:World} (h:New a b) (k:New b c):New a c:=Below.trans h (Below.mono k h.size)
theorem New.alloc {a w:World} (h:New a w) (o:Obj):New a (w.alloc o):=Below.alloc h h.size o
theorem New.drew {a w:World} (h:New a w):New a w.drew:=Below.drew h
theorem New.drewN {a w:World} (h:New a w) (n:Nat):New a (w.drewN n):=⟨h.os,h.tape,h.output,h.size,h.block⟩
theorem New.setCell {a w:World} (h:New a w) {p:Addr} (hp:a.heap.size≤p.block) (u:Value):New a (w.setCell p u):=Below.setCell h hp u
theorem New.setB {a w:World} {p:Addr} (hp:a.heap.size≤p.block) (h:New a w) (u:Value):New a (w.setCell p u):=h.setCell hp u
theorem New.snart {a b c:World} (k:New b c) (h:New a b):New a c:=h.trans k
theorem New.hat {a W:World} (h:New a W) (x:Hat W):New a x.w:=h.trans x.h
theorem nw {a w:World} (h:New a w:=by(repeat(first|(with_reducible exact New.refl _)|(with_reducible assumption)|((with_reducible refine New.setB ?_ ?_ _);focus(first|omega|(simp;omega)|(simp;done)))|(with_reducible refine New.alloc ?_ _)|(with_reducible refine New.drew ?_)|(with_reducible refine New.drewN ?_ _)|(with_reducible refine New.hat ?_ _)|((with_reducible apply New.snart);(with_reducible assumption))))):New a w:=h
theorem New.size {a w:World} (h:New a w):a.heap.size≤w.heap.size:=Below.size h
theorem New.cell {a w:World} (h:New a w) (b o:Nat) (hb:b<a.heap.size):w.cell? ⟨b,o,none⟩=a.cell? ⟨b,o,none⟩:=Below.cell h (p:=⟨b,o,none⟩) hb
theorem New.frozen {a w:World} (h:New a w) (b o:Nat) (hb:b<a.heap.size):w.frozen? ⟨b,o,none⟩=a.frozen? ⟨b,o,none⟩:=Below.frozen h (p:=⟨b,o,none⟩) hb
theorem New.keep {a w:World} (h:New a w) {b o:Nat} {v:Value} (hc:a.cell? ⟨b,o,none⟩=some v):w.cell? ⟨b,o,none⟩=some v :=
  (h.cell b o (World.block_lt_of_cell? a ⟨b,o,none⟩ hc)).trans hc
theorem New.keepF {a w:World} (h:New a w) {b o:Nat} {v:Value} (hc:a.cell? ⟨b,o,none⟩=some v) {f:Bool} (hf:a.frozen? ⟨b,o,none⟩=f):w.frozen? ⟨b,o,none⟩=f :=
  (h.frozen b o (World.block_lt_of_cell? a ⟨b,o,none⟩ hc)).trans hf
theorem keeps {W w:World} (h:New W w):New W w∧∀ b o,(W.cell? ⟨b,o,none⟩).isSome=true→w.cell? ⟨b,o,none⟩=W.cell? ⟨b,o,none⟩ :=
  ⟨h,fun b o hb=>by obtain⟨v,hv⟩:=Option.isSome_iff_exists.1 hb;rw[hv];exact h.keep hv⟩
theorem keepsF {W w:World} (h:New W w):∀ b o,(W.cell? ⟨b,o,none⟩).isSome=true→w.frozen? ⟨b,o,none⟩=W.frozen? ⟨b,o,none⟩ :=
  fun b o hb=>by obtain⟨v,hv⟩:=Option.isSome_iff_exists.1 hb;exact h.keepF hv rfl
theorem hat_cell {W:World} (x:Hat W) (b o:Nat) (h:(W.cell? ⟨b,o,none⟩).isSome=true):x.w.cell? ⟨b,o,none⟩=W.cell? ⟨b,o,none⟩:=(keeps x.h).2 b o h
theorem hat_frozen {W:World} (x:Hat W) (b o:Nat) (h:(W.cell? ⟨b,o,none⟩).isSome=true):x.w.frozen? ⟨b,o,none⟩=W.frozen? ⟨b,o,none⟩:=keepsF x.h b o h
theorem Calls.at {P:Program} {f:FuncId} {args:Array Value} {w:World} {Q:Ending→World→Prop} (h:∀ W,W=w→Calls P f args W Q):Calls P f args w Q:=h w rfl
theorem Code.at {P:Program} {s:Code} {Q:Exit→Act→World→Prop} {a:Act} {w:World} (h:∀ W,W=w→s.wp P Q a W):s.wp P Q a w:=h w rfl
theorem Calls.hat {P:Program} {f:FuncId} {args:Array Value} {W:World} {x:Hat W} {v:Value}
    (h:Calls P f args x.w fun e w'=>e=.returned v∧New x.w w'):Calls P f args x.w fun e w''=>e=.returned v∧∃ y:Hat W,w''=y.w :=
  h.mono fun _ w'' ⟨he,hn⟩=>⟨he,⟨w'',Below.trans x.h (Below.mono hn x.h.size)⟩,rfl⟩
theorem Calls.hat_same {P:Program} {f:FuncId} {args:Array Value} {W:World} {x:Hat W} {v:Value}
    (h:Calls P f args x.w fun e w'=>e=.returned v∧x.w=w'):Calls P f args x.w fun e w''=>e=.returned v∧∃ y:Hat W,w''=y.w :=
  h.mono fun _ _ ⟨he,hn⟩=>⟨he,x,hn.symm⟩
theorem wp_region_hat {P:Program} {id:Nat} {Q:Exit→Act→World→Prop} {a:Act} {w:World} {l:List Oper} (hm:P.follows .mixedOrders=true) (hB:Region.lexB .any l.toArray=true)
    (h:(∀ (x:Hat w) (b o:Nat),(w.cell? ⟨b,o,none⟩).isSome=true→x.w.cell? ⟨b,o,none⟩=w.cell? ⟨b,o,none⟩)→(∀ (x:Hat w) (b o:Nat),(w.cell? ⟨b,o,none⟩).isSome=true→x.w.frozen? ⟨b,o,none⟩=w.frozen? ⟨b,o,none⟩)→wpQuiet P l.toArray (fun w'=>∃ x:Hat w,w'=x.w) (fun a'=>∀ w',(∃ x:Hat w,w'=x.w)→Q .normal a' w') l a):(Code.region id l.toArray true).wp P Q a w :=
  wp_region_quiet (C:=fun w'=>∃ x:Hat w,w'=x.w) hm hB ⟨⟨_,Below.drew (Below.refl _ w)⟩,rfl⟩ (by simpa using h hat_cell hat_frozen)
end Go.Proofs.YtmhghnbgllaihaaGreatDoor

namespace Go.Proofs.YtmhghnbgllaihaaGreatDoor
open Go.ChangeShapes Go.WideShapes Go.RowKit Go.Deep
set_option linter.unusedVariables false
theorem spot_none {w:World} {b o:Nat} {s:Option Nat} {v:Value} (h:w.cell? ⟨b,o,s⟩=some v):s=none:=by
  cases s with
  | none=>rfl
  | some x =>
    unfold World.cell? at h
    split at h <;> simp at h
theorem add_none (b o n:Nat):(⟨b,o,none⟩:Addr).add n=⟨b,o+n,none⟩:=by
  unfold Addr.add
  split
  · simp_all
  · rfl
end Go.Proofs.YtmhghnbgllaihaaGreatDoor

namespace Go.Proofs.YtmhghnbgllaihaaGreatDoor
open Go.ChangeShapes Go.WideShapes Go.RowKit Go.Deep
set_option linter.unusedVariables false
def CellsAt (w:World) (b o:Nat) (vs:List Value):Prop:=∀ i (h:i<vs.length),w.cell? ⟨b,o+i,none⟩=some vs[i]
theorem CellsAt.keep {w w':World} {b o:Nat} {vs:List Value} (h:CellsAt w b o vs) (hn:New w w'):CellsAt w' b o vs:=fun i hi=>hn.keep (h i hi)
section
variable {α:Type}
def RowAt (enc:α→List Value) (k:Nat) (w:World) (b off:Nat) (l:List α):Prop:=∀ j (h:j<l.length),CellsAt w b (off+j*k) (enc l[j])
theorem RowAt.keep {enc:α→List Value} {k:Nat} {w w':World} {b off:Nat} {l:List α} (h:RowAt enc k w b off l) (hn:New w w'):RowAt enc k w' b off l:=fun j hj=>(h j hj).keep hn
def RowIn (enc:α→List Value) (k:Nat) (w:World) (at0:Option Addr) (l:List α):Prop:=0<l.length→∃ b off,at0=some ⟨b,off,none⟩∧RowAt enc k w b off l
theorem RowIn.keep {enc:α→List Value} {k:Nat} {w w':World} {at0:Option Addr} {l:List α} (h:RowIn enc k w at0 l) (hn:New w w'):RowIn enc k w' at0 l :=
  fun h0=>by obtain⟨b,off,e,h1⟩:=h h0;exact⟨b,off,e,h1.keep hn⟩
theorem RowIn.nil {enc:α→List Value} {k:Nat} {w:World} {at0:Option Addr}:RowIn enc k w at0 ([]:List α):=fun h=>absurd h (by simp)
theorem RowAt.take {enc:α→List Value} {k:Nat} {w:World} {b off:Nat} {l:List α} (h:RowAt enc k w b off l) (n:Nat):RowAt enc k w b off (l.take n):=fun j hj=>by
  have hj':j<l.length:=by simp at hj;omega
  rw[List.getElem_take]
  exact h j hj'
def Sl (enc:α→List Value) (k:Nat) (w:World) (v:Value) (l:List α):Prop:=∃ at0 c,v=.slice at0 l.length c∧l.length≤c∧c≤maxLen∧(at0=none→c=0)∧RowIn enc k w at0 l
theorem Sl.keep {enc:α→List Value} {k:Nat} {w w':World} {v:Value} {l:List α} (h:Sl enc k w v l) (hn:New w w'):Sl enc k w' v l:=by
  obtain⟨a,c,e,h1,h2,h3,h4⟩:=h
  exact⟨a,c,e,h1,h2,h3,h4.keep hn⟩
theorem Sl.nil {enc:α→List Value} {k:Nat} {w:World}:Sl enc k w (.slice none 0 0) ([]:List α):=⟨none,0,rfl,Nat.le_refl _,Nat.zero_le _,fun _=>rfl,RowIn.nil⟩
theorem list_map_of {β:Type} (f:α→β) (P:β→Prop) (l:List β) (h:∀ x∈l,P x) (hp:∀ y,P y→∃ x,f x=y):∃ l':List α,l'.map f=l:=by
  induction l with
  | nil=>exact⟨[],rfl⟩
  | cons y l ih =>
    obtain⟨x,hx⟩:=hp y (h y List.mem_cons_self)
    obtain⟨l',hl'⟩:=ih fun z hz=>h z (List.mem_cons_of_mem _ hz)
    exact⟨x::l',by rw[List.map_cons,hx,hl']⟩
theorem open_row [Inhabited α] {H:Type} {enc:TypeId×Value→H} {P:Program} {w:World} {base:Nat} {spare:Nat→Bool} {held:Bool} {t e:TypeId} {cs:List Value} {x:DataW H×List MemPlace} {fuel:Nat} {ks:List Kd} (en:α→List Value) (k:Nat) (hkl:∀ a,(en a).length=k) (hk0:0<k)
    (ht:P.underlying t=some (.slice e)) (hce:P.cellsOf e=k) (hk:flat P 64 e=some ks) (hen:∀ vs,Fits ks vs→∃ a,en a=vs) (h:DataW.trod enc P w base spare held fuel t cs=some x):∃ (v:Value) (l:List α),cs=[v]∧Sl en k w v l:=by
  rcases open_slice ht h with ⟨hc,_⟩|⟨a',len',cap',m,n',D,Pl,hc,hb,hl,hm,hmm,_,hx⟩
  · exact⟨_,[],hc,Sl.nil⟩
  · have hlm:len'≤m:=by rw[hmm];split <;> omega
    have each:∀ i,i<len'→∃ q:α,∀ j (hj:j<(en q).length),w.cell? ((a'.add (i*k)).add j)=some (en q)[j]:=fun i hi=>by
      obtain⟨cs',g1,g2⟩:=hx i (by omega)
      rw[hce]at g1
      obtain⟨_,hlen,hcell⟩:=World.cells?_some g1
      have hfit:=fits_flat 64 hk g2
      obtain⟨q,hq⟩:=hen _ hfit
      refine⟨q,fun j hj=>?_⟩
      subst hq
      rw[hcell j (by rw[←hlen];exact hj),List.getElem?_eq_getElem hj]
    obtain⟨f,hf⟩:=choose_lt each
    obtain⟨ab,ao,as'⟩:=a'
    refine⟨_,(List.range len').map f,hc,some ⟨ab,ao,as'⟩,cap',by simp,by simpa using hl,hm,fun h=>(by cases h),fun h0=>?_⟩
    simp only[List.length_map,List.length_range]at h0
    have hs:as'=none:=by
      have h1:=hf 0 h0 0 (by rw[hkl];exact hk0)
      cases as' with
      | none=>rfl
      | some x =>
        rw[Nat.zero_mul,Addr.add_zero',Addr.add_zero']at h1
        exact absurd (spot_none h1) (by simp)
    subst hs
    refine⟨ab,ao,rfl,fun j hj i hi=>?_⟩
    simp only[List.length_map,List.length_range]at hj
    simp only[List.getElem_map,List.getElem_range]at hi ⊢
    have:=hf j hj i hi
    simp only[add_none]at this
    exact this
end
end Go.Proofs.YtmhghnbgllaihaaGreatDoor

namespace Go.Proofs.YtmhghnbgllaihaaGreatDoor
open Go.RowKit
set_option linter.unusedVariables false
section
variable {P:Program} {md:Region.Mode} {ops:Array Oper} {W:World} {n:Nat} {al:List Nat}
def Mild (P:Program) (W:World) (o:Oper) (a:Act) (v:Value):Prop:=∀ x:Hat W,o.quietAt P a (fun w'=>New x.w w') x.w v
def Step (P:Program) (ops:Array Oper) (W:World) (al:List Nat) (i:Nat) (o:Oper) (a:Act) (v:Value):Prop :=
  if i∈al then v=undef else if Region.wanted o (yielded ops a.tmps)=true then Mild P W o a v else v=undef
def mildWalk (P:Program) (ops:Array Oper) (W:World) (al:List Nat) (Q:Act→Prop):Nat→List Oper→Act→Prop
  | _,[],a=>Q a
  | k,o::rest,a=>∃ v,Step P ops W al k o a v∧mildWalk P ops W al Q (k+1) rest (a.put o.dst v)
theorem mildWalk_nil {Q:Act→Prop} {k:Nat} {a:Act} (h:Q a):mildWalk P ops W al Q k [] a:=h
theorem mildWalk_made {Q:Act→Prop} {k:Nat} {o:Oper} {rest:List Oper} {a:Act} (hk:k∈al) (h:mildWalk P ops W al Q (k+1) rest (a.put o.dst undef)):mildWalk P ops W al Q k (o::rest) a :=
  ⟨_,by unfold Step;rw[if_pos hk],h⟩
theorem mildWalk_step {Q:Act→Prop} {k:Nat} {o:Oper} {rest:List Oper} {a:Act} (hk:k∉al)
    (h:∀ K:Act→Prop,(∀ a,mildWalk P ops W al Q (k+1) rest a→K a)→if Region.wanted o (yielded ops a.tmps)=true then ∃ v,(∀ x:Hat W,o.quietAt P a (fun w'=>New x.w w') x.w v)∧K (a.put o.dst v)else K (a.put o.dst undef)):mildWalk P ops W al Q k (o::rest) a:=by
  have h:=h _ fun _ h=>h
  by_cases hw:Region.wanted o (yielded ops a.tmps)=true
  · rw[if_pos hw]at h
    obtain⟨v,hv,hr⟩:=h
    exact⟨v,by unfold Step;rw[if_neg hk,if_pos hw];exact hv,hr⟩
  · rw[if_neg hw]at h
    exact⟨undef,by unfold Step;rw[if_neg hk,if_neg hw],h⟩
theorem mildWalk_mono {Q Q':Act→Prop} (hq:∀ a,Q a→Q' a):∀ (l:List Oper) (k:Nat) (a:Act),mildWalk P ops W al Q k l a→mildWalk P ops W al Q' k l a
  | [],_,_,h=>hq _ h
  | _::l,k,_,⟨v,hv,h⟩=>⟨v,hv,mildWalk_mono hq l (k+1) _ h⟩
def anyWalk (P:Program) (md:Region.Mode) (ops:Array Oper) (W:World) (n:Nat) (al:List Nat) (L:Array Bool→Act→Prop):Nat→Array Bool→Act→Prop
  | 0,listed,a=>L listed a
  | f+1,listed,a=>Region.ready md ops listed≠[]∧∀ i∈Region.ready md ops listed,i<n∧∃ o v,ops[i]? = some o∧Step P ops W al i o a v∧anyWalk P md ops W n al L f (listed.setIfInBounds i true) (a.put o.dst v)
def Waits (md:Region.Mode) (ops:Array Oper) (n:Nat):Prop :=
  ∀ listed,HeadInv md ops n listed→∀ i,i<n→listed.getD i true=false→∀ t∈Region.ready md ops listed,t<n
theorem waits_of (hs:Region.sinkB md ops n=true) (hc:Region.chainB md ops n=true) (hn:n<ops.size):Waits md ops n:=fun listed inv i hi hun t ht =>
  Nat.lt_of_not_le fun hle=>tail_waits hs hc hn inv _ i rfl hi hun t hle ht
theorem waits_all:Waits md ops ops.size:=fun _ _ _ _ _ _ ht=>by
  obtain⟨_,o,ho,_⟩:=mem_ready.1 ht
  exact(Array.getElem?_eq_some_iff.1 ho).1
theorem step_put {i:Nat} {o:Oper} {a:Act} {v:Value} (hs:∀ cs b,o.op≠.select cs b) (d:Option Tmp) (u:Value) (h:∀ t,d=some t→t∉o.looksAt ops):Step P ops W al i o (a.put d u) v↔Step P ops W al i o a v:=by
  unfold Step
  rw[wanted_put o a d u h]
  unfold Mild Oper.quietAt
  rw[execOp_put o hs a d u h]
theorem anyWalk_first {L:Array Bool→Act→Prop} (hw:Waits md ops n) (hsel:∀ (j:Nat) (o:Oper) cs b,ops[j]? = some o→o.op≠.select cs b) (hdone:∀ listed a,L listed a→∀ j∈Region.ready md ops listed,n≤j) {i:Nat} {oi:Oper} {v:Value} (hi:ops[i]? = some oi) (hin:i<n) :
    ∀ (f:Nat) (listed:Array Bool) (a:Act),HeadInv md ops n listed →
      (∀ j oj,ops[j]? = some oj→j≠i→listed.getD j true=false→(∀ e∈oj.after,Region.binds md e=true→e.on≠i)→oi.apart ops oj=true) →
      i∈Region.ready md ops listed→Step P ops W al i oi a v→anyWalk P md ops W n al L f (listed.setIfInBounds i true) (a.put oi.dst v)→anyWalk P md ops W n al L (f+1) listed a
  | 0,listed,a,inv,_,hr,hy,H=>⟨fun h0=>(by rw[h0]at hr;cases hr),fun j hj=>by
    have hjn:=hw listed inv i hin (mem_ready.1 hr).1 j hj
    refine⟨hjn,?_⟩
    by_cases hji:j=i
    · subst hji;exact⟨oi,v,hi,hy,H⟩
    · have:=hdone _ _ H j (ready_mono hj hji)
      omega⟩
  | f+1,listed,a,inv,hfree,hr,hy,H=>⟨fun h0=>(by rw[h0]at hr;cases hr),fun j hj=>by
    have hjn:=hw listed inv i hin (mem_ready.1 hr).1 j hj
    refine⟨hjn,?_⟩
    by_cases hji:j=i
    · subst hji;exact⟨oi,v,hi,hy,H⟩
    · obtain⟨_,oj,u,hoj,hyj,Hj⟩:=H.2 j (ready_mono hj hji)
      obtain⟨hjun,oj',hoj',hall⟩:=mem_ready.1 hj
      obtain rfl:oj=oj':=Option.some.inj (hoj.symm.trans hoj')
      have hno:∀ e∈oj.after,Region.binds md e=true→e.on≠i:=fun e he hb heq=>by
        have h1:=hall e he hb
        rw[heq,getD_both (mem_ready.1 hr).1]at h1
        cases h1
      have hap:=hfree j oj hoj hji hjun hno
      obtain⟨h1,h2,h3⟩:=Oper.apart_spec hap
      refine⟨oj,u,hoj,(step_put (hsel j oj · · hoj) oi.dst v h1).1 hyj,?_⟩
      refine anyWalk_first hw hsel hdone hi hin f _ _ (inv.set hj hjn) (fun k ok hk hki hun hno=>?_) (ready_mono hr (Ne.symm hji)) ((step_put (hsel i oi · · hi) oj.dst u h3).2 hy) ?_
      · refine hfree k ok hk hki ?_ hno
        by_cases hjk:j=k
        · subst hjk;exact hjun
        · rw[getD_set_ne true hjk]at hun;exact hun
      · rw[Array.setIfInBounds_comm _ _ hji,←Act.put_comm a v u h2]
        exact Hj⟩
def lexHeadB (md:Region.Mode) (ops:Array Oper) (g n:Nat) (al:List Nat):Nat→Nat→Array Bool→Bool
  | 0,k,listed=>decide (k=n)&&al.all (fun i=>listed.getD i false)&&Region.seqB md ops g k listed
  | f+1,k,listed=>(Region.ready md ops listed).contains k&&Region.free md ops listed k&&lexHeadB md ops g n al f (k+1) (listed.setIfInBounds k true)
theorem anyWalk_lex {g:Nat} {Lq:Act→Prop} (hw:Waits md ops n) (hsel:∀ (j:Nat) (o:Oper) cs b,ops[j]? = some o→o.op≠.select cs b) :
    ∀ (l:List Oper) (k:Nat) (listed:Array Bool) (a:Act),(∀ j,j<l.length→l[j]? = ops[k+j]?)→k+l.length=n→HeadInv md ops n listed →
    lexHeadB md ops g n al l.length k listed=true→mildWalk P ops W al Lq k l a →
    anyWalk P md ops W n al (fun listed' a'=>(al.all (fun i=>listed'.getD i false)=true∧Region.seqB md ops g n listed'=true)∧Lq a') l.length listed a
  | [],k,listed,a,_,hk,_,hB,h=>by
    have hkn:k=n:=by simpa using hk
    subst hkn
    simp only[List.length_nil,lexHeadB,Bool.and_eq_true]at hB
    exact⟨⟨hB.1.2,hB.2⟩,h⟩
  | o::l,k,listed,a,hl,hk,inv,hB,h=>by
    have h0:ops[k]? = some o:=by simpa using (hl 0 (by simp)).symm
    simp only[List.length_cons,lexHeadB,Bool.and_eq_true]at hB
    obtain⟨⟨hr,hf⟩,hB'⟩:=hB
    have hkn:k<n:=by simp only[List.length_cons]at hk;omega
    have hr':k∈Region.ready md ops listed:=by simpa using hr
    obtain⟨v,hy,hK⟩:=h
    exact anyWalk_first hw hsel (fun listed' a' hL=>seqB_ready hL.1.2) h0 hkn l.length listed a inv (Region.free_spec h0 hf) hr' hy
      (anyWalk_lex hw hsel l (k+1) _ _ (fun j hj=>by have:=hl (j+1) (by simp;omega);simpa [Nat.add_assoc,Nat.add_comm 1 j]using this) (by simp only[List.length_cons]at hk;omega) (inv.set hr' hkn) hB' hK)
structure Made where
  i:Nat
  d:Tmp
  o:Obj
structure Keeps (W:World) (ms:List Made) (listed:Array Bool) (av ar:Act) (w:World):Prop where
  new:New W w
  defers:ar.defers=av.defers
  size:ar.tmps.size=av.tmps.size
  inb:∀ x∈ms,x.d<av.tmps.size
  same:∀ s,(∀ x∈ms,x.d≠s)→ar.tmps[s]? = av.tmps[s]?
  made:∀ x∈ms,listed.getD x.i false=true→∃ b,W.heap.size≤b∧w.heap[b]? = some x.o∧ar.tmps[x.d]? = some (.pointer (some ⟨b,0,none⟩))
  unlike:∀ x∈ms,∀ y∈ms,listed.getD x.i false=true→listed.getD y.i false=true→x.i≠y.i→ar.tmps[x.d]? ≠ ar.tmps[y.d]?
theorem put_get_ne {a:Act} {d:Option Tmp} {v:Value} {s:Nat} (h:∀ t,d=some t→t≠s):(a.put d v).tmps[s]? = a.tmps[s]? := by
  cases d with
  | none=>rfl
  | some t=>simp[Act.put,Array.getElem?_setIfInBounds_ne (h t rfl)]
theorem put_get_eq {a:Act} {t:Tmp} {v:Value} (h:t<a.tmps.size):(a.put (some t) v).tmps[t]? = some v:=by
  simp[Act.put,h]
theorem put_get_both {a b:Act} {d:Option Tmp} {v:Value} {s:Nat} (hz:a.tmps.size=b.tmps.size) (h:a.tmps[s]? = b.tmps[s]?):(a.put d v).tmps[s]? = (b.put d v).tmps[s]? := by
  cases d with
  | none=>exact h
  | some t =>
    by_cases hts:t=s
    · subst hts
      simp[Act.put,Array.getElem?_setIfInBounds,hz]
    · rw[put_get_ne (by rintro _ ⟨rfl⟩;exact hts),put_get_ne (by rintro _ ⟨rfl⟩;exact hts)];exact h
theorem put_size (a:Act) (d:Option Tmp) (v:Value):(a.put d v).tmps.size=a.tmps.size:=by cases d <;> simp[Act.put]
theorem put_def (a:Act) (d:Option Tmp) (v:Value):(a.put d v).defers=a.defers:=by cases d <;> rfl
theorem heap_new (w:World) (o:Obj):(w.alloc o).heap[w.heap.size]? = some o:=by
  show(w.heap.push o)[w.heap.size]? = some o
  simp
theorem new_block {a w:World} (h:New a w) {b:Nat} {o:Obj} (hb:a.heap[b]? = some o):w.heap[b]? = some o:=by
  rw[h.block b (by rcases Nat.lt_or_ge b a.heap.size with q|q;exact q;rw[Array.getElem?_eq_none q]at hb;cases hb)];exact hb
structure Makes (P:Program) (ops:Array Oper) (n:Nat) (ms:List Made):Prop where
  run:∀ x∈ms,∃ o,ops[x.i]? = some o∧o.dst=some x.d∧o.guard=none∧∀ (e:Operand→Value) (w:World),(execOp e o).run P w=.ok (.value (.pointer (some ⟨w.heap.size,0,none⟩))) (w.alloc x.o)
  apart:∀ x∈ms,∀ j oj,j<n→ops[j]? = some oj→j∉ms.map (·.i)→x.d∉oj.looksAt ops∧oj.dst≠some x.d
  inj:∀ x∈ms,∀ y∈ms,x.i≠y.i→x.d≠y.d
theorem eval_same {ms:List Made} {listed:Array Bool} {av ar:Act} {w:World} (K:Keeps W ms listed av ar w) {o:Oper} (hs:∀ cs b,o.op≠.select cs b) (h:∀ x∈ms,x.d∉o.looksAt ops) :
    execOp ar.eval o=execOp av.eval o∧Region.wanted o (yielded ops ar.tmps)=Region.wanted o (yielded ops av.tmps):=by
  constructor
  · refine execOp_congr o hs fun x hx=>?_
    cases x with
    | tmp t =>
      have:ar.tmps[t]? = av.tmps[t]? := K.same t fun y hy hyt=>h y hy (by subst hyt;exact List.mem_append_left _ (List.mem_filterMap.2 ⟨.tmp _,by simpa using hx,rfl⟩))
      simp only[Act.eval,Array.getD_eq_getD_getElem?,this]
    | _=>rfl
  · unfold Region.wanted
    cases hg:o.guard with
    | none=>rfl
    | some gw =>
      obtain⟨g,want⟩:=gw
      have hy:yielded ops ar.tmps g=yielded ops av.tmps g:=by
        unfold yielded
        cases ht:(ops[g]?).bind (·.dst)with
        | none=>rfl
        | some t =>
          have:ar.tmps[t]? = av.tmps[t]? := K.same t fun y hy hyt=>h y hy (by subst hyt;simp[Oper.looksAt,hg,ht])
          show(match ar.tmps[t]? with|some (.bool b)=>some b|_=>none)=_
          rw[this]
          rfl
      simp only[hy]
theorem keeps_put {ms:List Made} {listed:Array Bool} {av ar:Act} {w w':World} {i:Nat} {dst:Option Tmp} {v:Value} (K:Keeps W ms listed av ar w) (hn:New w w') (hi:i∉ms.map (·.i)) (hd:∀ x∈ms,dst≠some x.d) :
    Keeps W ms (listed.setIfInBounds i true) (av.put dst v) (ar.put dst v) w':=by
  have hk:∀ x∈ms,(listed.setIfInBounds i true).getD x.i false=listed.getD x.i false:=fun x hx =>
    getD_set_ne false (fun e=>hi (List.mem_map.2 ⟨x,hx,e.symm⟩))
  have hs:∀ x∈ms,(ar.put dst v).tmps[x.d]? = ar.tmps[x.d]? := fun x hx=>put_get_ne fun t ht e=>hd x hx (by rw[ht,e])
  refine⟨K.new.trans hn,by rw[put_def,put_def,K.defers],by rw[put_size,put_size,K.size],fun x hx=>by rw[put_size];exact K.inb x hx,fun s h=>put_get_both K.size (K.same s h),fun x hx hl=>?_,fun x hx y hy hlx hly hne=>?_⟩
  · rw[hk x hx]at hl
    obtain⟨b,hb,hh,hp⟩:=K.made x hx hl
    exact⟨b,hb,new_block hn hh,by rw[hs x hx];exact hp⟩
  · rw[hk x hx]at hlx
    rw[hk y hy]at hly
    rw[hs x hx,hs y hy]
    exact K.unlike x hx y hy hlx hly hne
theorem keeps_made {ms:List Made} {listed:Array Bool} {av ar:Act} {w:World} (M:Makes P ops n ms) (K:Keeps W ms listed av ar w) {x:Made} (hx:x∈ms) (hun:listed.getD x.i false=false) :
    Keeps W ms (listed.setIfInBounds x.i true) (av.put (some x.d) undef) (ar.put (some x.d) (.pointer (some ⟨w.heap.size,0,none⟩))) (w.alloc x.o):=by
  have hk:∀ y∈ms,y.i≠x.i→(listed.setIfInBounds x.i true).getD y.i false=listed.getD y.i false:=fun y hy h=>getD_set_ne false (Ne.symm h)
  have hd:∀ y∈ms,y.i≠x.i→(ar.put (some x.d) (.pointer (some ⟨w.heap.size,0,none⟩))).tmps[y.d]? = ar.tmps[y.d]? := fun y hy h =>
    put_get_ne (by rintro _ ⟨rfl⟩ e;exact M.inj y hy x hx h e.symm)
  have hx':(ar.put (some x.d) (.pointer (some ⟨w.heap.size,0,none⟩))).tmps[x.d]? = some (.pointer (some ⟨w.heap.size,0,none⟩)):=put_get_eq (by rw[K.size];exact K.inb x hx)
  have same_d:∀ y∈ms,y.i=x.i→y.d=x.d∧y.o=x.o:=fun y hy e=>by
    obtain⟨o,ho,h1,_,h2⟩:=M.run y hy
    obtain⟨o',ho',h1',_,h2'⟩:=M.run x hx
    rw[e]at ho
    obtain rfl:o=o':=Option.some.inj (ho.symm.trans ho')
    refine⟨Option.some.inj (h1.symm.trans h1'),?_⟩
    have e1:=(h2 (fun _=>undef) W).symm.trans (h2' (fun _=>undef) W)
    have e2:(W.alloc y.o).heap[W.heap.size]? = (W.alloc x.o).heap[W.heap.size]? := by injection e1 with _ q;rw[q]
    rw[heap_new,heap_new]at e2
    exact Option.some.inj e2
  refine⟨K.new.trans (New.alloc (New.refl _) _),by rw[put_def,put_def,K.defers],by rw[put_size,put_size,K.size],fun y hy=>by rw[put_size];exact K.inb y hy,fun s h=>?_,fun y hy hl=>?_,fun y hy z hz hly hlz hne=>?_⟩
  · rw[put_get_ne (by rintro _ ⟨rfl⟩;exact h x hx),put_get_ne (by rintro _ ⟨rfl⟩;exact h x hx)]
    exact K.same s h
  · by_cases e:y.i=x.i
    · obtain⟨e1,e2⟩:=same_d y hy e
      refine⟨w.heap.size,K.new.size,?_,by rw[e1];exact hx'⟩
      rw[e2];exact heap_new _ _
    · rw[hk y hy e]at hl
      obtain⟨b,hb,hh,hp⟩:=K.made y hy hl
      exact⟨b,hb,new_block (New.alloc (New.refl _) _) hh,by rw[hd y hy e];exact hp⟩
  · have lt:∀ y∈ms,y.i≠x.i→(listed.setIfInBounds x.i true).getD y.i false=true→ar.tmps[y.d]? ≠ some (.pointer (some ⟨w.heap.size,0,none⟩)):=fun y hy e hl h=>by
      rw[hk y hy e]at hl
      obtain⟨b,hb,hh,hp⟩:=K.made y hy hl
      rw[hp]at h
      injection h with h;injection h with h;injection h with h;injection h with h
      subst h
      rw[Array.getElem?_eq_none (Nat.le_refl _)]at hh
      cases hh
    by_cases e:y.i=x.i
    · have e':z.i≠x.i:=fun h=>hne (e.trans h.symm)
      rw[(same_d y hy e).1,hx',hd z hz e']
      exact(lt z hz e' hlz).symm
    · rw[hd y hy e]
      by_cases e':z.i=x.i
      · rw[(same_d z hz e').1,hx']
        exact lt y hy e hly
      · rw[hd z hz e']
        rw[hk y hy e]at hly
        rw[hk z hz e']at hlz
        exact K.unlike y hy z hz hly hlz hne
theorem wpAny_of_mild {ms:List Made} {g:Nat} {L:Array Bool→Act→Prop} {Q':Exit→Act→World→Prop} (M:Makes P ops n ms) (hsel:∀ (j:Nat) (o:Oper) cs b,ops[j]? = some o→o.op≠.select cs b)
    (hL:∀ listed av ar w,L listed av→Keeps W ms listed av ar w→wpAny P md ops Q' g listed ar w) :
    ∀ (f:Nat) (listed:Array Bool) (av ar:Act) (w:World),anyWalk P md ops W n (ms.map (·.i)) L f listed av→Keeps W ms listed av ar w→wpAny P md ops Q' (f+g) listed ar w
  | 0,listed,av,ar,w,h,K=>by rw[Nat.zero_add];exact hL _ _ _ _ h K
  | f+1,listed,av,ar,w,h,K=>by
    rw[show f+1+g=(f+g)+1 by omega]
    refine⟨fun h0=>absurd h0 h.1,fun i hi=>?_⟩
    obtain⟨hin,o,v,ho,hy,hr⟩:=h.2 i hi
    have on:=wpAny_of_mild M hsel hL f (listed.setIfInBounds i true)
    have hun:listed.getD i false=false:=getD_both (mem_ready.1 hi).1
    unfold wpOp
    simp only[ho]
    unfold Step at hy
    by_cases hial:i∈ms.map (·.i)
    · rw[if_pos hial]at hy
      obtain⟨x,hx,rfl⟩:=List.mem_map.1 hial
      obtain⟨o',ho',hd,hg,hrun⟩:=M.run x hx
      obtain rfl:o=o':=Option.some.inj (ho.symm.trans ho')
      have hw:Region.wanted o (yielded ops ar.tmps)=true:=by unfold Region.wanted;rw[hg]
      rw[if_pos hw]
      refine .inl ?_
      unfold Oper.wp
      rw[hrun ar.eval w]
      simp only[Oper.upon]
      rw[hd]
      subst hy
      rw[hd]at hr
      exact on _ _ _ hr (keeps_made M K hx hun)
    · rw[if_neg hial]at hy
      have hap:=fun x hx=>M.apart x hx i o hin ho hial
      obtain⟨e1,e2⟩:=eval_same K (hsel i o · · ho) (fun x hx=>(hap x hx).1)
      have hd:∀ x∈ms,o.dst≠some x.d:=fun x hx=>(hap x hx).2
      rw[e2]
      by_cases hw:Region.wanted o (yielded ops av.tmps)=true
      · rw[if_pos hw]at hy ⊢
        refine .inl ?_
        have hm:=hy ⟨w,K.new⟩
        unfold Oper.quietAt at hm
        unfold Oper.wp
        rw[e1]
        generalize (execOp av.eval o).run P w=r at hm
        cases r with
        | ok nx w' =>
          cases nx <;> simp only[Oper.quietUpon]at hm <;> simp only[Oper.upon]
          case value u =>
            obtain⟨rfl,rfl⟩:=hm
            exact on _ _ _ hr (keeps_put K (New.refl _) hial hd)
          case skip =>
            obtain⟨rfl,rfl⟩:=hm
            exact on _ _ _ hr (keeps_put K (New.refl _) hial hd)
          case enter fn args =>
            obtain⟨rfl,hc⟩:=hm
            exact hc.mono fun e w'' ⟨he,hn⟩=>by subst he;exact on _ _ _ hr (keeps_put K hn hial hd)
        | halt x w'=>simp only[Oper.quietUpon]at hm
      · rw[if_neg hw]at hy ⊢
        subst hy
        exact on _ _ _ hr (keeps_put K (New.refl _) hial hd)
def steadyB (ops:Array Oper) (n:Nat) (al:List Nat):Bool :=
  Region.noSelect ops&&(decide (n=ops.size)||(decide (n<ops.size)&&Region.sinkB .any ops n&&Region.chainB .any ops n))&&lexHeadB .any ops (ops.size - n) n al n 0 (Array.replicate ops.size false)
theorem wp_region_made {id:Nat} {Q:Exit→Act→World→Prop} {a:Act} {w:World} {l:List Oper} {ms:List Made} (hm:P.follows .mixedOrders=true) (hB:steadyB l.toArray n (ms.map (·.i))=true) (M:Makes P l.toArray n ms) (hin:∀ x∈ms,x.d<a.tmps.size)
    (h:mildWalk P l.toArray w (ms.map (·.i)) (fun av=>∀ listed ar w',(∀ x∈ms,listed.getD x.i false=true)→Keeps w ms listed av ar w'→wpList P l.toArray Q (l.drop n) ar w') 0 (l.take n) a):(Code.region id l.toArray true).wp P Q a w:=by
  simp only[steadyB,Bool.and_eq_true,Bool.or_eq_true,decide_eq_true_eq]at hB
  obtain⟨⟨hs,hn⟩,hlex⟩:=hB
  have hsel:=Region.noSelect_spec hs
  have hle:n≤l.length:=by
    have:l.toArray.size=l.length:=by simp
    rcases hn with hn|hn <;> omega
  have hW:Waits .any l.toArray n:=by
    rcases hn with rfl|⟨⟨h1,h2⟩,h3⟩
    · exact waits_all
    · exact waits_of h2 h3 h1
  have htl:(l.take n).length=n:=by simp;omega
  have hdl:(l.drop n).length=l.toArray.size - n:=by simp
  have inv0:HeadInv .any l.toArray n (Array.replicate l.toArray.size false) :=
    ⟨by simp,fun j oj _ hl=>(by rw[getD_replicate_false]at hl;cases hl),fun t _ ht=>getD_in (by simpa using ht) (getD_replicate_false _ _)⟩
  have H:=anyWalk_lex (md:=.any) (g:=l.toArray.size - n) hW hsel (l.take n) 0 _ a (fun j hj=>by
    have hj':j<n:=by rw[htl]at hj;exact hj
    simp[hj']) (by simpa using htl) inv0 (by rw[htl];exact hlex) h
  refine wp_region_any hm ?_
  have:=wpAny_of_mild (Q':=Q) (g:=l.toArray.size - n) M hsel (fun listed av ar w' hL K=>by
    have:=wpAny_of_seq (md:=.any) (Q':=Q) (l.drop n) n listed ar w' (fun j=>by simp[List.getElem?_drop]) (by rw[hdl];exact hL.1.2)
      (hL.2 listed ar w' (fun x hx=>by have:=List.all_eq_true.1 hL.1.1 x.i (List.mem_map.2 ⟨x,hx,rfl⟩);exact this) K)
    rwa [hdl]at this) _ _ _ _ _ H (⟨Below.drew (Below.refl _ w),rfl,rfl,hin,fun _ _=>rfl,(fun x _ hl=>by rw[getD_replicate_false]at hl;cases hl),(fun x _ y _ hl=>by rw[getD_replicate_false]at hl;cases hl)⟩:Keeps w ms _ a a { w with drawn:=w.drawn+1 })
  rw[htl,show n+(l.toArray.size - n)=l.toArray.size by simp;omega]at this
  exact this
theorem act_eq {a b:Act} (h:a.defers=b.defers) (k:∀ s:Nat,a.tmps[s]? = b.tmps[s]?):a=b:=by
  obtain⟨t,d⟩:=a
  obtain⟨t',d'⟩:=b
  obtain rfl:d=d':=h
  obtain rfl:t=t':=Array.ext_getElem? k
  rfl
theorem wp_region_steady {id:Nat} {Q:Exit→Act→World→Prop} {a:Act} {w:World} {l:List Oper} (n:Nat) (hm:P.follows .mixedOrders=true) (hB:steadyB l.toArray n []=true)
    (h:(∀ (x:Hat w) (b o:Nat),(w.cell? ⟨b,o,none⟩).isSome=true→x.w.cell? ⟨b,o,none⟩=w.cell? ⟨b,o,none⟩)→(∀ (x:Hat w) (b o:Nat),(w.cell? ⟨b,o,none⟩).isSome=true→x.w.frozen? ⟨b,o,none⟩=w.frozen? ⟨b,o,none⟩)→mildWalk P l.toArray w [] (fun av=>∀ x:Hat w,wpList P l.toArray Q (l.drop n) av x.w) 0 (l.take n) a):(Code.region id l.toArray true).wp P Q a w:=by
  refine wp_region_made (ms:=[]) hm hB ⟨(fun _ h=>nomatch h),(fun _ h=>nomatch h),(fun _ h=>nomatch h)⟩ (fun _ h=>nomatch h) ?_
  have e:(fun av=>∀ listed ar w',(∀ x∈([]:List Made),listed.getD x.i false=true)→Keeps w [] listed av ar w'→wpList P l.toArray Q (l.drop n) ar w')=(fun av=>∀ x:Hat w,wpList P l.toArray Q (l.drop n) av x.w):=by
    funext av
    refine propext ⟨fun h x=>h #[] av x.w (fun _ h=>(nomatch h)) ⟨x.h,rfl,rfl,(fun _ h=>nomatch h),(fun _ _=>rfl),(fun _ h=>nomatch h),(fun _ h=>nomatch h)⟩,fun h _ ar w' _ K=>?_⟩
    rw[act_eq K.defers fun s=>K.same s fun _ h=>nomatch h]
    exact h ⟨w',K.new⟩
  rw[show List.map (·.i) ([]:List Made)=[]from rfl,e]
  exact h hat_cell hat_frozen
def makesB (ops:Array Oper) (n i d:Nat):Bool :=
  (List.range n).all fun j=>j==i||match ops[j]? with|some o => !(o.looksAt ops).contains d&&o.dst != some d|none=>true
theorem makes_one {i d:Nat} {o:Oper} {ob:Obj} (ho:ops[i]? = some o) (hd:o.dst=some d) (hg:o.guard=none) (hr:∀ (e:Operand→Value) (w:World),(execOp e o).run P w=.ok (.value (.pointer (some ⟨w.heap.size,0,none⟩))) (w.alloc ob)) (hB:makesB ops n i d=true) :
    Makes P ops n [⟨i,d,ob⟩]:=by
  refine⟨fun x hx=>?_,fun x hx j oj hj hoj hji=>?_,fun x hx y hy hne=>?_⟩
  · obtain rfl:=List.mem_singleton.1 hx
    exact⟨o,ho,hd,hg,hr⟩
  · obtain rfl:=List.mem_singleton.1 hx
    have h1:=List.all_eq_true.1 hB j (List.mem_range.2 hj)
    have hji':j≠i:=fun e=>hji (by simp[e])
    simp only[hoj,Bool.or_eq_true,beq_iff_eq,hji',false_or,Bool.and_eq_true,Bool.not_eq_true',bne_iff_ne]at h1
    exact⟨fun h=>by have:=h1.1;simp[h]at this,h1.2⟩
  · obtain rfl:=List.mem_singleton.1 hx
    obtain rfl:=List.mem_singleton.1 hy
    exact absurd rfl hne
theorem wp_region_steady2 {id:Nat} {Q:Exit→Act→World→Prop} {a:Act} {w:World} {l:List Oper} (n i d i' d':Nat) {o o':Oper} {ob ob':Obj} (hm:P.follows .mixedOrders=true) (hB:steadyB l.toArray n [i,i']=true) (hii:i≠i') (hdd:d≠d')
    (ho:l.toArray[i]? = some o) (hd:o.dst=some d) (hg:o.guard=none) (hr:∀ (e:Operand→Value) (w:World),(execOp e o).run P w=.ok (.value (.pointer (some ⟨w.heap.size,0,none⟩))) (w.alloc ob)) (hM:makesB l.toArray n i d=true) (hin:d<a.tmps.size)
    (ho':l.toArray[i']? = some o') (hd':o'.dst=some d') (hg':o'.guard=none) (hr':∀ (e:Operand→Value) (w:World),(execOp e o').run P w=.ok (.value (.pointer (some ⟨w.heap.size,0,none⟩))) (w.alloc ob')) (hM':makesB l.toArray n i' d'=true) (hin':d'<a.tmps.size)
    (h:(∀ (x:Hat w) (b o:Nat),(w.cell? ⟨b,o,none⟩).isSome=true→x.w.cell? ⟨b,o,none⟩=w.cell? ⟨b,o,none⟩)→(∀ (x:Hat w) (b o:Nat),(w.cell? ⟨b,o,none⟩).isSome=true→x.w.frozen? ⟨b,o,none⟩=w.frozen? ⟨b,o,none⟩)→mildWalk P l.toArray w [i,i'] (fun av=>∀ (x:Hat w) (b b':Nat),w.heap.size≤b→w.heap.size≤b'→b≠b'→x.w.heap[b]? = some ob→x.w.heap[b']? = some ob'→wpList P l.toArray Q (l.drop n) ((av.put (some d) (.pointer (some ⟨b,0,none⟩))).put (some d') (.pointer (some ⟨b',0,none⟩))) x.w) 0 (l.take n) a):(Code.region id l.toArray true).wp P Q a w:=by
  have M1:=makes_one ho hd hg hr hM
  have M2:=makes_one ho' hd' hg' hr' hM'
  have two:∀ x:Made,x∈[(⟨i,d,ob⟩:Made),⟨i',d',ob'⟩]→x=⟨i,d,ob⟩∨x=⟨i',d',ob'⟩:=fun x hx=>by simpa using hx
  refine wp_region_made (ms:=[⟨i,d,ob⟩,⟨i',d',ob'⟩]) hm hB ⟨fun x hx=>?_,fun x hx j oj hj hoj hji=>?_,fun x hx y hy hne=>?_⟩ (fun x hx=>by rcases two x hx with rfl|rfl;exact hin;exact hin') ?_
  · rcases two x hx with rfl|rfl
    · exact M1.run _ (List.mem_singleton.2 rfl)
    · exact M2.run _ (List.mem_singleton.2 rfl)
  · have hj1:j∉List.map (·.i) [(⟨i,d,ob⟩:Made)]:=fun h=>hji (by simp at h ⊢;exact Or.inl h)
    have hj2:j∉List.map (·.i) [(⟨i',d',ob'⟩:Made)]:=fun h=>hji (by simp at h ⊢;exact Or.inr h)
    rcases two x hx with rfl|rfl
    · exact M1.apart _ (List.mem_singleton.2 rfl) j oj hj hoj hj1
    · exact M2.apart _ (List.mem_singleton.2 rfl) j oj hj hoj hj2
  · rcases two x hx with rfl|rfl <;> rcases two y hy with rfl|rfl
    · exact absurd rfl hne
    · exact hdd
    · exact Ne.symm hdd
    · exact absurd rfl hne
  refine mildWalk_mono (fun av h=>?_) _ _ _ (h hat_cell hat_frozen)
  intro listed ar w' hl K
  have m1:(⟨i,d,ob⟩:Made)∈[(⟨i,d,ob⟩:Made),⟨i',d',ob'⟩]:=by simp
  have m2:(⟨i',d',ob'⟩:Made)∈[(⟨i,d,ob⟩:Made),⟨i',d',ob'⟩]:=by simp
  obtain⟨b,hb,hh,hp⟩:=K.made _ m1 (hl _ m1)
  obtain⟨b',hb',hh',hp'⟩:=K.made _ m2 (hl _ m2)
  have hi:=K.inb _ m1
  have hi':=K.inb _ m2
  have hne:b≠b':=fun e=>K.unlike _ m1 _ m2 (hl _ m1) (hl _ m2) hii (by rw[hp,hp',e])
  have e:ar=(av.put (some d) (.pointer (some ⟨b,0,none⟩))).put (some d') (.pointer (some ⟨b',0,none⟩)):=act_eq (by rw[K.defers,put_def,put_def]) fun s=>by
    by_cases hs':d'=s
    · subst hs';rw[put_get_eq (by rw[put_size];exact hi')];exact hp'
    · rw[put_get_ne (by rintro _ ⟨rfl⟩;exact hs')]
      by_cases hs:d=s
      · subst hs;rw[put_get_eq hi];exact hp
      · rw[put_get_ne (by rintro _ ⟨rfl⟩;exact hs)];exact K.same s fun x hx=>by rcases two x hx with rfl|rfl;exact hs;exact hs'
  rw[e]
  exact h ⟨w',K.new⟩ b b' hb hb' hne hh hh'
theorem cell_of_heap {w:World} {b o:Nat} {cs:Array Value} {t:TypeId} {f:Nat×Nat} {v:Value} (h:w.heap[b]? = some (.cells cs t f)) (hv:cs[o]? = some v):w.cell? ⟨b,o,none⟩=some v:=by
  simp[World.cell?,h,hv]
theorem frozen_of_heap {w:World} {b o:Nat} {cs:Array Value} {t:TypeId} (h:w.heap[b]? = some (.cells cs t (0,0))):w.frozen? ⟨b,o,none⟩=false:=by
  simp[World.frozen?,h]
end
end Go.Proofs.YtmhghnbgllaihaaGreatDoor

namespace Go.Proofs.YtmhghnbgllaihaaGreatDoor
open Go.RowKit
set_option linter.unusedVariables false
structure Sn where
  (lo hi:Int)
  wk:Bool
instance:Inhabited Sn:=⟨⟨0,0,false⟩⟩
def Sn.zero:Sn:=⟨0,0,false⟩
theorem Sn.ext' {a b:Sn} (h1:a.lo=b.lo) (h2:a.hi=b.hi) (h3:a.wk=b.wk):a=b:=by
  cases a;cases b;simp_all
def Sn.enc (x:Sn):List Value:=#[.int .i64 x.lo,.int .i64 x.hi,.bool x.wk].toList
theorem Sn.enc_len (x:Sn):x.enc.length=3:=rfl
theorem Sn.enc_one (x:Sn):∀ u∈x.enc,u.oneCell'=true:=by
  intro u hu
  simp[Sn.enc]at hu
  rcases hu with rfl|rfl|rfl <;> rfl
def Sn.eqB (a b:Sn):Bool:=a.lo==b.lo&&a.hi==b.hi&&a.wk==b.wk
theorem Sn.eqB_iff (a b:Sn):a.eqB b=true↔a=b:=by
  obtain⟨a0,a1,a2⟩:=a
  obtain⟨b0,b1,b2⟩:=b
  simp[Sn.eqB,and_assoc]
instance:DecidableEq Sn:=fun a b=>decidable_of_iff _ (Sn.eqB_iff a b)
theorem Sn.cells {w:World} {b off:Nat} {l:List Sn} (H:RowAt Sn.enc 3 w b off l) (j:Nat) (h:j<l.length) :
    w.cell? ⟨b,off+j*3,none⟩=some (.int .i64 l[j].lo)∧w.cell? ⟨b,off+j*3+1,none⟩=some (.int .i64 l[j].hi)∧w.cell? ⟨b,off+j*3+2,none⟩=some (.bool l[j].wk) :=
  ⟨H j h 0 (by rw[Sn.enc_len];omega),H j h 1 (by rw[Sn.enc_len];omega),H j h 2 (by rw[Sn.enc_len];omega)⟩
theorem Sl.row' {α:Type} {enc:α→List Value} {k:Nat} {w:World} {at0:Option Addr} {n c:Nat} {l:List α} (h:Sl enc k w (.slice at0 n c) l):n=l.length∧l.length≤c∧c≤maxLen∧(at0=none→c=0)∧RowIn enc k w at0 l:=by
  obtain⟨a,c',e,h1,h2,h3,h4⟩:=h
  injection e with e1 e2 e3
  subst e1 e2 e3
  exact⟨rfl,h1,h2,h3,h4⟩
def Proper (l:List Sn):Prop:=∀ p∈l,p.lo≤p.hi
def Sep (l:List Sn):Prop:=l.Pairwise fun a b=>a.hi<b.lo
theorem Sep.three {l:List Sn} (h:Sep l) {a b:Sn} (ha:a∈l) (hb:b∈l):a=b∨a.hi<b.lo∨b.hi<a.lo:=by
  obtain⟨i,hi,rfl⟩:=List.getElem_of_mem ha
  obtain⟨j,hj,rfl⟩:=List.getElem_of_mem hb
  have h':=List.pairwise_iff_getElem.1 h
  rcases Nat.lt_trichotomy i j with k|k|k
  · exact .inr (.inl (h' i j hi hj k))
  · subst k;exact .inl rfl
  · exact .inr (.inr (h' j i hj hi k))
theorem Sep.one {l:List Sn} (h:Sep l) {a b:Sn} (ha:a∈l) (hb:b∈l) {y:Int} (a1:a.lo≤y) (a2:y≤a.hi) (b1:b.lo≤y) (b2:y≤b.hi):a=b:=by
  rcases h.three ha hb with k|k|k
  · exact k
  · omega
  · omega
structure IsM (l R:List Sn):Prop where
  sep:Sep R
  fit:Proper R
  isin:∀ p∈l,∃ r∈R,r.lo≤p.lo∧p.hi≤r.hi
  cov:∀ r∈R,∀ c,r.lo≤c→c<r.hi→∃ p∈l,p.lo≤c∧c<p.hi
  low:∀ r∈R,∃ p∈l,p.lo=r.lo
  top:∀ r∈R,r.wk=true↔∃ p∈l,p.hi=r.hi∧p.wk=true
theorem IsM.nil:IsM [] []:=⟨List.Pairwise.nil,fun p h=>by simp at h,fun p h=>by simp at h,fun p h=>by simp at h,fun p h=>by simp at h,fun p h=>by simp at h⟩
theorem IsM.congr {l l' R:List Sn} (h:IsM l R) (e:∀ p,p∈l'↔p∈l):IsM l' R where
  sep:=h.sep
  fit:=h.fit
  isin p hp:=h.isin p ((e p).1 hp)
  cov r hr c h1 h2:=by obtain⟨p,hp,k⟩:=h.cov r hr c h1 h2;exact⟨p,(e p).2 hp,k⟩
  low r hr:=by obtain⟨p,hp,k⟩:=h.low r hr;exact⟨p,(e p).2 hp,k⟩
  top r hr:=by
    rw[h.top r hr]
    constructor
    · rintro⟨p,hp,k⟩;exact⟨p,(e p).2 hp,k⟩
    · rintro⟨p,hp,k⟩;exact⟨p,(e p).1 hp,k⟩
theorem IsM.self {R:List Sn} (h:Sep R) (hf:Proper R):IsM R R where
  sep:=h
  fit:=hf
  isin p hp:=⟨p,hp,Int.le_refl _,Int.le_refl _⟩
  cov r hr c h1 h2:=⟨r,hr,h1,h2⟩
  low r hr:=⟨r,hr,rfl⟩
  top r hr:=by
    constructor
    · intro k;exact⟨r,hr,rfl,k⟩
    · rintro⟨p,hp,k1,k2⟩
      have f1:=hf p hp
      have f2:=hf r hr
      have:=h.one hp hr (y:=r.hi) (by omega) (by omega) (by omega) (by omega)
      rw[←this];exact k2
theorem IsM.sinks {l l' R R':List Sn} (hf:Proper l) (h:IsM l R) (h':IsM l' R') (e:∀ p,p∈l→p∈l') {r:Sn} (hr:r∈R):∃ r'∈R',r'.lo≤r.lo∧r.hi≤r'.hi:=by
  obtain⟨p,hp,hlo⟩:=h.low r hr
  obtain⟨r',hr',k1,k2⟩:=h'.isin p (e p hp)
  have hfr:=h.fit r hr
  have hfr':=h'.fit r' hr'
  have key:∀ n:Nat,r.lo+n≤r.hi→r'.lo≤r.lo+n∧r.lo+n≤r'.hi:=by
    intro n
    induction n with
    | zero =>
      intro _
      have:=hf p hp
      omega
    | succ n ih =>
      intro hle
      obtain⟨i1,i2⟩:=ih (by omega)
      obtain⟨u,hu,u1,u2⟩:=h.cov r hr (r.lo+n) (by omega) (by omega)
      obtain⟨v,hv,v1,v2⟩:=h'.isin u (e u hu)
      have:=h'.sep.one hr' hv (y:=r.lo+n) i1 i2 (by omega) (by omega)
      subst this
      omega
  obtain⟨n,hn⟩:∃ n:Nat,r.hi=r.lo+n:=⟨(r.hi - r.lo).toNat,by omega⟩
  exact⟨r',hr',by omega,by have:=(key n (by omega)).2;omega⟩
theorem sep_rise {R:List Sn} (h:Sep R) (hf:Proper R):R.Pairwise fun a b=>a.lo<b.lo:=by
  unfold Sep at h
  rw[List.pairwise_iff_getElem]at h ⊢
  intro i j hi hj hij
  have:=h i j hi hj hij
  have:=hf _ (List.getElem_mem hi)
  omega
theorem rise_one:∀ {R S:List Sn},R.Pairwise (fun a b=>a.lo<b.lo)→S.Pairwise (fun a b=>a.lo<b.lo)→(∀ a,a∈R↔a∈S)→R=S
  | [],[],_,_,_=>rfl
  | [],s::S,_,_,h=>absurd ((h s).2 List.mem_cons_self) (by simp)
  | r::R,[],_,_,h=>absurd ((h r).1 List.mem_cons_self) (by simp)
  | r::R,s::S,hr,hs,h=>by
    rw[List.pairwise_cons]at hr hs
    have e:r=s:=by
      rcases List.mem_cons.1 ((h r).1 List.mem_cons_self)with k|k
      · exact k
      · rcases List.mem_cons.1 ((h s).2 List.mem_cons_self)with g|g
        · exact g.symm
        · have:=hs.1 r k
          have:=hr.1 s g
          omega
    subst e
    congr 1
    refine rise_one hr.2 hs.2 fun a=>?_
    constructor
    · intro ha
      rcases List.mem_cons.1 ((h a).1 (List.mem_cons_of_mem _ ha))with k|k
      · subst k;have:=hr.1 a ha;omega
      · exact k
    · intro ha
      rcases List.mem_cons.1 ((h a).2 (List.mem_cons_of_mem _ ha))with k|k
      · subst k;have:=hs.1 a ha;omega
      · exact k
theorem IsM.uniq {l l' R R':List Sn} (hf:Proper l) (h:IsM l R) (h':IsM l' R') (e:∀ p,p∈l↔p∈l'):R=R':=by
  have half:∀ {l l' R R':List Sn},Proper l→Proper l'→IsM l R→IsM l' R'→(∀ p,p∈l↔p∈l')→∀ r,r∈R→r∈R':=by
    intro l l' R R' hf hf' h h' e r hr
    obtain⟨r',hr',a1,a2⟩:=h.sinks hf h' (fun p hp=>(e p).1 hp) hr
    obtain⟨s,hs,b1,b2⟩:=h'.sinks hf' h (fun p hp=>(e p).2 hp) hr'
    have f1:=h.fit r hr
    have:=h.sep.one hr hs (y:=r.lo) (by omega) (by omega) (by omega) (by omega)
    subst this
    have e1:r.lo=r'.lo:=by omega
    have e2:r.hi=r'.hi:=by omega
    have e3:r.wk=r'.wk:=by
      rw[Bool.eq_iff_iff,h.top r hr,h'.top r' hr',e2]
      constructor
      · rintro⟨p,hp,k⟩;exact⟨p,(e p).1 hp,k⟩
      · rintro⟨p,hp,k⟩;exact⟨p,(e p).2 hp,k⟩
    rw[Sn.ext' e1 e2 e3]
    exact hr'
  have hf':Proper l':=fun p hp=>hf p ((e p).2 hp)
  exact rise_one (sep_rise h.sep h.fit) (sep_rise h'.sep h'.fit) fun a=>⟨half hf hf' h h' e a,half hf' hf h' h (fun p=>(e p).symm) a⟩
theorem IsM.parts {a P b R:List Sn} (hf:Proper a) (h1:IsM a P) (h2:IsM (P++b) R):IsM (a++b) R where
  sep:=h2.sep
  fit:=h2.fit
  isin p hp:=by
    rcases List.mem_append.1 hp with k|k
    · obtain⟨q,hq,q1,q2⟩:=h1.isin p k
      obtain⟨r,hr,r1,r2⟩:=h2.isin q (List.mem_append_left _ hq)
      exact⟨r,hr,by omega,by omega⟩
    · exact h2.isin p (List.mem_append_right _ k)
  cov r hr c c1 c2:=by
    obtain⟨q,hq,q1,q2⟩:=h2.cov r hr c c1 c2
    rcases List.mem_append.1 hq with k|k
    · obtain⟨p,hp,p1,p2⟩:=h1.cov q k c q1 q2
      exact⟨p,List.mem_append_left _ hp,p1,p2⟩
    · exact⟨q,List.mem_append_right _ k,q1,q2⟩
  low r hr:=by
    obtain⟨q,hq,q1⟩:=h2.low r hr
    rcases List.mem_append.1 hq with k|k
    · obtain⟨p,hp,p1⟩:=h1.low q k
      exact⟨p,List.mem_append_left _ hp,by omega⟩
    · exact⟨q,List.mem_append_right _ k,q1⟩
  top r hr:=by
    rw[h2.top r hr]
    constructor
    · rintro⟨q,hq,q1,q2⟩
      rcases List.mem_append.1 hq with k|k
      · obtain⟨p,hp,p1,p2⟩:=(h1.top q k).1 q2
        exact⟨p,List.mem_append_left _ hp,by omega,p2⟩
      · exact⟨q,List.mem_append_right _ k,q1,q2⟩
    · rintro⟨p,hp,p1,p2⟩
      rcases List.mem_append.1 hp with k|k
      · obtain⟨q,hq,q1,q2⟩:=h1.isin p k
        obtain⟨s,hs,s1,s2⟩:=h2.isin q (List.mem_append_left _ hq)
        have f1:=hf p k
        have f2:=h2.fit r hr
        have:=h2.sep.one hs hr (y:=r.hi) (by omega) (by omega) (by omega) (by omega)
        subst this
        refine⟨q,List.mem_append_left _ hq,by omega,?_⟩
        exact(h1.top q hq).2 ⟨p,k,by omega,p2⟩
      · exact⟨p,List.mem_append_right _ k,p1,p2⟩
theorem IsM.cons {l R:List Sn} {x:Sn} (h:IsM l R) (hf:Proper l) (hx:x.lo≤x.hi) (hb:∀ p∈l,x.hi<p.lo):IsM (x::l) (x::R) where
  sep:=by
    refine List.pairwise_cons.2 ⟨fun r hr=>?_,h.sep⟩
    obtain⟨p,hp,k⟩:=h.low r hr
    have:=hb p hp
    omega
  fit:=by
    intro p hp
    rcases List.mem_cons.1 hp with rfl|k
    · exact hx
    · exact h.fit p k
  isin p hp:=by
    rcases List.mem_cons.1 hp with rfl|k
    · exact⟨p,List.mem_cons_self,Int.le_refl _,Int.le_refl _⟩
    · obtain⟨r,hr,k⟩:=h.isin p k
      exact⟨r,List.mem_cons_of_mem _ hr,k⟩
  cov r hr c c1 c2:=by
    rcases List.mem_cons.1 hr with rfl|k
    · exact⟨r,List.mem_cons_self,c1,c2⟩
    · obtain⟨p,hp,k⟩:=h.cov r k c c1 c2
      exact⟨p,List.mem_cons_of_mem _ hp,k⟩
  low r hr:=by
    rcases List.mem_cons.1 hr with rfl|k
    · exact⟨r,List.mem_cons_self,rfl⟩
    · obtain⟨p,hp,k⟩:=h.low r k
      exact⟨p,List.mem_cons_of_mem _ hp,k⟩
  top r hr:=by
    rcases List.mem_cons.1 hr with rfl|k
    · constructor
      · intro g;exact⟨r,List.mem_cons_self,rfl,g⟩
      · rintro⟨p,hp,p1,p2⟩
        rcases List.mem_cons.1 hp with rfl|k
        · exact p2
        · have:=hb p k
          have:=hf p k
          omega
    · rw[h.top r k]
      constructor
      · rintro⟨p,hp,g⟩;exact⟨p,List.mem_cons_of_mem _ hp,g⟩
      · rintro⟨p,hp,p1,p2⟩
        rcases List.mem_cons.1 hp with rfl|k2
        · obtain⟨q,hq,q1⟩:=h.low r k
          have:=hb q hq
          have:=h.fit r k
          omega
        · exact⟨p,k2,p1,p2⟩
def meets (a b:Sn):Bool:=decide (a.lo≤b.hi)&&decide (b.lo≤a.hi)
def un (p q:Sn):Sn:=⟨min p.lo q.lo,max p.hi q.hi,(p.wk&&decide (q.hi≤p.hi))||(q.wk&&decide (p.hi≤q.hi))⟩
theorem un_lo (p q:Sn):(un p q).lo=min p.lo q.lo:=rfl
theorem un_hi (p q:Sn):(un p q).hi=max p.hi q.hi:=rfl
theorem un_wk (p q:Sn):(un p q).wk=true↔(p.wk=true∧q.hi≤p.hi)∨(q.wk=true∧p.hi≤q.hi):=by
  unfold un;simp
theorem IsM.two {p q:Sn} (hp:p.lo≤p.hi) (hq:q.lo≤q.hi) (h1:p.lo≤q.hi) (h2:q.lo≤p.hi):IsM [p,q] [un p q] where
  sep:=List.pairwise_singleton _ _
  fit:=by
    intro r hr
    rw[List.mem_singleton]at hr
    subst hr
    rw[un_lo,un_hi];omega
  isin r hr:=by
    refine⟨un p q,List.mem_singleton.2 rfl,?_⟩
    rw[un_lo,un_hi]
    simp only[List.mem_cons,List.not_mem_nil,or_false]at hr
    rcases hr with rfl|rfl
    · omega
    · omega
  cov r hr c c1 c2:=by
    rw[List.mem_singleton]at hr
    subst hr
    rw[un_lo]at c1
    rw[un_hi]at c2
    by_cases k:p.lo≤c∧c<p.hi
    · exact⟨p,by simp,k⟩
    · exact⟨q,by simp,by omega,by omega⟩
  low r hr:=by
    rw[List.mem_singleton]at hr
    subst hr
    rw[un_lo]
    by_cases k:p.lo≤q.lo
    · exact⟨p,by simp,by omega⟩
    · exact⟨q,by simp,by omega⟩
  top r hr:=by
    rw[List.mem_singleton]at hr
    subst hr
    rw[un_wk,un_hi]
    constructor
    · rintro(⟨k1,k2⟩|⟨k1,k2⟩)
      · exact⟨p,by simp,by omega,k1⟩
      · exact⟨q,by simp,by omega,k1⟩
    · rintro⟨r,hr,k1,k2⟩
      simp only[List.mem_cons,List.not_mem_nil,or_false]at hr
      rcases hr with rfl|rfl
      · exact .inl ⟨k2,by omega⟩
      · exact .inr ⟨k2,by omega⟩
theorem IsM.new {l K:List Sn} {p:Sn} (h:IsM l K) (hp:p.lo≤p.hi) (hk:∀ q∈K,q.hi<p.lo):IsM (l++[p]) (K++[p]) where
  sep:=by
    refine List.pairwise_append.2 ⟨h.sep,List.pairwise_singleton _ _,fun q hq r hr=>?_⟩
    rw[List.mem_singleton]at hr
    subst hr
    exact hk q hq
  fit:=by
    intro q hq
    rcases List.mem_append.1 hq with k|k
    · exact h.fit q k
    · rw[List.mem_singleton]at k;subst k;exact hp
  isin q hq:=by
    rcases List.mem_append.1 hq with k|k
    · obtain⟨r,hr,g⟩:=h.isin q k
      exact⟨r,List.mem_append_left _ hr,g⟩
    · rw[List.mem_singleton]at k;subst k
      exact⟨q,List.mem_append_right _ (List.mem_singleton.2 rfl),Int.le_refl _,Int.le_refl _⟩
  cov r hr c c1 c2:=by
    rcases List.mem_append.1 hr with k|k
    · obtain⟨q,hq,g⟩:=h.cov r k c c1 c2
      exact⟨q,List.mem_append_left _ hq,g⟩
    · rw[List.mem_singleton]at k;subst k
      exact⟨r,List.mem_append_right _ (List.mem_singleton.2 rfl),c1,c2⟩
  low r hr:=by
    rcases List.mem_append.1 hr with k|k
    · obtain⟨q,hq,g⟩:=h.low r k
      exact⟨q,List.mem_append_left _ hq,g⟩
    · rw[List.mem_singleton]at k;subst k
      exact⟨r,List.mem_append_right _ (List.mem_singleton.2 rfl),rfl⟩
  top r hr:=by
    rcases List.mem_append.1 hr with k|k
    · rw[h.top r k]
      constructor
      · rintro⟨q,hq,g⟩;exact⟨q,List.mem_append_left _ hq,g⟩
      · rintro⟨q,hq,g1,g2⟩
        rcases List.mem_append.1 hq with j|j
        · exact⟨q,j,g1,g2⟩
        · rw[List.mem_singleton]at j;subst j
          have:=hk r k
          omega
    · rw[List.mem_singleton]at k;subst k
      constructor
      · intro g;exact⟨r,List.mem_append_right _ (List.mem_singleton.2 rfl),rfl,g⟩
      · rintro⟨q,hq,g1,g2⟩
        rcases List.mem_append.1 hq with j|j
        · obtain⟨s,hs,s1,s2⟩:=h.isin q j
          have:=hk s hs
          omega
        · rw[List.mem_singleton]at j;subst j;exact g2
theorem IsM.fold {l K:List Sn} {p q:Sn} (hf:Proper l) (h:IsM l (K++[q])) (hp:p.lo≤p.hi) (hr:q.lo≤p.lo) (hm:p.lo≤q.hi):IsM (l++[p]) (K++[un q p]):=by
  have hq:=h.fit q (List.mem_append_right _ (List.mem_singleton.2 rfl))
  have hs:=List.pairwise_append.1 h.sep
  refine IsM.parts hf h ?_
  have hsep:Sep (K++[un q p]):=by
    refine List.pairwise_append.2 ⟨hs.1,List.pairwise_singleton _ _,fun a ha b hb=>?_⟩
    rw[List.mem_singleton]at hb
    subst hb
    have:=hs.2.2 a ha q (List.mem_singleton.2 rfl)
    rw[un_lo];omega
  have hfit:Proper (K++[un q p]):=by
    intro a ha
    rcases List.mem_append.1 ha with k|k
    · exact h.fit a (List.mem_append_left _ k)
    · rw[List.mem_singleton]at k;subst k
      rw[un_lo,un_hi];omega
  have t:=IsM.parts (a:=[q,p]) (P:=[un q p]) (b:=K) (R:=K++[un q p]) (by
    intro a ha
    simp only[List.mem_cons,List.not_mem_nil,or_false]at ha
    rcases ha with rfl|rfl
    · exact hq
    · exact hp) (IsM.two hq hp (by omega) (by omega)) ((IsM.self hsep hfit).congr fun a=>by simp[or_comm])
  exact t.congr fun a=>by
    simp only[List.mem_append,List.mem_cons,List.not_mem_nil,or_false]
    constructor
    · rintro((h|h)|h) <;> simp[h]
    · rintro((h|h)|h) <;> simp[h]
def putS:Sn→List Sn→Bool→List Sn
  | s,[],dn=>if dn then []else [s]
  | s,x::l,dn=>if meets x s then putS (un x s) l dn else if !dn&&decide (s.hi<x.lo)then s::x::putS s l true else x::putS s l dn
theorem putGo_above:∀ (s:Sn) (l:List Sn),(∀ x∈l,s.hi<x.lo)→putS s l true=l
  | s,[],_=>rfl
  | s,x::l,h=>by
    have h1:=h x List.mem_cons_self
    have e:meets x s=false:=by unfold meets;simp;omega
    unfold putS
    rw[e,putGo_above s l fun y hy=>h y (List.mem_cons_of_mem _ hy)]
    simp
theorem putS_len:∀ (s:Sn) (l:List Sn) (dn:Bool),(putS s l dn).length≤l.length+1
  | s,[],dn=>by unfold putS;split <;> simp
  | s,x::l,dn=>by
    unfold putS
    split
    · have:=putS_len (un x s) l dn;simp;omega
    · split
      · have:=putGo_len' s l
        simp;omega
      · have:=putS_len s l dn;simp;omega
where
  putGo_len':∀ (s:Sn) (l:List Sn),(putS s l true).length≤l.length
    | s,[]=>by simp[putS]
    | s,x::l=>by
      unfold putS
      split
      · have:=putGo_len' (un x s) l;simp;omega
      · have:=putGo_len' s l;simp;omega
theorem putGo_is:∀ (R:List Sn) (s:Sn),Sep R→Proper R→s.lo≤s.hi→IsM (R++[s]) (putS s R false)
  | [],s,_,_,hs=>by
    unfold putS
    exact IsM.self (List.pairwise_singleton _ _) (by intro p hp;rw[List.nil_append,List.mem_singleton]at hp;subst hp;exact hs)
  | x::R,s,hR,hF,hs=>by
    have hc:=List.pairwise_cons.1 hR
    have hx:=hF x List.mem_cons_self
    have hF':Proper R:=fun p hp=>hF p (List.mem_cons_of_mem _ hp)
    by_cases hm:meets x s=true
    · have e:putS s (x::R) false=putS (un x s) R false:=by rw[putS,if_pos hm]
      rw[e]
      have hm':=hm
      unfold meets at hm'
      simp only[Bool.and_eq_true,decide_eq_true_eq]at hm'
      have i:=putGo_is R (un x s) hc.2 hF' (by rw[un_lo,un_hi];omega)
      have t:=IsM.parts (a:=[x,s]) (P:=[un x s]) (b:=R) (by
        intro a ha
        simp only[List.mem_cons,List.not_mem_nil,or_false]at ha
        rcases ha with rfl|rfl
        · exact hx
        · exact hs) (IsM.two hx hs hm'.1 hm'.2) (i.congr fun a=>by simp[or_comm])
      exact t.congr fun a=>by
        simp only[List.mem_append,List.mem_cons,List.not_mem_nil,or_false]
        constructor
        · rintro((h|h)|h) <;> simp[h]
        · rintro((h|h)|h) <;> simp[h]
    · have hm2:meets x s=false:=by cases g:meets x s;rfl;exact absurd g hm
      have hm':=hm2
      unfold meets at hm'
      simp only[Bool.and_eq_false_iff,decide_eq_false_iff_not]at hm'
      by_cases hlt:s.hi<x.lo
      · have e:putS s (x::R) false=s::x::putS s R true:=by rw[putS,hm2];simp[hlt]
        have hab:∀ y∈R,s.hi<y.lo:=fun y hy=>by have:=hc.1 y hy;omega
        rw[e,putGo_above s R hab]
        refine(IsM.self (R:=s::x::R) ?_ ?_).congr fun a=>by
          simp only[List.mem_append,List.mem_cons,List.not_mem_nil,or_false]
          constructor
          · rintro((h|h)|h) <;> simp[h]
          · rintro(h|h|h) <;> simp[h]
        · refine List.pairwise_cons.2 ⟨fun y hy=>?_,hR⟩
          rcases List.mem_cons.1 hy with rfl|k
          · exact hlt
          · exact hab y k
        · intro p hp
          rcases List.mem_cons.1 hp with rfl|k
          · exact hs
          · exact hF p k
      · have e:putS s (x::R) false=x::putS s R false:=by rw[putS,hm2];simp[hlt]
        rw[e]
        refine IsM.cons (l:=R++[s]) (putGo_is R s hc.2 hF' hs) ?_ hx ?_
        · intro p hp
          rcases List.mem_append.1 hp with k|k
          · exact hF' p k
          · rw[List.mem_singleton]at k;subst k;exact hs
        · intro p hp
          rcases List.mem_append.1 hp with k|k
          · exact hc.1 p k
          · rw[List.mem_singleton]at k;subst k;omega
theorem IsM.put {l R:List Sn} {s:Sn} (hf:Proper l) (h:IsM l R) (hs:s.lo≤s.hi):IsM (l++[s]) (putS s R false) :=
  IsM.parts hf h (putGo_is R s h.sep h.fit hs)
end Go.Proofs.YtmhghnbgllaihaaGreatDoor

namespace Go.Proofs.YtmhghnbgllaihaaGreatDoor
open Go.RowKit
set_option linter.unusedVariables false
def badS (p:Sn):Bool:=decide (p.lo < -2048)||decide (p.hi<p.lo)||decide (2048<p.hi)
theorem badS_not (p:Sn):badS p=false ↔ -2048≤p.lo∧p.lo≤p.hi∧p.hi≤2048:=by
  unfold badS
  simp only[Bool.or_eq_false_iff,decide_eq_false_iff_not]
  omega
def fstB (f:Sn→Bool) (l:List Sn):Bool:=l.any f
def fstI (f:Sn→Bool) (l:List Sn):Int:=if l.any f=true then (l.findIdx f:Int)else 0
theorem fst_hit {f:Sn→Bool} {l:List Sn} {i:Nat} (h:i<l.length) (hf:f l[i]=true) (hb:∀ k (hk:k<l.length),k<i→f l[k]=false):fstB f l=true∧fstI f l=i:=by
  have h1:l.any f=true:=List.any_eq_true.2 ⟨_,List.getElem_mem h,hf⟩
  have h2:l.findIdx f=i:=(List.findIdx_eq h).2 ⟨hf,fun j hj=>hb j (by omega) hj⟩
  unfold fstB fstI
  rw[h1,h2]
  simp
theorem fst_none {f:Sn→Bool} {l:List Sn} (hb:∀ k (hk:k<l.length),f l[k]=false):fstB f l=false∧fstI f l=0:=by
  have h1:l.any f=false:=by
    rw[List.any_eq_false]
    intro x hx
    obtain⟨i,hi,rfl⟩:=List.getElem_of_mem hx
    rw[hb i hi];simp
  unfold fstB fstI
  rw[h1]
  simp
set_option maxHeartbeats 1000000 in
theorem k_bad (p:Sn) (w:World):Calls Tryz.prog 232 #[.agg #[.int .i64 p.lo,.int .i64 p.hi,.bool p.wk]] w fun e w'=>e=.returned (.bool (badS p))∧New w w':=by
  unfold badS
  obtain⟨a,b,c⟩:=p
  simp only
  go_enter Tryz.func232,Tryz.ntmps232
  go_wp2_with fail
  all_goals
    go_ret
    exact⟨rfl,by exact nw⟩
set_option maxHeartbeats 2000000 in
set_option maxRecDepth 100000 in
theorem k_firstBad (at0:Option Addr) (l:List Sn) (c:Nat) (hl:l.length≤maxLen) (w:World) (H:RowIn Sn.enc 3 w at0 l) :
    Calls Tryz.prog 231 #[.slice at0 l.length c,.func (.func 232) #[] #[]] w fun e w'=>e=.returned (.tuple #[.int .i64 (fstI (badS) l),.bool (fstB (badS) l)])∧New w w':=by
  have HI:=Lib.hid (fun x W (n:New w W)=>k_bad x W)
  obtain⟨z,hz⟩:∃ z,z=fstI (badS) l:=⟨_,rfl⟩
  obtain⟨b,hb⟩:∃ b,b=fstB (badS) l:=⟨_,rfl⟩
  rw[←hz,←hb]
  have HZ:=Lib.hid (And.intro hz hb)
  have HH:=Lib.hid H
  unfold maxLen at hl
  clear hz hb H
  go_enter Tryz.func231,Tryz.ntmps231
  go_wp2_with fail
  go_loopg [10] l.length (fun k s wr=>∃ i:Nat,s=.int .i64 i∧i+k=l.length∧Hid (∀ j (hj:j<l.length),j<i→(badS) l[j]=false)∧Hid (New w wr))
  case atStart=>exact⟨0,by simp,by omega,Lib.hid (fun _ _ h=>absurd h (by omega)),Lib.hid (New.refl _)⟩
  case round =>
    obtain⟨i,rfl,hik,HNO,hn⟩:=hrel
    by_cases hlt:i<l.length
    · obtain⟨b0,off,rfl,hA⟩:=HH.out (by omega)
      have hA':=hA.keep hn.out
      obtain⟨c0,c1,c2⟩:=Sn.cells hA' i hlt
      clear hA hA'
      cases he:(badS) l[i]
      · have HC:=Lib.hid (fun W n=>by have q:=HI.out l[i] W n;rw[he]at q;exact q:∀ W,New w W→Calls Tryz.prog 232 #[.agg #[.int .i64 l[i].lo,.int .i64 l[i].hi,.bool l[i].wk]] W fun e w'=>e=.returned (.bool false)∧New W w')
        have HE:=Lib.hid he
        clear he HI
        go_wp2_with fail
        refine(HC.out _ (hn.out.trans (by exact nw))).mono ?_
        rintro e W1 ⟨rfl,n1⟩
        have n2:=Lib.hid (hn.out.trans (New.trans (by exact nw) n1))
        clear n1
        go_wp2_with fail
        go_roundg (gk - 1)
        case measure=>omega
        case rel =>
          refine⟨i+1,by go_num,by omega,Lib.hid (fun j hj hji=>?_),n2⟩
          by_cases h:j<i
          · exact HNO.out j hj h
          · obtain rfl:j=i:=by omega
            exact HE.out
      · have HC:=Lib.hid (fun W n=>by have q:=HI.out l[i] W n;rw[he]at q;exact q:∀ W,New w W→Calls Tryz.prog 232 #[.agg #[.int .i64 l[i].lo,.int .i64 l[i].hi,.bool l[i].wk]] W fun e w'=>e=.returned (.bool true)∧New W w')
        have HE:Hid (b=true∧z=i):=Lib.hid (by rw[HZ.out.1,HZ.out.2];exact fst_hit hlt he (fun k hk hki=>HNO.out k hk hki))
        clear he HI
        go_wp2_with fail
        refine(HC.out _ (hn.out.trans (by exact nw))).mono ?_
        rintro e W1 ⟨rfl,n1⟩
        have n2:=Lib.hid (hn.out.trans (New.trans (by exact nw) n1))
        clear n1
        go_wp2_with fail
        rw[HE.out.1,HE.out.2]
        refine bodyPost_ret (v:=.tuple #[.int .i64 i,.bool true]) (by simp[results,Tryz.results231,go_sem, *]) rfl ?_
        exact⟨rfl,n2.out⟩
    · have HE:Hid (b=false∧z=0):=Lib.hid (by rw[HZ.out.1,HZ.out.2];exact fst_none (fun k hk=>HNO.out k hk (by omega)))
      go_wp2_with fail
      rw[HE.out.1,HE.out.2]
      refine bodyPost_ret (v:=.tuple #[.int .i64 0,.bool false]) (by simp[results,Tryz.results231,go_sem, *]) rfl ?_
      exact⟨rfl,hn.out⟩
set_option maxHeartbeats 1000000 in
theorem k_pieces (at0:Option Addr) (l:List Sn) (c:Nat) (hl:l.length≤maxLen) (w:World) (H:RowIn Sn.enc 3 w at0 l) :
    Calls Tryz.prog 198 #[.slice at0 l.length c] w fun e w'=>e=.returned (.bool (!fstB badS l))∧New w w':=by
  have HC:=Lib.hid (fun W n=>k_firstBad at0 l c hl W (H.keep (n:New w W)))
  clear H hl
  generalize fstB badS l=b at *
  generalize fstI badS l=z at *
  go_enter Tryz.func198,Tryz.ntmps198
  go_wp2_with fail
  refine(HC.out _ (by exact nw)).mono ?_
  rintro e W1 ⟨rfl,n1⟩
  have hn:New w W1:=New.trans (by exact nw) n1
  clear n1
  go_wp2_with fail
  go_ret
  exact⟨rfl,hn⟩
end Go.Proofs.YtmhghnbgllaihaaGreatDoor

namespace Go.Proofs.YtmhghnbgllaihaaGreatDoor
open Go.RowKit
set_option linter.unusedVariables false
set_option linter.unusedSimpArgs false
set_option maxHeartbeats 2000000 in
theorem k_union (p q:Sn) (w:World):Calls Tryz.prog 236 #[.agg #[.int .i64 p.lo,.int .i64 p.hi,.bool p.wk],.agg #[.int .i64 q.lo,.int .i64 q.hi,.bool q.wk]] w fun e w'=>e=.returned (.agg #[.int .i64 (un p q).lo,.int .i64 (un p q).hi,.bool (un p q).wk])∧New w w':=by
  unfold un
  obtain⟨a,b,c⟩:=p
  obtain⟨d,e,f⟩:=q
  simp only
  obtain⟨t1,ht1⟩:∃ t,t=decide (e≤b):=⟨_,rfl⟩
  obtain⟨t2,ht2⟩:∃ t,t=decide (b≤e):=⟨_,rfl⟩
  have h1:=ht1.symm
  have h2:=ht2.symm
  rw[h1,h2]
  clear ht1 ht2
  go_enter Tryz.func236,Tryz.ntmps236
  cases c <;> cases f <;> cases t1 <;> cases t2
  all_goals
    go_wp2_with fail
    simp only[Bool.false_and,Bool.true_and,Bool.and_false,Bool.and_true,Bool.false_or,Bool.true_or,Bool.or_false,Bool.or_true]
    first
    | (refine bodyPost_ret (v:=.agg #[.int .i64 (min a d),.int .i64 (max b e),.bool true]) (by simp[results,Tryz.results236,go_sem, *]) rfl ?_;exact⟨rfl,by exact nw⟩)
    | (refine bodyPost_ret (v:=.agg #[.int .i64 (min a d),.int .i64 (max b e),.bool false]) (by simp[results,Tryz.results236,go_sem, *]) rfl ?_;exact⟨rfl,by exact nw⟩)
end Go.Proofs.YtmhghnbgllaihaaGreatDoor

namespace Go.Proofs.YtmhghnbgllaihaaGreatDoor
open Go.RowKit
theorem wrap64_in {n:Int} (h : -9223372036854775808≤n∧n≤9223372036854775807):wrap64 n=n:=by
  unfold wrap64;omega
theorem tdiv_bd (a b:Int) (ha : -2305843009213693952≤a∧a≤2305843009213693952) :
    -2305843009213693952≤a.tdiv b∧a.tdiv b≤2305843009213693952:=by
  have:=Int.natAbs_tdiv_le_natAbs a b
  omega
theorem fdiv_exact {a b:Int} (h:a.tmod b=0):a.fdiv b=a.tdiv b:=by
  rw[Int.fdiv_eq_tdiv,if_pos (Int.dvd_of_tmod_eq_zero h)];omega
theorem fdiv_down {a b:Int} (hb:b≠0) (h:¬ a.tmod b=0) (hs:(!decide (a<0)==decide (b<0))=true) :
    a.fdiv b=a.tdiv b - 1:=by
  rw[Int.fdiv_eq_tdiv,if_neg (fun h'=>h (Int.dvd_iff_tmod_eq_zero.mp h'))]
  rcases Int.lt_trichotomy b 0 with hb'|hb'|hb'
  · rw[Int.sign_eq_neg_one_of_neg hb']
    have:0≤a:=by simp at hs;omega
    simp[this];omega
  · exact absurd hb' hb
  · rw[Int.sign_eq_one_of_pos hb']
    have:¬ 0≤a:=by simp at hs;omega
    have hb2:0≤b:=by omega
    simp[this,hb2]
theorem fdiv_same {a b:Int} (hb:b≠0) (hs:(!decide (a<0)==decide (b<0))=false) :
    a.fdiv b=a.tdiv b:=by
  by_cases h:a.tmod b=0
  · exact fdiv_exact h
  rw[Int.fdiv_eq_tdiv,if_neg (fun h'=>h (Int.dvd_iff_tmod_eq_zero.mp h'))]
  rcases Int.lt_trichotomy b 0 with hb'|hb'|hb'
  · rw[Int.sign_eq_neg_one_of_neg hb']
    have h1:¬ 0≤a:=by simp at hs;omega
    have h2:¬ 0≤b:=by omega
    simp[h1,h2]
  · exact absurd hb' hb
  · rw[Int.sign_eq_one_of_pos hb']
    have h1:0≤a:=by simp at hs;omega
    have hb2:0≤b:=by omega
    simp[h1,hb2]
theorem fdiv_bd (a b:Int) (hb:b≠0) (ha : -2305843009213693952≤a∧a≤2305843009213693952) :
    -2305843009213693953≤a.fdiv b∧a.fdiv b≤2305843009213693952:=by
  have ht:=tdiv_bd a b ha
  by_cases h:a.tmod b=0
  · rw[fdiv_exact h];omega
  · by_cases hs:(!decide (a<0)==decide (b<0))=true
    · rw[fdiv_down hb h hs];omega
    · rw[fdiv_same hb (by simpa using hs)];omega
end Go.Proofs.YtmhghnbgllaihaaGreatDoor
