import Derived.Test.YtmhghnbgllaihaaGreatDoorRaEP2Z2
import Derived.Test.YtmhghnbgllaihaaGreatDoorSoETP2Z2
import Derived.Test.YtmhghnbgllaihaaGreatDoorRaAP2Z2
import Derived.Test.YtmhghnbgllaihaaGreatDoorRaCP2Z2
import Derived.Shelf.Abstract
import Derived.Shelf.RegionOpen
import Derived.WalkKit
import Derived.OwnWalkIn
import Derived.TacticsInMore
import Derived.LoopNIn
import Derived.LoopIn
import Derived.Sort.WalkA
import Derived.Deep.Quiet
import Derived.BigQuiet
import Derived.OwnWalk
set_option linter.unusedVariables false
set_option maxHeartbeats 16000000
set_option maxRecDepth 100000

namespace Go.Proofs.YtmhghnbgllaihaaGreatDoor
open Go.RowKit
def dxD (d:Int):Int:=if d=0 then 1 else if d=2 then -1 else 0
def dzD (d:Int):Int:=if d=1 then 1 else if d=3 then -1 else 0
def okD (d:Int):Bool:=wiB d 0 3
theorem okD_cases {d:Int} (h:okD d=true):d=0∨d=1∨d=2∨d=3:=by
 have:=wiB_iff.1 h
 omega
theorem dxD_small (d:Int) : -1≤dxD d∧dxD d≤1:=by unfold dxD;split;omega;split <;> omega
theorem dzD_small (d:Int) : -1≤dzD d∧dzD d≤1:=by unfold dzD;split;omega;split <;> omega
theorem okD_off {d:Int} (h:okD d=false):dxD d=0∧dzD d=0:=by
 have:=wiB_not.1 h
 unfold dxD dzD
 rw[if_neg (by omega),if_neg (by omega),if_neg (by omega),if_neg (by omega)]
 exact⟨rfl,rfl⟩
def backD (d:Int):Int:=Int.tmod (d+2) 4
theorem backD_ok {d:Int} (h:okD d=true):okD (backD d)=true∧dxD (backD d) = - dxD d∧dzD (backD d) = - dzD d:=by
 rcases okD_cases h with rfl|rfl|rfl|rfl <;> exact⟨by decide,by decide,by decide⟩
def farB (n:Int):Bool:=wiB n (-1099511627776) 1099511627776
def lkB (C:CfgR) (a b:Fl):Bool:=(farB a.y&&(farB a.top&&(farB b.y&&farB b.top)))&&(decide (0<a.area)&&(decide (0<b.area)&&(decide (max a.y b.y - min a.y b.y≤C.cb)&&decide (C.ht≤min a.top b.top - max a.y b.y))))
theorem lkB_iff {C:CfgR} {a b:Fl}:lkB C a b=true↔((-1099511627776≤a.y∧a.y≤1099511627776)∧(-1099511627776≤a.top∧a.top≤1099511627776)∧(-1099511627776≤b.y∧b.y≤1099511627776) ∧ -1099511627776≤b.top∧b.top≤1099511627776)∧0<a.area∧0<b.area∧max a.y b.y - min a.y b.y≤C.cb∧C.ht≤min a.top b.top - max a.y b.y:=by
 unfold lkB farB
 simp only[Bool.and_eq_true,wiB_iff,decide_eq_true_eq]
theorem lkB_comm (C:CfgR) (a b:Fl):lkB C a b=lkB C b a:=by
 rw[Bool.eq_iff_iff,lkB_iff,lkB_iff]
 constructor <;> (intro h;omega)
theorem fine_step {C:CfgR} (h:C.err=0):0≤C.cb∧C.cb+1≤C.ht∧C.ht≤32:=by
 unfold CfgR.err checkE checkB at h
 split at h
 ·rename_i h2
  simp only[Bool.and_eq_true,decide_eq_true_eq]at h2
  omega
 ·cases h
theorem err_or (C:CfgR):C.err=0∨C.err=20:=by unfold CfgR.err checkE;split <;> simp
structure Sdk where
 (x z k:Int)
instance:Inhabited Sdk:=⟨⟨0,0,0⟩⟩
def Sdk.zero:Sdk:=⟨0,0,0⟩
def Sdk.eqB (a b:Sdk):Bool:=a.x==b.x&&a.z==b.z&&a.k==b.k
theorem Sdk.eqB_iff (a b:Sdk):a.eqB b=true↔a=b:=by
 obtain⟨a0,a1,a2⟩:=a
 obtain⟨b0,b1,b2⟩:=b
 simp[Sdk.eqB,and_assoc]
instance:DecidableEq Sdk:=fun a b=>decidable_of_iff _ (Sdk.eqB_iff a b)
def sdO (o:Option Sdk):Sdk:=o.getD Sdk.zero
def flG (G:Gd) (s:Sdk):Option Fl:=if 0≤s.k then (atG G s.x s.z)[s.k.toNat]? else none
theorem flG_none {G:Gd} {s:Sdk} (h:¬ (0≤s.k∧s.k<(atG G s.x s.z).length)):flG G s=none:=by
 unfold flG
 split
 ·rw[List.getElem?_eq_none (by omega)]
 ·rfl
theorem flG_some {G:Gd} {s:Sdk} {k:Nat} (e:s.k=k) (h:k<(atG G s.x s.z).length):flG G s=some (atG G s.x s.z)[k]:=by
 unfold flG
 rw[if_pos (by omega),show s.k.toNat=k by omega,List.getElem?_eq_getElem h]
theorem flG_is {G:Gd} {s:Sdk} {a:Fl} (h:flG G s=some a):∃ k:Nat,s.k=k∧∃ h:k<(atG G s.x s.z).length,a=(atG G s.x s.z)[k]:=by
 unfold flG at h
 split at h
 ·obtain⟨h1,h2⟩:=List.getElem?_eq_some_iff.1 h
  exact⟨s.k.toNat,by omega,h1,h2.symm⟩
 ·cases h
theorem flG_in {G:Gd} {s:Sdk} {a:Fl} (h:flG G s=some a):inG G s.x s.z=true:=by
 cases q:inG G s.x s.z
 ·obtain⟨k,-,hk,-⟩:=flG_is h
  rw[atG_out q]at hk
  cases hk
 ·rfl
def toS (C:CfgR) (G:Gd) (s:Sdk) (d:Int):Option Sdk:=match flG G s with
 | some a=>if okD d=true then ((atG G (s.x+dxD d) (s.z+dzD d)).findIdx? (lkB C a)).map (fun n:Nat=>(⟨s.x+dxD d,s.z+dzD d,n⟩:Sdk))else none
 | none=>none
theorem toS_floor {C:CfgR} {G:Gd} {s:Sdk} (h:flG G s=none) (d:Int):toS C G s d=none:=by unfold toS;rw[h]
theorem toS_dir {C:CfgR} {G:Gd} {s:Sdk} {d:Int} (h:okD d=false):toS C G s d=none:=by unfold toS;split;rw[if_neg (by rw[h];simp)];rfl
theorem toS_hit {C:CfgR} {G:Gd} {s:Sdk} {d:Int} {a:Fl} {l:List Fl} (h:flG G s=some a) (hd:okD d=true) (hl:l=atG G (s.x+dxD d) (s.z+dzD d)) {i:Nat} (hi:i<l.length) (h1:lkB C a l[i]=true) (h2:∀ j (hj:j<l.length),j<i→lkB C a l[j]=false):toS C G s d=some ⟨s.x+dxD d,s.z+dzD d,i⟩:=by
 unfold toS
 rw[h]
 simp only
 rw[if_pos hd,←hl,List.findIdx?_eq_some_iff_getElem.2 ⟨hi,h1,fun j hj=>by rw[h2 j (by omega) hj];simp⟩]
 rfl
theorem toS_miss {C:CfgR} {G:Gd} {s:Sdk} {d:Int} {a:Fl} {l:List Fl} (h:flG G s=some a) (hd:okD d=true) (hl:l=atG G (s.x+dxD d) (s.z+dzD d)) (h2:∀ j (hj:j<l.length),lkB C a l[j]=false):toS C G s d=none:=by
 unfold toS
 rw[h]
 simp only
 rw[if_pos hd,←hl,List.findIdx?_eq_none_iff.2 (fun x hx=>by obtain⟨j,hj,rfl⟩:=List.getElem_of_mem hx;exact h2 j hj)]
 rfl
theorem toS_is {C:CfgR} {G:Gd} {s t:Sdk} {d:Int} (h:toS C G s d=some t):okD d=true∧∃ a b,flG G s=some a∧flG G t=some b∧lkB C a b=true∧t.x=s.x+dxD d∧t.z=s.z+dzD d:=by
 unfold toS at h
 split at h
 ·rename_i a ha
  split at h
  ·rename_i hd
   obtain⟨n,hn,rfl⟩:=Option.map_eq_some_iff.1 h
   obtain⟨hi,h1,h2⟩:=List.findIdx?_eq_some_iff_getElem.1 hn
   exact⟨hd,a,_,ha,flG_some rfl hi,h1,rfl,rfl⟩
  ·cases h
 ·cases h
theorem rise_top {l:List Fl} (h:riseB l=true) {i j:Nat} (hij:i<j) (hj:j<l.length):l[i].top≤l[j].y:=by
 unfold riseB at h
 simp only[Bool.and_eq_true,decide_eq_true_eq,List.all_eq_true]at h
 have one:∀ k (hk:k<l.length),(leastAt l k≤l[k].y)∧l[k].y<l[k].top:=fun k hk=>by
  have h2:=h.2 k (List.mem_range.2 hk)
  rw[okAt_at hk]at h2
  unfold okF at h2
  simp only[Bool.and_eq_true,wiB_iff]at h2
  omega
 have go:∀ n (hn:i+1+n<l.length),l[i].top≤l[i+1+n].y:=fun n=>by
  induction n with
  | zero =>
   intro hn
   have h1:=(one (i+1) hn).1
   rw[leastAt_succ (by omega)]at h1
   exact h1
  | succ n ih =>
   intro hn
   have h0:=ih (by omega)
   have h1:=one (i+1+n) (by omega)
   have h2:=(one (i+1+n+1) (by omega)).1
   rw[leastAt_succ (by omega)]at h2
   show l[i].top≤l[i+1+n+1].y
   omega
 have:=go (j - (i+1)) (by omega)
 have e:i+1+(j - (i+1))=j:=by omega
 simp only[e]at this
 exact this
theorem lk_one {C:CfgR} (hC:C.err=0) {l:List Fl} (h:riseB l=true) {a:Fl} {i j:Nat} (hi:i<l.length) (hj:j<l.length) (h1:lkB C a l[i]=true) (h2:lkB C a l[j]=true):i=j:=by
 have hs:=fine_step hC
 have p1:=lkB_iff.1 h1
 have p2:=lkB_iff.1 h2
 rcases Nat.lt_trichotomy i j with q|q|q
 ·have:=rise_top h q hj
  omega
 ·exact q
 ·have:=rise_top h q hi
  omega
theorem at_rise {G:Gd} (hE:gE G=0) (x z:Int):riseB (atG G x z)=true:=by
 cases h:inG G x z
 ·rw[atG_out h];rfl
 ·rw[atG_in hE h];exact(gd_is hE).2.2 _ _
theorem toS_of {C:CfgR} {G:Gd} (hC:C.err=0) (hE:gE G=0) {s t:Sdk} {d:Int} {a b:Fl} (hd:okD d=true) (h1:flG G s=some a) (h2:flG G t=some b) (h3:lkB C a b=true) (hx:t.x=s.x+dxD d) (hz:t.z=s.z+dzD d):toS C G s d=some t:=by
 obtain⟨k,hk,hkl,rfl⟩:=flG_is h2
 have e:atG G (s.x+dxD d) (s.z+dzD d)=atG G t.x t.z:=by rw[hx,hz]
 have:=toS_hit (C:=C) (l:=atG G t.x t.z) h1 hd e.symm hkl h3 (fun j hj hjk=>by
  cases q:lkB C a (atG G t.x t.z)[j]
  ·rfl
  ·exact absurd (lk_one hC (at_rise hE t.x t.z) hj hkl q h3) (by omega))
 rw[this]
 obtain⟨tx,tz,tk⟩:=t
 simp only at hx hz hk
 subst hx hz hk
 rfl
theorem toS_back {C:CfgR} {G:Gd} (hC:C.err=0) (hE:gE G=0) {s t:Sdk} {d:Int} (h:toS C G s d=some t):toS C G t (backD d)=some s:=by
 obtain⟨hd,a,b,ha,hb,hl,hx,hz⟩:=toS_is h
 obtain⟨k1,k2,k3⟩:=backD_ok hd
 exact toS_of hC hE k1 hb ha (by rw[lkB_comm];exact hl) (by omega) (by omega)
def rndS (C:CfgR) (G:Gd) (s:Sdk) (d e:Int):Option Sdk:=match toS C G s d with
 | some m=>toS C G m e
 | none=>none
def axB (d e:Int):Bool:=dxD d==0&&dxD e==0 || !(dxD d==0) && !(dxD e==0)
def diaS (C:CfgR) (G:Gd) (s:Sdk) (d e:Int):Option Sdk:=if okD d=true∧okD e=true∧axB d e=false then (match rndS C G s d e,rndS C G s e d with
 | some t,some u=>if t=u then some t else none
 | _,_=>none)else none
theorem rndS_dir {C:CfgR} {G:Gd} {s:Sdk} {d e:Int} (h:okD d=false∨okD e=false):rndS C G s d e=none:=by
 unfold rndS
 rcases h with h|h
 ·rw[toS_dir h]
 ·split
  ·exact toS_dir h
  ·rfl
theorem diaS_rnd {C:CfgR} {G:Gd} {s:Sdk} {d e:Int} (h:okD d=true→okD e=true→axB d e=false):diaS C G s d e=match rndS C G s d e,rndS C G s e d with
 | some t,some u=>if t=u then some t else none
 | _,_=>none:=by
 unfold diaS
 by_cases hd:okD d=true
 ·by_cases he:okD e=true
  ·rw[if_pos ⟨hd,he,h hd he⟩]
  ·rw[if_neg (fun q=>he q.2.1),rndS_dir (.inr (by simpa using he))]
 ·rw[if_neg (fun q=>hd q.1),rndS_dir (.inl (by simpa using hd))]
theorem diaS_is {C:CfgR} {G:Gd} {s t:Sdk} {d e:Int} (h:diaS C G s d e=some t):(okD d=true∧okD e=true∧axB d e=false)∧rndS C G s d e=some t∧rndS C G s e d=some t:=by
 unfold diaS at h
 split at h
 ·rename_i h1
  refine⟨h1,?_⟩
  split at h
  ·rename_i t' u e1 e2
   split at h
   ·rename_i e3
    subst e3
    cases h
    exact⟨e1,e2⟩
   ·cases h
  ·cases h
 ·cases h
theorem diaS_of {C:CfgR} {G:Gd} {s t:Sdk} {d e:Int} (h:okD d=true∧okD e=true∧axB d e=false) (h1:rndS C G s d e=some t) (h2:rndS C G s e d=some t):diaS C G s d e=some t:=by
 unfold diaS
 rw[if_pos h,h1,h2]
 simp
theorem rndS_is {C:CfgR} {G:Gd} {s t:Sdk} {d e:Int} (h:rndS C G s d e=some t):∃ m,toS C G s d=some m∧toS C G m e=some t:=by
 unfold rndS at h
 split at h
 ·rename_i m hm
  exact⟨m,hm,h⟩
 ·cases h
theorem rndS_of {C:CfgR} {G:Gd} {s m t:Sdk} {d e:Int} (h1:toS C G s d=some m) (h2:toS C G m e=some t):rndS C G s d e=some t:=by unfold rndS;rw[h1];exact h2
theorem axB_back {d e:Int} (hd:okD d=true) (he:okD e=true) (h:axB d e=false):axB (backD d) (backD e)=false∧axB e d=false:=by
 rcases okD_cases hd with rfl|rfl|rfl|rfl <;> rcases okD_cases he with rfl|rfl|rfl|rfl <;> first|(exact absurd h (by decide))|exact⟨by decide,by decide⟩
theorem diaS_back {C:CfgR} {G:Gd} (hC:C.err=0) (hE:gE G=0) {s t:Sdk} {d e:Int} (h:diaS C G s d e=some t):diaS C G t (backD d) (backD e)=some s∧diaS C G s e d=some t:=by
 obtain⟨⟨hd,he,ha⟩,h1,h2⟩:=diaS_is h
 obtain⟨m,a1,a2⟩:=rndS_is h1
 obtain⟨n,b1,b2⟩:=rndS_is h2
 obtain⟨k1,k2⟩:=axB_back hd he ha
 exact⟨diaS_of ⟨(backD_ok hd).1,(backD_ok he).1,k1⟩ (rndS_of (toS_back hC hE b2) (toS_back hC hE b1)) (rndS_of (toS_back hC hE a2) (toS_back hC hE a1)),diaS_of ⟨he,hd,k2⟩ h2 h1⟩
def nB (b:Bool):Int:=if b=true then 1 else 0
def nextD (d:Int):Int:=Int.tmod (d+1) 4
structure Lnk where
 (a b c d:Int)
instance:Inhabited Lnk:=⟨⟨0,0,0,0⟩⟩
def Lnk.enc (x:Lnk):List Value:=#[.int .i64 x.a,.int .i64 x.b,.int .i64 x.c,.int .i64 x.d].toList
theorem Lnk.enc_len (x:Lnk):x.enc.length=4:=rfl
theorem Lnk.enc_one (x:Lnk):∀ u∈x.enc,u.oneCell'=true:=by
 intro u hu
 simp[Lnk.enc]at hu
 rcases hu with rfl|rfl|rfl|rfl <;> rfl
def Lnk.eqB (a b:Lnk):Bool:=a.a==b.a&&a.b==b.b&&a.c==b.c&&a.d==b.d
theorem Lnk.eqB_iff (a b:Lnk):a.eqB b=true↔a=b:=by
 obtain⟨a0,a1,a2,a3⟩:=a
 obtain⟨b0,b1,b2,b3⟩:=b
 simp[Lnk.eqB,and_assoc]
instance:DecidableEq Lnk:=fun a b=>decidable_of_iff _ (Lnk.eqB_iff a b)
theorem Lnk.cells {w:World} {b off:Nat} {l:List Lnk} (H:RowAt Lnk.enc 4 w b off l) (j:Nat) (h:j<l.length) :
  w.cell? ⟨b,off+j*4,none⟩=some (.int .i64 l[j].a)∧w.cell? ⟨b,off+j*4+1,none⟩=some (.int .i64 l[j].b)∧w.cell? ⟨b,off+j*4+2,none⟩=some (.int .i64 l[j].c)∧w.cell? ⟨b,off+j*4+3,none⟩=some (.int .i64 l[j].d) :=
 ⟨H j h 0 (by rw[Lnk.enc_len];omega),H j h 1 (by rw[Lnk.enc_len];omega),H j h 2 (by rw[Lnk.enc_len];omega),H j h 3 (by rw[Lnk.enc_len];omega)⟩
def oneL (o:Option Sdk):Int:=match o with
 | some t=>t.k
 | none => -1
def lkS (C:CfgR) (G:Gd) (s:Sdk):Lnk:=⟨oneL (toS C G s 0),oneL (toS C G s 1),oneL (toS C G s 2),oneL (toS C G s 3)⟩
def sdI (G:Gd) (i k:Nat):Sdk:=⟨G.x+((i % G.w.toNat:Nat):Int),G.z+((i / G.w.toNat:Nat):Int),k⟩
def lkC (C:CfgR) (G:Gd) (i:Nat):List Lnk:=(List.range (gcol G i).length).map fun k=>lkS C G (sdI G i k)
def lkL (C:CfgR) (G:Gd):List (List Lnk):=(List.range G.L.length).map (lkC C G)
theorem lkC_len (C:CfgR) (G:Gd) (i:Nat):(lkC C G i).length=(gcol G i).length:=by unfold lkC;simp
theorem lkL_len (C:CfgR) (G:Gd):(lkL C G).length=G.L.length:=by unfold lkL;simp
def lkE (C:CfgR) (G:Gd):Int:=if C.err=0 then gE G else 20
theorem lkE_is {C:CfgR} {G:Gd}:lkE C G=0↔C.err=0∧gE G=0:=by
 unfold lkE
 split
 ·rename_i h;exact⟨fun q=>⟨h,q⟩,fun q=>q.2⟩
 ·rename_i h;exact⟨fun q=>absurd q (by decide),fun q=>absurd q.1 h⟩
def CfgR.zero:CfgR:=⟨0,0,0,0,0,0,0⟩
def grC (C:CfgR) (G:Gd):CfgR:=if lkE C G=0 then C else CfgR.zero
def grG (C:CfgR) (G:Gd):Gd:=if lkE C G=0 then G else Gd.zero
end Go.Proofs.YtmhghnbgllaihaaGreatDoor

namespace Go.Proofs.YtmhghnbgllaihaaGreatDoor
open Go.RowKit Go.Shelf Go.Sort
attribute [local go_sem] Oper.semAt_some
theorem mx3 (a b:Int):(if (if a<b then b else a)<0 then 0 else if a<b then b else a)=max (max a b) 0:=by
 by_cases h:a<b <;> simp only[h,if_true,if_false] <;> split <;> omega
theorem mn3 (a b c:Int):(if c<(if b<a then b else a)then c else if b<a then b else a)=min (min a b) c:=by
 by_cases h:b<a <;> simp only[h,if_true,if_false] <;> split <;> omega
theorem el_in {C:CfgR} {T:TriR} {b:Bx} {i j:Nat} (hi:i<gkx C T b) (hj:j<gkz C T b) (h:elL C T b (gx0 T b+i) (gz0 T b+j)≠[]):elAll C T b≠[]:=by
 obtain⟨e,he⟩:=List.exists_mem_of_ne_nil _ h
 intro h0
 have:e∈elAll C T b:=by
  unfold elAll elGrid elRow
  rw[List.mem_flatMap]
  refine⟨j,List.mem_range.2 hj,?_⟩
  rw[List.mem_flatMap]
  exact⟨i,List.mem_range.2 hi,he⟩
 rw[h0]at this
 cases this
theorem p_each (C:CfgR) (T:TriR) (b:Bx) (hC:C.fine) (hT:okT T=true) (hb:b.ok) (n l Bc Bt Bb:Nat) (hn:1≤n) (J Jx:List (El b.n)→World→Prop)
  (hY:∀ (pre:List (El b.n)) (e:El b.n) W,J pre W→pre.length<1024→YieldAt Fence.wide (n - 1) Tryz.prog l #[.int .i64 e.1.1,.agg #[.int .i64 e.1.2.lo,.int .i64 e.1.2.hi,.bool e.1.2.wk]] W fun x W' =>
   (x=.returned (.bool true)∧J (pre++[e]) W'∧(W'.heap[Bc]? = W.heap[Bc]? ∧ W'.heap[Bt]? = W.heap[Bt]? ∧ W'.heap[Bb]? = W.heap[Bb]?))∨(x=.returned (.bool false)∧Jx (pre++[e]) W'))
  (W:World) (hJ:∀ pre W1 W2,J pre W1→New W1 W2→J pre W2) (H:Three C T b Bc Bt Bb W) (h0:J [] W) :
  CallsIn Fence.wide n Tryz.prog 192 #[.func (.yield l) #[] #[],.pointer (some ⟨Bc,0,none⟩),.pointer (some ⟨Bt,0,none⟩),.pointer (some ⟨Bb,0,none⟩)] W fun e W'=>(∃ v,e=.returned v) ∧
   ((∃ ys,ys=elAll C T b∧J ys W')∨(∃ pre:List (El b.n),elAll C T b≠[]∧Jx pre W')):=by
 have h0':Hid (J [] W):=h0
 have HJ:=Lib.hid hJ
 have HY:=Lib.hid hY
 clear h0 hJ hY
 have kw:=fun W=>t_walk C.cl C.cb C.ht C.ri C.ru C.wd C.dp T.i T.x0 T.y0 T.z0 T.x1 T.y1 T.z1 T.x2 T.y2 T.z2 W
 have kc:=fun W=>k_columns T W
 have kl:=fun W=>a_last b hb W
 have egx0:max (max (minI T.x0 T.x1 T.x2 - 1) b.x) 0=gx0 T b:=rfl
 have egz0:max (max (minI T.z0 T.z1 T.z2 - 1) b.z) 0=gz0 T b:=rfl
 have egx1:min (min (maxI T.x0 T.x1 T.x2) (b.x+(b.w - 1))) (C.wd - 1)=gx1 C T b:=rfl
 have egz1:min (min (maxI T.z0 T.z1 T.z2) (b.z+(b.d - 1))) (C.dp - 1)=gz1 C T b:=rfl
 have cw1:=hC.w1
 have cw2:=hC.w2
 have cd1:=hC.d1
 have cd2:=hC.d2
 rw[hT]at kc
 simp only[if_true]at kc
 generalize walkE C.cl C.cb C.ht C.ri C.ru C.wd C.dp T.x0 T.y0 T.z0 T.x1 T.y1 T.z1 T.x2 T.y2 T.z2=we at *
 have ewk:walkB C.cl C.cb C.ht C.ri C.ru C.wd C.dp T.x0 T.y0 T.z0 T.x1 T.y1 T.z1 T.x2 T.y2 T.z2=walkT C T:=rfl
 rw[ewk]at kw
 refine callsIn_of_wp Tryz.func192 rfl trivial ?_ rfl
 simp only[Tryz.ntmps192,List.size_toArray,List.length_cons,List.length_nil,Nat.reduceAdd,Nat.reduceSub,Array.replicate_succ,Array.replicate_zero,List.push_toArray,List.append_toArray,List.nil_append,List.cons_append]
 refine wpIn_wide.2 ?_
 obtain⟨⟨c0,c1,c2,c3,c4,c5,c6⟩,⟨t0,t1,t2,t3,t4,t5,t6,t7,t8,t9⟩,b0,b1,b2,b3⟩:=H.cs
 go_wp2_with fail
 refine(kw _).mono ?_
 rintro e w1 ⟨rfl,n1⟩
 replace h0':Hid (J [] w1):=HJ.out _ _ _ h0'.out n1
 replace H:=H.new n1
 clear c0 c1 c2 c3 c4 c5 c6 t0 t1 t2 t3 t4 t5 t6 t7 t8 t9 b0 b1 b2 b3 kw n1
 obtain⟨⟨c0,c1,c2,c3,c4,c5,c6⟩,⟨t0,t1,t2,t3,t4,t5,t6,t7,t8,t9⟩,b0,b1,b2,b3⟩:=H.cs
 go_wp2_with fail
 refine(kc _).mono ?_
 rintro e w2 ⟨rfl,n1⟩
 replace h0':Hid (J [] w2):=HJ.out _ _ _ h0'.out n1
 replace H:=H.new n1
 clear c0 c1 c2 c3 c4 c5 c6 t0 t1 t2 t3 t4 t5 t6 t7 t8 t9 b0 b1 b2 b3 kc n1
 obtain⟨⟨c0,c1,c2,c3,c4,c5,c6⟩,⟨t0,t1,t2,t3,t4,t5,t6,t7,t8,t9⟩,b0,b1,b2,b3⟩:=H.cs
 go_wp2_with fail
 refine(kl _).mono ?_
 rintro e w3 ⟨rfl,n1⟩
 replace h0':Hid (J [] w3):=HJ.out _ _ _ h0'.out n1
 replace H:=H.new n1
 clear c0 c1 c2 c3 c4 c5 c6 t0 t1 t2 t3 t4 t5 t6 t7 t8 t9 b0 b1 b2 b3 kl n1
 obtain⟨⟨c0,c1,c2,c3,c4,c5,c6⟩,⟨t0,t1,t2,t3,t4,t5,t6,t7,t8,t9⟩,b0,b1,b2,b3⟩:=H.cs
 go_wp2_with fail
 go_quiet (fail)
 simp only[mx3]
 rw[egx0,egz0]
 go_wp2_with fail
 go_quiet (fail)
 simp only[mn3]
 rw[egx1,egz1]
 generalize hW:World.drewN (World.drewN _ _) _=w4
 have n4:New w3 w4:=by subst hW;exact nw
 clear hW
 replace h0':Hid (J [] w4):=HJ.out _ _ _ h0'.out n4
 replace H:=H.new n4
 clear c0 c1 c2 c3 c4 c5 c6 t0 t1 t2 t3 t4 t5 t6 t7 t8 t9 b0 b1 b2 b3 n4 egx0 egx1 egz0 egz1
 go_wp2_with fail
 refine(wpIn_wide (n:=n)).1 ?_
 gi_loopw [14] (fun vz wr=>∃ j:Nat,vz=.int .i64 (gz0 T b+j)∧j≤gkz C T b∧Hid (J (elGrid C T b (gx0 T b) (gz0 T b) (gkx C T b) j) wr)∧Three C T b Bc Bt Bb wr)
  (fun vz _=>(gz1 C T b+1 - intOf vz).toNat)
 case atStart=>exact⟨0,by simp,Nat.zero_le _,h0',H⟩
 case round =>
  clear h0' H
  obtain⟨j,rfl,hj,hJ1,H⟩:=hrel
  by_cases hjz:j<gkz C T b
  ·have hle:gz0 T b+(j:Int)≤gz1 C T b:=by unfold gkz at hjz;omega
   have hz31:gz0 T b+(j:Int)≤31:=by unfold gz1 at hle;omega
   have hz00:0≤gz0 T b:=by unfold gz0;omega
   gi_wp2_with fail
   gi_loopw [15] (fun vx wr2=>∃ i:Nat,vx=.int .i64 (gx0 T b+i)∧i≤gkx C T b∧Hid (J (elGrid C T b (gx0 T b) (gz0 T b) (gkx C T b) j++elRow C T b (gx0 T b) (gz0 T b+j) i) wr2)∧Three C T b Bc Bt Bb wr2)
    (fun vx _=>(gx1 C T b+1 - intOf vx).toNat)
   case atStart=>exact⟨0,by simp,Nat.zero_le _,by show J _ _;simpa [elRow]using hJ1.out,H⟩
   case round =>
    clear hJ1 H
    obtain⟨i,rfl,hi,hJ2,H⟩:=hrel
    by_cases hix:i<gkx C T b
    ·have hle2:gx0 T b+(i:Int)≤gx1 C T b:=by unfold gkx at hix;omega
     have hx31:gx0 T b+(i:Int)≤31:=by unfold gx1 at hle2;omega
     have hx00:0≤gx0 T b:=by unfold gx0;omega
     have hin:b.inside (gx0 T b+i) (gz0 T b+j):=by
      unfold Bx.inside
      unfold gx1 at hle2
      unfold gz1 at hle
      have h1:b.x≤gx0 T b:=by unfold gx0;omega
      have h2:b.z≤gz0 T b:=by unfold gz0;omega
      omega
     have hlen:(elGrid C T b (gx0 T b) (gz0 T b) (gkx C T b) j++elRow C T b (gx0 T b) (gz0 T b+j) i).length<1024:=by
      rw[List.length_append]
      have l1:=elGrid_len C T b (gx0 T b) (gz0 T b) (gkx C T b) j
      have l2:=elRow_len C T b (gx0 T b) (gz0 T b+j) i
      have k1:gkx C T b≤32:=by unfold gkx gx0 gx1;omega
      have k2:gkz C T b≤32:=by unfold gkz gz0 gz1;omega
      have l3:j*gkx C T b≤31*gkx C T b:=Nat.mul_le_mul (by omega) (Nat.le_refl _)
      omega
     have hnext:=elRow_succ C T b (gx0 T b) (gz0 T b+j) i
     have kov:=fun W=>k_over T (gx0 T b+i) (gz0 T b+j) W
     obtain⟨-,⟨t0,t1,t2,t3,t4,t5,t6,t7,t8,t9⟩,-⟩:=H.cs
     cases ho:ovB T (gx0 T b+i) (gz0 T b+j)with
     | false =>
      rw[elL_none ho,List.append_nil]at hnext
      have HN:=Lib.hid hnext
      clear hnext
      simp only[ho]at kov
      replace kov:=Lib.hid kov
      have hin':=Lib.hid hin
      have hlen':=Lib.hid hlen
      clear hin hlen ho
      gi_wp2_with (refine⟨trivial,?_⟩;gi_at_call 196;refine(callsIn_wide.2 (kov.out _)).mono ?_;rintro e w5 ⟨rfl,n5⟩;replace H:=H.new n5;replace hJ2:Hid (J _ w5):=HJ.out _ _ _ hJ2.out n5;clear t0 t1 t2 t3 t4 t5 t6 t7 t8 t9 n5)
      refine⟨trivial,?_⟩
      gi_wp2_with fail
      refine⟨fun _ h=>(by cases h),?_⟩
      gi_wp2_with fail
      go_roundw
      case rel=>exact⟨i+1,by congr 1;omega,by omega,by show J _ _;rw[HN.out];exact hJ2.out,H⟩
      case measure=>simp[intOf];omega
     | true =>
      rw[elL_some hin ho]at hnext
      obtain⟨e,he,he1,he2⟩:∃ e:El b.n,e=⟨((b.pl (gx0 T b+i) (gz0 T b+j)).toNat,⟨ovLo T (gx0 T b+i) (gz0 T b+j),ovHi T (gx0 T b+i) (gz0 T b+j),walkT C T⟩),(Bx.pl_lt hin).2.2⟩∧(e.1.1:Int)=b.pl (gx0 T b+i) (gz0 T b+j)∧e.1.2=⟨ovLo T (gx0 T b+i) (gz0 T b+j),ovHi T (gx0 T b+i) (gz0 T b+j),walkT C T⟩ :=
       ⟨_,rfl,Int.toNat_of_nonneg (Bx.pl_lt hin).1,rfl⟩
      rw[←he]at hnext
      have HN:=Lib.hid hnext
      have hex:elL C T b (gx0 T b+i) (gz0 T b+j)≠[]:=by rw[elL_some hin ho];simp
      have HX:Hid (elAll C T b≠[]):=Lib.hid (el_in hix hjz hex)
      have hyall:=fun W q=>HY.out (elGrid C T b (gx0 T b) (gz0 T b) (gkx C T b) j++elRow C T b (gx0 T b) (gz0 T b+j) i) e W q hlen
      rw[he1,he2]at hyall
      have kpl:=fun W=>a_place b hb _ _ hin W
      simp only[ho]at kov
      replace kov:=Lib.hid kov
      replace kpl:=Lib.hid kpl
      have HYA:=Lib.hid hyall
      clear hnext hyall hin hlen ho hex he1 he2 he
      gi_wp2_with (first
       | (refine⟨trivial,?_⟩;gi_at_call 196;refine(callsIn_wide.2 (kov.out _)).mono ?_;rintro e' w5 ⟨rfl,n5⟩;replace H:=H.new n5;replace hJ2:Hid (J _ w5):=HJ.out _ _ _ hJ2.out n5;clear t0 t1 t2 t3 t4 t5 t6 t7 t8 t9 n5;obtain⟨-,-,b0,b1,b2,b3⟩:=H.cs)
       | (refine⟨trivial,?_⟩;gi_at_call 197;refine(callsIn_wide.2 (kpl.out _)).mono ?_;rintro e' w6 ⟨rfl,n6⟩;replace H:=H.new n6;replace hJ2:Hid (J _ w6):=HJ.out _ _ _ hJ2.out n6;clear b0 b1 b2 b3 n6;(obtain⟨fn,tmps,assign,body,hy,hR⟩:=HYA.out w6 hJ2.out)))
      refine hR.mono ?_
      clear hy hR
      rintro e' W5 (⟨rfl,hJ5,hk5⟩|⟨rfl,hJx5⟩)
      ·replace H:=H.same hk5
       clear hk5
       gi_wp2_with fail
       go_roundw
       case rel=>exact⟨i+1,by congr 1;omega,by omega,by show J _ _;rw[HN.out,←List.append_assoc];exact hJ5,H⟩
       case measure=>simp[intOf];omega
      ·gi_wp2_with fail
       refine bodyPost_ret (results_none rfl _ _ _) rfl ?_
       exact⟨⟨_,rfl⟩,.inr ⟨_,HX.out,hJx5⟩⟩
    ·have hle2:¬ (gx0 T b+(i:Int)≤gx1 C T b):=by unfold gkx at hix;omega
     obtain rfl:i=gkx C T b:=by omega
     gi_wp2_with fail
     go_roundw
     case rel=>exact⟨j+1,by congr 1;omega,by omega,by show J _ _;rw[elGrid_succ];exact hJ2.out,H⟩
     case measure=>simp[intOf];omega
  ·have hle:¬ (gz0 T b+(j:Int)≤gz1 C T b):=by unfold gkz at hjz;omega
   obtain rfl:j=gkz C T b:=by omega
   gi_wp2_with fail
   go_end0
   exact⟨⟨_,rfl⟩,.inl hJ1.out⟩
end Go.Proofs.YtmhghnbgllaihaaGreatDoor

namespace Go.Proofs.YtmhghnbgllaihaaGreatDoor
open Go.RowKit Go.Shelf Go.Sort
attribute [local go_sem] Oper.semAt_some
def KeepThree (Bc Bt Bb:Nat) (W W':World):Prop:=W'.heap[Bc]? = W.heap[Bc]? ∧ W'.heap[Bt]? = W.heap[Bt]? ∧ W'.heap[Bb]? = W.heap[Bb]?
theorem KeepThree.trans {Bc Bt Bb:Nat} {X Y Z:World} (h:KeepThree Bc Bt Bb X Y) (k:KeepThree Bc Bt Bb Y Z):KeepThree Bc Bt Bb X Z:=⟨k.1.trans h.1,k.2.1.trans h.2.1,k.2.2.trans h.2.2⟩
def elA {N:Nat} (e:El N):Array Value:=#[.int .i64 e.1.1,.agg #[.int .i64 e.1.2.lo,.int .i64 e.1.2.hi,.bool e.1.2.wk]]
theorem Three.grown {C:CfgR} {T:TriR} {b:Bx} {Bc Bt Bb:Nat} {w W:World} (h:Three C T b Bc Bt Bb w) (n:Below w.heap.size w W):Three C T b Bc Bt Bb W :=
 ⟨(n.block Bc (Array.getElem?_eq_some_iff.1 h.c).1).trans h.c,(n.block Bt (Array.getElem?_eq_some_iff.1 h.t).1).trans h.t,(n.block Bb (Array.getElem?_eq_some_iff.1 h.b).1).trans h.b⟩
theorem p_stops (C:CfgR) (T:TriR) (b:Bx) (hC:C.fine) (hT:okT T=true) (hb:b.ok) (n:Nat) (hn:1≤n) (Bc Bt Bb:Nat) (w:World) (H:Three C T b Bc Bt Bb w) :
  SeqStopsK Fence.wide n Tryz.prog 192 #[.pointer (some ⟨Bc,0,none⟩),.pointer (some ⟨Bt,0,none⟩),.pointer (some ⟨Bb,0,none⟩)] (fun e:El b.n=>elA e) (KeepThree Bc Bt Bb)
   (fun ys=>ys=elAll C T b) (fun _=>elAll C T b≠[]) 1024 w:=fun l J Jx W hW hJ _ hY h0 =>
 p_each C T b hC hT hb n l Bc Bt Bb hn J Jx hY W (fun _ _ _ h k=>hJ _ _ _ none h (new_gro k) (fun r e=>by cases e)) (H.grown hW) h0
theorem p_pieces (C:CfgR) (T:TriR) (b:Bx) (n:Nat) (w:World) :
  CallsIn Fence.wide n Tryz.prog 157 #[.agg #[.int .i64 C.cl,.int .i64 C.cb,.int .i64 C.ht,.int .i64 C.ri,.int .i64 C.ru,.int .i64 C.wd,.int .i64 C.dp],.agg #[.int .i64 T.i,.int .i64 T.x0,.int .i64 T.y0,.int .i64 T.z0,.int .i64 T.x1,.int .i64 T.y1,.int .i64 T.z1,.int .i64 T.x2,.int .i64 T.y2,.int .i64 T.z2],.agg #[.int .i64 b.x,.int .i64 b.z,.int .i64 b.w,.int .i64 b.d]] w fun e w' =>
   e=.returned (.func (.func 192) #[] #[.pointer (some ⟨w.heap.size,0,none⟩),.pointer (some ⟨w.heap.size+1,0,none⟩),.pointer (some ⟨w.heap.size+2,0,none⟩)])∧New w w'∧Three C T b w.heap.size (w.heap.size+1) (w.heap.size+2) w'∧w'.heap.size=w.heap.size+3:=by
 refine callsIn_of_wp Tryz.func157 rfl trivial ?_ rfl
 simp only[Tryz.ntmps157,List.size_toArray,List.length_cons,List.length_nil,Nat.reduceAdd,Nat.reduceSub,Array.replicate_succ,Array.replicate_zero,List.push_toArray,List.append_toArray,List.nil_append,List.cons_append]
 gi_wp2
 go_ret
 refine⟨rfl,by exact nw,⟨?_,?_,?_⟩,by simp⟩
 ·exact(Below.heap_alloc _ _ _ (by simp;omega)).trans ((Below.heap_alloc _ _ _ (by simp)).trans (World.alloc_heap_new w _))
 ·have h:=World.alloc_heap_new (w.alloc (.cells (cfgA C) 23)) (.cells (triA T) 64)
  rw[World.size_alloc]at h
  exact(Below.heap_alloc _ _ _ (by simp)).trans h
 ·have h:=World.alloc_heap_new ((w.alloc (.cells (cfgA C) 23)).alloc (.cells (triA T) 64)) (.cells (boxA b) 191)
  rw[World.size_alloc,World.size_alloc]at h
  exact h
end Go.Proofs.YtmhghnbgllaihaaGreatDoor
