import Derived.Test.YtmhghnbgllaihaaGreatDoorRaQP2Z2
import Derived.Test.YtmhghnbgllaihaaGreatDoorRows
import Derived.Test.YtmhghnbgllaihaaGreatDoorSoXFP2Z2
import Derived.LaidMore
import Derived.MakeChecks
import Derived.ProofKit
import Derived.OpenShut
import Derived.Stop.Joined
import Derived.Test.YtmhghnbgllaihaaGreatDoorOgIP2Z2
import Derived.Test.YtmhghnbgllaihaaGreatDoorWholeIP2Z2
import Derived.Deep.LoopGhost
set_option linter.unusedVariables false
set_option maxHeartbeats 16000000
set_option maxRecDepth 100000

namespace Go.Proofs.YtmhghnbgllaihaaGreatDoor
open Go.RowKit
theorem optLen {α:Type} (o:Option α):o.toList.length≤1:=by cases o <;> simp
theorem opt_map_toList {α β:Type} {f:α→β} (o:Option α):(o.map f).toList=o.toList.map f:=by cases o <;> rfl
section
variable {α:Type} [DecidableEq α]
def rndP (go:α→Int→Option α) (s:α) (d e:Int):Option α:=match go s d with
 | some m=>go m e
 | none=>none
def bothP (a b:Option α):Option α:=match a,b with
 | some t,some u=>if t=u then some t else none
 | _,_=>none
def diaP (go:α→Int→Option α) (s:α) (d e:Int):Option α:=bothP (rndP go s d e) (rndP go s e d)
def arN (go:α→Int→Option α) (s:α):Nat→List α
 | 0=>[]
 | n+1=>(arN go s n++(go s n).toList)++(diaP go s n (nextD n)).toList
def arP (go:α→Int→Option α) (s:α):List α:=arN go s 4
def fulP (go:α→Int→Option α) (s:α):Bool:=decide (8≤(arP go s).length)
def geB (go:α→Int→Option α):Nat→α→Bool
 | 0,_=>true
 | n+1,s=>fulP go s&&(arP go s).all (geB go n)
def clr (go:α→Int→Option α):Nat→α→Nat
 | 0,_=>0
 | m+1,s=>if geB go (m+1) s=true then m+1 else clr go m s
variable {go:α→Int→Option α}
theorem bothP_is {a b:Option α} {t:α} (h:bothP a b=some t):a=some t∧b=some t:=by
 unfold bothP at h
 split at h
 ·rename_i t' u
  split at h
  ·rename_i e
   subst e
   cases h
   exact⟨rfl,rfl⟩
  ·cases h
 ·cases h
theorem arN_len (s:α):∀ n,(arN go s n).length≤2*n
 | 0=>by simp[arN]
 | n+1=>by
  have h1:=arN_len s n
  have h2:=optLen (go s n)
  have h3:=optLen (diaP go s n (nextD n))
  simp only[arN,List.length_append]
  omega
theorem arP_len (s:α):(arP go s).length≤8:=arN_len s 4
theorem mem_arN {s t:α}:∀ {n:Nat},t∈arN go s n↔∃ d:Nat,d<n∧(go s d=some t∨diaP go s d (nextD d)=some t)
 | 0=>by simp[arN]
 | n+1=>by
  simp only[arN,List.mem_append,Option.mem_toList,mem_arN (n:=n)]
  constructor
  ·rintro((⟨d,hd,h⟩|h)|h)
   ·exact⟨d,by omega,h⟩
   ·exact⟨n,by omega,.inl h⟩
   ·exact⟨n,by omega,.inr h⟩
  ·rintro⟨d,hd,h⟩
   by_cases e:d=n
   ·subst e
    rcases h with h|h
    ·exact .inl (.inr h)
    ·exact .inr h
   ·exact .inl (.inl ⟨d,by omega,h⟩)
theorem geB_succ (n:Nat) (s:α):geB go (n+1) s=true↔fulP go s=true∧∀ t∈arP go s,geB go n t=true:=by
 rw[geB,Bool.and_eq_true,List.all_eq_true]
theorem geB_down:∀ (n:Nat) (s:α),geB go (n+1) s=true→geB go n s=true
 | 0,_,_=>rfl
 | n+1,s,h=>by
  rw[geB_succ]at h ⊢
  exact⟨h.1,fun t ht=>geB_down n t (h.2 t ht)⟩
theorem geB_le {n m:Nat} (h:n≤m) (s:α) (hs:geB go m s=true):geB go n s=true:=by
  induction m with
  | zero => obtain rfl : n = 0 := by omega
            exact hs
  | succ m ih =>
    by_cases e:n=m+1
    · subst e;exact hs
    · exact ih (by omega) (geB_down m s hs)
theorem clr_le:∀ (m:Nat) (s:α),clr go m s≤m
 | 0,_=>by simp[clr]
 | m+1,s=>by
  have:=clr_le m s
  rw[clr]
  split <;> omega
theorem clr_ge:∀ (m:Nat) (s:α),geB go (clr go m s) s=true
 | 0,_=>rfl
 | m+1,s=>by
  rw[clr]
  split
  ·assumption
  ·exact clr_ge m s
theorem clr_iff {n:Nat}:∀ {m:Nat},n≤m→∀ s:α,(n≤clr go m s↔geB go n s=true)
 | 0,h,s=>by
  obtain rfl:n=0:=by omega
  exact⟨fun _=>rfl,fun _=>by omega⟩
 | m+1,h,s=>by
  constructor
  ·intro q
   exact geB_le q s (clr_ge (m+1) s)
  ·intro q
   rw[clr]
   split
   ·omega
   ·rename_i h2
    have:n≠m+1:=fun e=>h2 (e▸q)
    exact(clr_iff (m:=m) (by omega) s).2 q
theorem clr_eq {m v:Nat} {s:α} (h1:v≤m) (h2:geB go v s=true) (h3:v=m∨geB go (v+1) s=false):clr go m s=v:=by
 have a:=(clr_iff h1 s).2 h2
 have b:=clr_le (go:=go) m s
 rcases h3 with h|h
 ·omega
 ·by_cases e:clr go m s=v
  ·exact e
  ·have c:v+1≤clr go m s:=by omega
   have:=(clr_iff (m:=m) (by omega) s).1 c
   rw[h]at this
   cases this
theorem clr_top {m:Nat} {s:α} (h:geB go m s=true):clr go m s=m:=clr_eq (Nat.le_refl _) h (.inl rfl)
theorem clr_min {k m:Nat} (h:k≤m) (s:α):min (clr go m s) k=clr go k s:=by
 have h1:=clr_le (go:=go) k s
 have h2:=clr_ge (go:=go) k s
 by_cases e:geB go k s=true
 ·have:=(clr_iff h s).2 e
  rw[clr_top e]
  omega
 ·have e1:clr go k s<k:=by
   rcases Nat.lt_or_ge (clr go k s) k with q|q
   ·exact q
   ·exact absurd ((clr_iff (Nat.le_refl k) s).1 q) e
  have e2:geB go (clr go k s+1) s=false:=by
   cases q:geB go (clr go k s+1) s
   ·rfl
   ·have:=(clr_iff (m:=k) (by omega) s).2 q
    omega
  rw[clr_eq (m:=m) (by omega) h2 (.inr e2)]
  omega
def SymP (go:α→Int→Option α) (V:α→Prop):Prop:=∀ s,V s→∀ t∈arP go s,V t∧s∈arP go t
def justB (go:α→Int→Option α) (f:Nat) (s:α):Bool:=geB go f s && !geB go (f+1) s
def heldF (go:α→Int→Option α) (f:Nat) (s:α):Option Nat:=if geB go (f+1) s=true then none else some (clr go f s)
theorem justB_iff {f:Nat} {s:α}:justB go f s=true↔geB go f s=true∧geB go (f+1) s=false:=by
 unfold justB
 rw[Bool.and_eq_true,Bool.not_eq_true']
theorem next_iff {V:α→Prop} (H:SymP go V) {f:Nat} {t:α} (hV:V t) (ht:geB go (f+1) t=true):(∃ s,V s∧justB go f s=true∧t∈arP go s)↔geB go (f+2) t=false:=by
 constructor
 ·rintro⟨s,hs,hj,hm⟩
  cases q:geB go (f+2) t
  ·rfl
  ·have h1:=((geB_succ (f+1) t).1 q).2 s (H s hs t hm).2
   rw[(justB_iff.1 hj).2]at h1
   cases h1
 ·intro h
  have h1:=(geB_succ f t).1 ht
  have h2:¬ ∀ u∈arP go t,geB go (f+1) u=true:=fun q=>by
   rw[(geB_succ (f+1) t).2 ⟨h1.1,q⟩]at h
   cases h
  have h3:(arP go t).all (geB go (f+1))=false:=by
   cases q:(arP go t).all (geB go (f+1))
   ·rfl
   ·exact absurd (List.all_eq_true.1 q) h2
  obtain⟨u,hu,hb⟩:=List.all_eq_false.1 h3
  obtain⟨a,b⟩:=H t hV u hu
  exact⟨u,a,justB_iff.2 ⟨h1.2 u hu,by simpa using hb⟩,b⟩
theorem no_more {V:α→Prop} (H:SymP go V) {f:Nat} (h:∀ s,V s→justB go f s=false):∀ n s,V s→geB go f s=true→geB go (f+n) s=true
 | 0,_,_,h1=>h1
 | n+1,s,hs,h1=>by
  have h2:geB go (f+1) s=true:=by
   cases q:geB go (f+1) s
   ·have:=h s hs
    rw[justB_iff.2 ⟨h1,q⟩]at this
    cases this
   ·rfl
  have h3:=(geB_succ f s).1 h2
  show geB go ((f+n)+1) s=true
  exact(geB_succ _ s).2 ⟨h3.1,fun t ht=>no_more H h n t (H s hs t ht).1 (h3.2 t ht)⟩
theorem held_end {f m:Nat} {s:α} (hm:f+1≤m) (h:geB go (f+1) s=true→geB go m s=true):((heldF go f s).getD m)=clr go m s:=by
 unfold heldF
 split
 ·rename_i q
  exact(clr_top (h q)).symm
 ·rename_i q
  have q':geB go (f+1) s=false:=by simpa using q
  show clr go f s=clr go m s
  have h1:=clr_ge (go:=go) f s
  have h2:=clr_le (go:=go) f s
  refine(clr_eq (by omega) h1 (.inr ?_)).symm
  cases p:geB go (clr go f s+1) s
  ·rfl
  ·by_cases e:clr go f s=f
   ·rw[e]at p
    rw[q']at p
    cases p
   ·have:=(clr_iff (m:=f) (n:=clr go f s+1) (by omega) s).2 p
    omega
theorem held_zero (s:α):heldF go 0 s=if fulP go s=true then none else some 0:=by
 unfold heldF
 have:geB go 1 s=fulP go s:=by
  rw[Bool.eq_iff_iff,geB_succ]
  exact⟨fun h=>h.1,fun h=>⟨h,fun _ _=>rfl⟩⟩
 rw[this]
 rfl
theorem held_next {V:α→Prop} (H:SymP go V) {f:Nat} {t:α} (hV:V t) (P:Prop) [Decidable P] (hP:P↔∃ s,V s∧justB go f s=true∧t∈arP go s):heldF go (f+1) t=(match heldF go f t with
 | some v=>some v
 | none=>if P then some (f+1)else none):=by
 unfold heldF
 by_cases q:geB go (f+1) t=true
 ·rw[if_pos q]
  have hn:=next_iff H hV q
  rw[←hP]at hn
  by_cases p:P
  ·rw[if_neg (by rw[hn.1 p];simp)]
   simp only
   rw[if_pos p,clr_top q]
  ·have:geB go (f+2) t=true:=by
    cases r:geB go (f+2) t
    ·exact absurd (hn.2 r) p
    ·rfl
   rw[if_pos this]
   simp only
   rw[if_neg p]
 ·rw[if_neg q]
  have q2:¬ geB go (f+1+1) t=true:=fun r=>q (geB_down _ _ r)
  rw[if_neg q2]
  simp only
  rw[clr,if_neg q]
theorem just_next {V:α→Prop} (H:SymP go V) {f:Nat} {t:α} (hV:V t):(justB go (f+1) t=true)↔(heldF go f t=none∧∃ s,V s∧justB go f s=true∧t∈arP go s):=by
 rw[justB_iff]
 unfold heldF
 constructor
 ·rintro⟨h1,h2⟩
  exact⟨by rw[if_pos h1],(next_iff H hV h1).2 h2⟩
 ·rintro⟨h1,h2⟩
  have q:geB go (f+1) t=true:=by
   by_cases q:geB go (f+1) t=true
   ·exact q
   ·rw[if_neg q]at h1
    cases h1
  exact⟨q,(next_iff H hV q).1 h2⟩
theorem just_zero (s:α):justB go 0 s = !fulP go s:=by
 unfold justB
 have:geB go 1 s=fulP go s:=by
  rw[Bool.eq_iff_iff,geB_succ]
  exact⟨fun h=>h.1,fun h=>⟨h,fun _ _=>rfl⟩⟩
 show(true && !geB go (0+1) s)=_
 rw[this]
 rfl
end
section
variable {α β:Type} {go:α→Int→Option α} {go':β→Int→Option β} {f:α→β} {V:α→Prop}
structure HomP (go:α→Int→Option α) (go':β→Int→Option β) (f:α→β) (V:α→Prop):Prop where
 goes:∀ s,V s→∀ d,go' (f s) d=(go s d).map f
 kept:∀ s,V s→∀ d t,go s d=some t→V t
 inj:∀ s t,V s→V t→f s=f t→s=t
theorem rndP_kept (H:HomP go go' f V) {s t:α} {d e:Int} (hs:V s) (h:rndP go s d e=some t):V t:=by
 unfold rndP at h
 split at h
 ·rename_i m hm
  exact H.kept m (H.kept s hs d m hm) e t h
 ·cases h
theorem rndP_hom (H:HomP go go' f V) {s:α} (hs:V s) (d e:Int):rndP go' (f s) d e=(rndP go s d e).map f:=by
 unfold rndP
 rw[H.goes s hs d]
 cases q:go s d with
 | none=>rfl
 | some m=>exact H.goes m (H.kept s hs d m q) e
variable [DecidableEq α]
theorem diaP_kept (H:HomP go go' f V) {s t:α} {d e:Int} (hs:V s) (h:diaP go s d e=some t):V t:=rndP_kept H hs (bothP_is h).1
theorem arN_kept (H:HomP go go' f V) {s t:α} (hs:V s) {n:Nat} (h:t∈arN go s n):V t:=by
 obtain⟨d,-,h|h⟩:=mem_arN.1 h
 ·exact H.kept s hs d t h
 ·exact diaP_kept H hs h
variable [DecidableEq β]
theorem diaP_hom (H:HomP go go' f V) {s:α} (hs:V s) (d e:Int):diaP go' (f s) d e=(diaP go s d e).map f:=by
 unfold diaP
 rw[rndP_hom H hs d e,rndP_hom H hs e d]
 cases p:rndP go s d e with
 | none=>rfl
 | some t =>
  cases q:rndP go s e d with
  | none=>rfl
  | some u =>
   show(if f t=f u then some (f t)else none)=(if t=u then some t else none).map f
   by_cases e1:t=u
   ·subst e1;simp
   ·rw[if_neg e1,if_neg (fun e2=>e1 (H.inj t u (rndP_kept H hs p) (rndP_kept H hs q) e2))]
    rfl
theorem arN_hom (H:HomP go go' f V) {s:α} (hs:V s):∀ n,arN go' (f s) n=(arN go s n).map f
 | 0=>rfl
 | n+1=>by simp only[arN,arN_hom H hs n,H.goes s hs n,diaP_hom H hs,opt_map_toList,List.map_append]
theorem fulP_hom (H:HomP go go' f V) {s:α} (hs:V s):fulP go' (f s)=fulP go s:=by
 unfold fulP arP
 rw[arN_hom H hs,List.length_map]
theorem geB_hom (H:HomP go go' f V):∀ (n:Nat) {s:α},V s→geB go' n (f s)=geB go n s
 | 0,_,_=>rfl
 | n+1,s,hs=>by
  rw[Bool.eq_iff_iff,geB_succ,geB_succ,fulP_hom H hs]
  unfold arP
  rw[arN_hom H hs]
  constructor
  ·rintro⟨h1,h2⟩
   exact⟨h1,fun t ht=>by rw[←geB_hom H n (arN_kept H hs ht)];exact h2 _ (List.mem_map_of_mem ht)⟩
  ·rintro⟨h1,h2⟩
   refine⟨h1,fun u hu=>?_⟩
   obtain⟨t,ht,rfl⟩:=List.mem_map.1 hu
   rw[geB_hom H n (arN_kept H hs ht)]
   exact h2 t ht
theorem clr_hom (H:HomP go go' f V):∀ (m:Nat) {s:α},V s→clr go' m (f s)=clr go m s
 | 0,_,_=>rfl
 | m+1,s,hs=>by rw[clr,clr,geB_hom H _ hs,clr_hom H m hs]
end
end Go.Proofs.YtmhghnbgllaihaaGreatDoor

namespace Go.Proofs.YtmhghnbgllaihaaGreatDoor
open Go.ChangeShapes Go.WideShapes Go.ChangeAt Go.RowKit
theorem gDi:Tryz.prog.globalNamed "footpath/links.directions" = some 1:=by kernel_rfl
theorem tDi:(Tryz.prog.globals[1]?).map (·.type)=some 307:=by kernel_rfl
structure Dirs (w:World):Prop where
 c0:w.cell? ⟨1,0,none⟩=some (.int .i64 1)
 c1:w.cell? ⟨1,1,none⟩=some (.int .i64 0)
 c2:w.cell? ⟨1,2,none⟩=some (.int .i64 0)
 c3:w.cell? ⟨1,3,none⟩=some (.int .i64 1)
 c4:w.cell? ⟨1,4,none⟩=some (.int .i64 (-1))
 c5:w.cell? ⟨1,5,none⟩=some (.int .i64 0)
 c6:w.cell? ⟨1,6,none⟩=some (.int .i64 0)
 c7:w.cell? ⟨1,7,none⟩=some (.int .i64 (-1))
theorem Dirs.new {w w':World} (h:Dirs w) (n:New w w'):Dirs w' :=
 ⟨n.keep h.c0,n.keep h.c1,n.keep h.c2,n.keep h.c3,n.keep h.c4,n.keep h.c5,n.keep h.c6,n.keep h.c7⟩
abbrev laidDirs:List (String×DataW Unit):=[("footpath/links.directions",Rows.laid_footpath_links_directions)]
theorem take2 {l:List Value} {i:Nat} {x y:Value} (h:(l.drop i).take 2=[x,y]):l[i]? = some x∧l[i+1]? = some y:=by
 have h0:((l.drop i).take 2)[0]? = some x:=by rw[h];rfl
 have h1:((l.drop i).take 2)[1]? = some y:=by rw[h];rfl
 exact⟨by simpa [List.getElem?_take,List.getElem?_drop]using h0,by simpa [List.getElem?_take,List.getElem?_drop]using h1⟩
theorem two_of {W:World} {m:Nat} {cs:List Value} {p:List MemPlace} {a b:Int} (h:DataW.trod (fun _=>()) Tryz.prog W 0 (fun _=>true) false m 306 cs=some (.agg [.lit (.int .i64 a),.lit (.int .i64 b)],p)) (hl:cs.length=2):cs=[.int .i64 a,.int .i64 b]:=by
 obtain⟨ys,n,rfl,hy,hlen,hn,hel⟩:=DataW.trod_struct Tryz.underlying306 h
 have c3:Tryz.prog.cellsOf 3=1:=by kernel_rfl
 have h0:DataW.trod (fun _=>()) Tryz.prog W 0 (fun _=>true) false n 3 ((cs.drop 0).take (Tryz.prog.cellsOf 3))=ys[0]? := hel 0 _ rfl
 have h1:DataW.trod (fun _=>()) Tryz.prog W 0 (fun _=>true) false n 3 ((cs.drop 1).take (Tryz.prog.cellsOf 3))=ys[1]? := hel 1 _ rfl
 rw[c3]at h0 h1
 match ys,hn,hy,h0,h1 with
 | [x0,x1],_,hy,h0,h1 =>
  simp only[List.map_cons,List.map_nil,List.cons.injEq,List.getElem?_cons_zero,List.getElem?_cons_succ,Prod.mk.injEq,DataW.agg.injEq]at hy h0 h1
  obtain⟨⟨r0,r1,-⟩,-⟩:=hy
  obtain⟨k0,e0,y0,_⟩:=DataW.trod_int Tryz.underlying3 h0
  obtain⟨k1,e1,y1,_⟩:=DataW.trod_int Tryz.underlying3 h1
  rw[y0]at r0;rw[y1]at r1
  simp only[DataW.lit.injEq,Lit.int.injEq,true_and]at r0 r1
  subst r0;subst r1
  match cs,hl,e0,e1 with
  | [u0,u1],_,e0,e1 =>
   simp at e0 e1
   rw[e0,e1]
theorem of_laid_di {W:World} (h:laidMetH Tryz.prog laidDirs W):Dirs W:=by
 rw[MakeChecks.laidMetH_plain _ _ _ (by kernel_rfl)]at h
 obtain⟨ps,⟨g0,t0,cs0,f0,p0,q0,hg0,ht0,hv0,hd0,_,_⟩,_,_⟩:=h
 obtain rfl:=Option.some.inj (gDi.symm.trans hg0)
 obtain rfl:=Option.some.inj (tDi.symm.trans ht0)
 obtain⟨xs,n,rfl,hx,hlen,hn,hel⟩:=DataW.trod_array Tryz.underlying307 hd0
 have c2:Tryz.prog.cellsOf 306=2:=by kernel_rfl
 have c8:Tryz.prog.cellsOf 307=8:=by kernel_rfl
 rw[c8]at hlen
 simp only[Rows.laid_footpath_links_directions,Prod.mk.injEq,DataW.agg.injEq]at hx
 have h0:=hel 0 (by omega)
 have h1:=hel 1 (by omega)
 have h2:=hel 2 (by omega)
 have h3:=hel 3 (by omega)
 rw[c2]at h0 h1 h2 h3
 match xs,hn,hx,h0,h1,h2,h3 with
 | [x0,x1,x2,x3],_,hx,h0,h1,h2,h3 =>
  simp only[List.map_cons,List.map_nil,List.cons.injEq,List.getElem?_cons_zero,List.getElem?_cons_succ]at hx h0 h1 h2 h3
  obtain⟨⟨r0,r1,r2,r3,-⟩,-⟩:=hx
  obtain⟨x0,p0⟩:=x0
  obtain⟨x1,p1⟩:=x1
  obtain⟨x2,p2⟩:=x2
  obtain⟨x3,p3⟩:=x3
  simp only at r0 r1 r2 r3
  subst r0;subst r1;subst r2;subst r3
  have e0:=take2 (two_of h0 (by simp only[List.length_take,List.length_drop];omega))
  have e1:=take2 (two_of h1 (by simp only[List.length_take,List.length_drop];omega))
  have e2:=take2 (two_of h2 (by simp only[List.length_take,List.length_drop];omega))
  have e3:=take2 (two_of h3 (by simp only[List.length_take,List.length_drop];omega))
  have k:∀ (i:Nat) (v:Value),cs0.toList[i]? = some v→W.cell? ⟨1,i,none⟩=some v:=fun i v e=>(World.var?_cell hg0 hv0 i).trans (by rw[←Array.getElem?_toList];exact e)
  exact⟨k 0 _ e0.1,k 1 _ e0.2,k 2 _ e1.1,k 3 _ e1.2,k 4 _ e2.1,k 5 _ e2.2,k 6 _ e3.1,k 7 _ e3.2⟩
end Go.Proofs.YtmhghnbgllaihaaGreatDoor

namespace Go.Proofs.YtmhghnbgllaihaaGreatDoor
open Go.RowKit
theorem lk_within (n lo hi:Int) (w:World):Calls Tryz.prog 240 #[.int .i64 n,.int .i64 lo,.int .i64 hi] w fun e w'=>e=.returned (.bool (wiB n lo hi))∧w=w':=by
 unfold wiB
 by_cases h:lo≤n
 ·rw[decide_eq_true h]
  go_enter Tryz.func240,Tryz.ntmps240
  go_wp2_with fail
  go_ret
  exact⟨rfl,rfl⟩
 ·rw[decide_eq_false h]
  go_enter Tryz.func240,Tryz.ntmps240
  go_wp2_with fail
  go_ret
  exact⟨rfl,rfl⟩
def stV (d:Int):Value:=.tuple #[.int .i64 (dxD d),.int .i64 (dzD d),.bool (okD d)]
theorem lk_Step (d:Int) (w:World) (hD:Dirs w):Calls Tryz.prog 212 #[.int .i64 d] w fun e w'=>e=.returned (stV d)∧New w w':=by
 have KW:=lk_within d 0 3
 obtain⟨c0,c1,c2,c3,c4,c5,c6,c7⟩:=hD
 cases hk:okD d
 ·have hv:stV d=.tuple #[.int .i64 0,.int .i64 0,.bool false]:=by unfold stV;rw[hk,(okD_off hk).1,(okD_off hk).2]
  rw[hv]
  unfold okD at hk
  rw[hk]at KW
  clear hv hk
  go_enter Tryz.func212,Tryz.ntmps212
  go_wp2_with fail
  refine(KW _).mono ?_
  rintro e w2 ⟨rfl,rfl⟩
  go_wp2_with fail
  refine bodyPost_ret (v:=.tuple #[.int .i64 0,.int .i64 0,.bool false]) (by simp[results,Tryz.results212,go_sem, *]) rfl ?_
  exact⟨rfl,by exact nw⟩
 ·have hk2:=hk
  unfold okD at hk2
  rw[hk2]at KW
  clear hk2
  rcases okD_cases hk with rfl|rfl|rfl|rfl
  ·clear hk
   go_enter Tryz.func212,Tryz.ntmps212
   go_wp2_with fail
   refine(KW _).mono ?_
   rintro e w2 ⟨rfl,rfl⟩
   go_wp2_with fail
   refine Code.at (fun W hW=>?_)
   have n0:New w W:=by subst hW;exact nw
   have b0:W.cell? ⟨w.heap.size,0,none⟩=some (.int .i64 1):=by subst hW;go_simp
   have b1:W.cell? ⟨w.heap.size,1,none⟩=some (.int .i64 0):=by subst hW;go_simp
   clear hW
   (refine wp_region_hat (by kernel_rfl) (by kernel_rfl) ?_;intro hatc hatf;(repeat(go_big_quiet_step ((fail))));refine wpQuiet_nil ?_;rintro _ ⟨q,rfl⟩)
   go_wp2_with fail
   refine bodyPost_ret (v:=.tuple #[.int .i64 1,.int .i64 0,.bool true]) (by simp[results,Tryz.results212,go_sem, *]) rfl ?_
   exact⟨by rfl,n0.trans q.h⟩
  ·clear hk
   go_enter Tryz.func212,Tryz.ntmps212
   go_wp2_with fail
   refine(KW _).mono ?_
   rintro e w2 ⟨rfl,rfl⟩
   go_wp2_with fail
   refine Code.at (fun W hW=>?_)
   have n0:New w W:=by subst hW;exact nw
   have b0:W.cell? ⟨w.heap.size,0,none⟩=some (.int .i64 0):=by subst hW;go_simp
   have b1:W.cell? ⟨w.heap.size,1,none⟩=some (.int .i64 1):=by subst hW;go_simp
   clear hW
   (refine wp_region_hat (by kernel_rfl) (by kernel_rfl) ?_;intro hatc hatf;(repeat(go_big_quiet_step ((fail))));refine wpQuiet_nil ?_;rintro _ ⟨q,rfl⟩)
   go_wp2_with fail
   refine bodyPost_ret (v:=.tuple #[.int .i64 0,.int .i64 1,.bool true]) (by simp[results,Tryz.results212,go_sem, *]) rfl ?_
   exact⟨by rfl,n0.trans q.h⟩
  ·clear hk
   go_enter Tryz.func212,Tryz.ntmps212
   go_wp2_with fail
   refine(KW _).mono ?_
   rintro e w2 ⟨rfl,rfl⟩
   go_wp2_with fail
   refine Code.at (fun W hW=>?_)
   have n0:New w W:=by subst hW;exact nw
   have b0:W.cell? ⟨w.heap.size,0,none⟩=some (.int .i64 (-1)):=by subst hW;go_simp
   have b1:W.cell? ⟨w.heap.size,1,none⟩=some (.int .i64 0):=by subst hW;go_simp
   clear hW
   (refine wp_region_hat (by kernel_rfl) (by kernel_rfl) ?_;intro hatc hatf;(repeat(go_big_quiet_step ((fail))));refine wpQuiet_nil ?_;rintro _ ⟨q,rfl⟩)
   go_wp2_with fail
   refine bodyPost_ret (v:=.tuple #[.int .i64 (-1),.int .i64 0,.bool true]) (by simp[results,Tryz.results212,go_sem, *]) rfl ?_
   exact⟨by rfl,n0.trans q.h⟩
  ·clear hk
   go_enter Tryz.func212,Tryz.ntmps212
   go_wp2_with fail
   refine(KW _).mono ?_
   rintro e w2 ⟨rfl,rfl⟩
   go_wp2_with fail
   refine Code.at (fun W hW=>?_)
   have n0:New w W:=by subst hW;exact nw
   have b0:W.cell? ⟨w.heap.size,0,none⟩=some (.int .i64 0):=by subst hW;go_simp
   have b1:W.cell? ⟨w.heap.size,1,none⟩=some (.int .i64 (-1)):=by subst hW;go_simp
   clear hW
   (refine wp_region_hat (by kernel_rfl) (by kernel_rfl) ?_;intro hatc hatf;(repeat(go_big_quiet_step ((fail))));refine wpQuiet_nil ?_;rintro _ ⟨q,rfl⟩)
   go_wp2_with fail
   refine bodyPost_ret (v:=.tuple #[.int .i64 0,.int .i64 (-1),.bool true]) (by simp[results,Tryz.results212,go_sem, *]) rfl ?_
   exact⟨by rfl,n0.trans q.h⟩
theorem lkB_far {C:CfgR} {a b:Fl} (h:¬ (farB a.y=true∧farB a.top=true∧farB b.y=true∧farB b.top=true)):lkB C a b=false:=by
 cases q:lkB C a b
 ·rfl
 ·exfalso
  unfold lkB at q
  simp only[Bool.and_eq_true]at q
  exact h ⟨q.1.1,q.1.2.1,q.1.2.2.1,q.1.2.2.2⟩
theorem lkB_near {C:CfgR} {a b:Fl} (h1:farB a.y=true) (h2:farB a.top=true) (h3:farB b.y=true) (h4:farB b.top=true):lkB C a b=(decide (0<a.area)&&(decide (0<b.area)&&(decide (max a.y b.y - min a.y b.y≤C.cb)&&decide (C.ht≤min a.top b.top - max a.y b.y)))):=by
 unfold lkB
 rw[h1,h2,h3,h4]
 rfl
theorem lk_linked (C:CfgR) (a b:Fl) (w:World):Calls Tryz.prog 214 #[.agg #[.int .i64 C.cl,.int .i64 C.cb,.int .i64 C.ht,.int .i64 C.ri,.int .i64 C.ru,.int .i64 C.wd,.int .i64 C.dp],.agg #[.int .i64 a.y,.int .i64 a.top,.int .i64 a.area],.agg #[.int .i64 b.y,.int .i64 b.top,.int .i64 b.area]] w fun e w'=>e=.returned (.bool (lkB C a b))∧New w w':=by
 have KW:=Lib.hid (fun n (W:World)=>lk_within n (-1099511627776) 1099511627776 W)
 have K1:=fun W=>KW.out a.y W
 have K2:=fun W=>KW.out a.top W
 have K3:=fun W=>KW.out b.y W
 have K4:=fun W=>KW.out b.top W
 have HF:=Lib.hid (lkB_far (C:=C) (a:=a) (b:=b))
 have HN:=Lib.hid (lkB_near (C:=C) (a:=a) (b:=b))
 obtain⟨r,hr⟩:∃ r,r=lkB C a b:=⟨_,rfl⟩
 rw[←hr]at HF HN ⊢
 have HR:Hid (r=lkB C a b):=Lib.hid hr
 clear hr KW
 have i0:∀ w,(Instr.index 184 (.agg #[.int .i64 a.y,.int .i64 a.top,.int .i64 b.y,.int .i64 b.top]) (.int .i64 0)).run Tryz.prog w=.ok (.int .i64 a.y) w:=fun _=>by kernel_rfl
 have i1:∀ w,(Instr.index 184 (.agg #[.int .i64 a.y,.int .i64 a.top,.int .i64 b.y,.int .i64 b.top]) (.int .i64 1)).run Tryz.prog w=.ok (.int .i64 a.top) w:=fun _=>by kernel_rfl
 have i2:∀ w,(Instr.index 184 (.agg #[.int .i64 a.y,.int .i64 a.top,.int .i64 b.y,.int .i64 b.top]) (.int .i64 2)).run Tryz.prog w=.ok (.int .i64 b.y) w:=fun _=>by kernel_rfl
 have i3:∀ w,(Instr.index 184 (.agg #[.int .i64 a.y,.int .i64 a.top,.int .i64 b.y,.int .i64 b.top]) (.int .i64 3)).run Tryz.prog w=.ok (.int .i64 b.top) w:=fun _=>by kernel_rfl
 cases h1:farB a.y
 ·have HE:Hid (r=false):=Lib.hid (HF.out (fun q=>by rw[h1]at q;simp at q))
  unfold farB at h1
  rw[h1]at K1
  clear h1
  go_enter Tryz.func214,Tryz.ntmps214
  go_wp2_with fail
  refine wp_loop_rounds 5 ?_
  rw[rounds_succ]
  go_wp2_with fail
  refine(K1 _).mono ?_
  rintro e w2 ⟨rfl,rfl⟩
  go_wp2_with fail
  go_ret
  exact⟨by rw[HE.out];rfl,by exact nw⟩
 cases h2:farB a.top
 ·have HE:Hid (r=false):=Lib.hid (HF.out (fun q=>by rw[h2]at q;simp at q))
  unfold farB at h1
  rw[h1]at K1
  clear h1
  unfold farB at h2
  rw[h2]at K2
  clear h2
  go_enter Tryz.func214,Tryz.ntmps214
  go_wp2_with fail
  refine wp_loop_rounds 5 ?_
  rw[rounds_succ]
  go_wp2_with fail
  refine(K1 _).mono ?_
  rintro e w2 ⟨rfl,rfl⟩
  go_wp2_with fail
  rw[rounds_succ]
  go_wp2_with fail
  refine(K2 _).mono ?_
  rintro e w3 ⟨rfl,rfl⟩
  go_wp2_with fail
  go_ret
  exact⟨by rw[HE.out];rfl,by exact nw⟩
 cases h3:farB b.y
 ·have HE:Hid (r=false):=Lib.hid (HF.out (fun q=>by rw[h3]at q;simp at q))
  unfold farB at h1
  rw[h1]at K1
  clear h1
  unfold farB at h2
  rw[h2]at K2
  clear h2
  unfold farB at h3
  rw[h3]at K3
  clear h3
  go_enter Tryz.func214,Tryz.ntmps214
  go_wp2_with fail
  refine wp_loop_rounds 5 ?_
  rw[rounds_succ]
  go_wp2_with fail
  refine(K1 _).mono ?_
  rintro e w2 ⟨rfl,rfl⟩
  go_wp2_with fail
  rw[rounds_succ]
  go_wp2_with fail
  refine(K2 _).mono ?_
  rintro e w3 ⟨rfl,rfl⟩
  go_wp2_with fail
  rw[rounds_succ]
  go_wp2_with fail
  refine(K3 _).mono ?_
  rintro e w4 ⟨rfl,rfl⟩
  go_wp2_with fail
  go_ret
  exact⟨by rw[HE.out];rfl,by exact nw⟩
 cases h4:farB b.top
 ·have HE:Hid (r=false):=Lib.hid (HF.out (fun q=>by rw[h4]at q;simp at q))
  unfold farB at h1
  rw[h1]at K1
  clear h1
  unfold farB at h2
  rw[h2]at K2
  clear h2
  unfold farB at h3
  rw[h3]at K3
  clear h3
  unfold farB at h4
  rw[h4]at K4
  clear h4
  go_enter Tryz.func214,Tryz.ntmps214
  go_wp2_with fail
  refine wp_loop_rounds 5 ?_
  rw[rounds_succ]
  go_wp2_with fail
  refine(K1 _).mono ?_
  rintro e w2 ⟨rfl,rfl⟩
  go_wp2_with fail
  rw[rounds_succ]
  go_wp2_with fail
  refine(K2 _).mono ?_
  rintro e w3 ⟨rfl,rfl⟩
  go_wp2_with fail
  rw[rounds_succ]
  go_wp2_with fail
  refine(K3 _).mono ?_
  rintro e w4 ⟨rfl,rfl⟩
  go_wp2_with fail
  rw[rounds_succ]
  go_wp2_with fail
  refine(K4 _).mono ?_
  rintro e w5 ⟨rfl,rfl⟩
  go_wp2_with fail
  go_ret
  exact⟨by rw[HE.out];rfl,by exact nw⟩
 have hN:=HN.out h1 h2 h3 h4
 have f1:=wiB_iff.1 (show wiB a.y _ _=true from h1)
 have f2:=wiB_iff.1 (show wiB a.top _ _=true from h2)
 have f3:=wiB_iff.1 (show wiB b.y _ _=true from h3)
 have f4:=wiB_iff.1 (show wiB b.top _ _=true from h4)
 unfold farB at h1
 rw[h1]at K1
 clear h1
 unfold farB at h2
 rw[h2]at K2
 clear h2
 unfold farB at h3
 rw[h3]at K3
 clear h3
 unfold farB at h4
 rw[h4]at K4
 clear h4
 have hs1:IntKind.i64.wrap (max a.y b.y - min a.y b.y)=max a.y b.y - min a.y b.y:=IntWalk.i64_in _ (by omega)
 have hs2:IntKind.i64.wrap (min a.top b.top - max a.y b.y)=min a.top b.top - max a.y b.y:=IntWalk.i64_in _ (by omega)
 clear f1 f2 f3 f4
 have HN2:=Lib.hid hN
 clear hN HN HF HR
 go_enter Tryz.func214,Tryz.ntmps214
 go_wp2_with fail
 refine wp_loop_rounds 5 ?_
 rw[rounds_succ]
 go_wp2_with fail
 refine(K1 _).mono ?_
 rintro e w2 ⟨rfl,rfl⟩
 go_wp2_with fail
 rw[rounds_succ]
 go_wp2_with fail
 refine(K2 _).mono ?_
 rintro e w3 ⟨rfl,rfl⟩
 go_wp2_with fail
 rw[rounds_succ]
 go_wp2_with fail
 refine(K3 _).mono ?_
 rintro e w4 ⟨rfl,rfl⟩
 go_wp2_with fail
 rw[rounds_succ]
 go_wp2_with fail
 refine(K4 _).mono ?_
 rintro e w5 ⟨rfl,rfl⟩
 go_wp2_with fail
 rw[rounds_succ]
 go_wp2_with fail
 refine Code.at (fun W hW=>?_)
 have n0:New w W:=by subst hW;exact nw
 have c1:W.cell? ⟨w.heap.size,1,none⟩=some (.int .i64 C.cb):=by subst hW;go_simp
 have c2:W.cell? ⟨w.heap.size,2,none⟩=some (.int .i64 C.ht):=by subst hW;go_simp
 have a0:W.cell? ⟨w.heap.size+1,0,none⟩=some (.int .i64 a.y):=by subst hW;go_simp
 have a1:W.cell? ⟨w.heap.size+1,1,none⟩=some (.int .i64 a.top):=by subst hW;go_simp
 have a2:W.cell? ⟨w.heap.size+1,2,none⟩=some (.int .i64 a.area):=by subst hW;go_simp
 have b0:W.cell? ⟨w.heap.size+1+1,0,none⟩=some (.int .i64 b.y):=by subst hW;go_simp
 have b1:W.cell? ⟨w.heap.size+1+1,1,none⟩=some (.int .i64 b.top):=by subst hW;go_simp
 have b2:W.cell? ⟨w.heap.size+1+1,2,none⟩=some (.int .i64 b.area):=by subst hW;go_simp
 clear hW i0 i1 i2 i3 K1 K2 K3 K4
 (refine wp_region_hat (by kernel_rfl) (by kernel_rfl) ?_;intro hatc hatf;(repeat(go_big_quiet_step ((fail))));refine wpQuiet_nil ?_;rintro _ ⟨q,rfl⟩)
 go_wp2_with fail
 all_goals
  go_ret
  refine⟨?_,n0.trans q.h⟩
  rw[HN2.out]
  first|(simp[*];done)|(simp[*];omega)
theorem lk_column (C:CfgR) (G:Gd) (hE:gE G=0) (x z:Int) (w0 w:World) (hn0:New w0 w) (h:G.ok w0):Calls Tryz.prog 213 #[.agg #[.int .i64 C.cl,.int .i64 C.cb,.int .i64 C.ht,.int .i64 C.ri,.int .i64 C.ru,.int .i64 C.wd,.int .i64 C.dp,.int .i64 G.x,.int .i64 G.z,.int .i64 G.w,.int .i64 G.d,.slice G.ga G.L.length G.gc],.int .i64 x,.int .i64 z] w fun e w'=>∃ v,e=.returned v∧Sl Fl.enc 3 w0 v (atG G x z)∧New w w':=by
 have KW:=Lib.hid (fun n lo hi W=>lk_within n lo hi W)
 have HH:Hid (RowsK Fl.enc 3 w0 (.slice G.ga G.L.length G.gc) G.L):=Lib.hid h
 have hb:=placeB_iff.1 (gd_is hE).1
 have K1:=fun W=>KW.out x G.x (G.x+G.w - 1) W
 have K2:=fun W=>KW.out z G.z (G.z+G.d - 1) W
 have hxa:IntKind.i64.wrap (G.x+G.w)=G.x+G.w:=IntWalk.i64_in _ (by omega)
 have hxb:IntKind.i64.wrap (G.x+G.w - 1)=G.x+G.w - 1:=IntWalk.i64_in _ (by omega)
 have hza:IntKind.i64.wrap (G.z+G.d)=G.z+G.d:=IntWalk.i64_in _ (by omega)
 have hzb:IntKind.i64.wrap (G.z+G.d - 1)=G.z+G.d - 1:=IntWalk.i64_in _ (by omega)
 have hin:inG G x z=(wiB x G.x (G.x+G.w - 1)&&wiB z G.z (G.z+G.d - 1)):=rfl
 have HI:=Lib.hid (fun q=>(ixG_is hE (x:=x) (z:=z) q:_))
 have HQ:=Lib.hid (fun q=>(inG_iff (G:=G) (x:=x) (z:=z)).1 q)
 have HB:=Lib.hid hb
 obtain⟨n,hn⟩:∃ n,n=G.L.length:=⟨_,rfl⟩
 rw[←hn]at HH ⊢
 have HN:=Lib.hid hn
 obtain⟨ga,hga⟩:∃ q,q=G.ga:=⟨_,rfl⟩
 rw[←hga]at HH ⊢
 clear hn h KW hb hga
 cases h1:wiB x G.x (G.x+G.w - 1)
 ·have HO:Hid (atG G x z=[]):=Lib.hid (atG_out (by rw[hin,h1];rfl))
  rw[h1]at K1
  clear hin h1
  go_enter Tryz.func213,Tryz.ntmps213
  go_wp2_with fail
  refine(K1 _).mono ?_
  rintro e w2 ⟨rfl,rfl⟩
  go_wp2_with fail
  go_ret
  exact⟨_,rfl,by rw[HO.out];exact Sl.nil,by exact nw⟩
 cases h2:wiB z G.z (G.z+G.d - 1)
 ·have HO:Hid (atG G x z=[]):=Lib.hid (atG_out (by rw[hin,h1,h2];rfl))
  rw[h1]at K1
  rw[h2]at K2
  clear hin h1 h2
  go_enter Tryz.func213,Tryz.ntmps213
  go_wp2_with fail
  refine(K1 _).mono ?_
  rintro e w2 ⟨rfl,rfl⟩
  go_wp2_with fail
  refine(K2 _).mono ?_
  rintro e w2 ⟨rfl,rfl⟩
  go_wp2_with fail
  go_ret
  exact⟨_,rfl,by rw[HO.out];exact Sl.nil,by exact nw⟩
 have hq:inG G x z=true:=by rw[hin,h1,h2];rfl
 have HO:=Lib.hid (atG_in hE hq)
 rw[h1]at K1
 rw[h2]at K2
 clear hin h1 h2
 obtain⟨i1,i2,i3,i4⟩:=HI.out hq
 have hr:=HQ.out hq
 have hb:=HB.out
 have hs1:IntKind.i64.wrap (z - G.z)=z - G.z:=IntWalk.i64_in _ (by omega)
 have hs2:IntKind.i64.wrap ((z - G.z)*G.w)=(z - G.z)*G.w:=IntWalk.i64_in _ (by omega)
 have hs3:IntKind.i64.wrap ((z - G.z)*G.w+x)=(z - G.z)*G.w+x:=IntWalk.i64_in _ (by omega)
 have hs4:IntKind.i64.wrap ((z - G.z)*G.w+x - G.x)=(ixG G x z:Int):=by rw[IntWalk.i64_in _ (by omega)];omega
 obtain⟨b,off,a,c,rfl,hc,hs⟩:=HH.out.at (ixG G x z) i4
 have hkn:ixG G x z<n:=by rw[HN.out];exact i4
 have hO:=HO.out
 obtain⟨l,hl⟩:∃ l,l=G.L[ixG G x z]:=⟨_,rfl⟩
 rw[←hl]at hc hs hO
 have HS:=Lib.hid hs
 replace hc:=hn0.keep hc
 have hbz:b<w.heap.size:=World.block_lt_of_cell? _ _ hc
 have HO2:=Lib.hid hO
 obtain⟨m,hm⟩:∃ m,m=l.length:=⟨_,rfl⟩
 rw[←hm]at hc HS
 clear hl hs hO HO HI HQ HB i1 i2 i3 i4 hr hb hq HH hm
 generalize ixG G x z=k at *
 go_enter Tryz.func213,Tryz.ntmps213
 go_wp2_with fail
 refine(K1 _).mono ?_
 rintro e w2 ⟨rfl,rfl⟩
 go_wp2_with fail
 refine(K2 _).mono ?_
 rintro e w2 ⟨rfl,rfl⟩
 go_wp2_with fail
 go_ret
 exact⟨_,rfl,by rw[HO2.out];exact HS.out,by exact nw⟩
def flO (o:Option Fl):Fl:=o.getD Fl.zero
theorem at_len {G:Gd} (hE:gE G=0) (x z:Int):(atG G x z).length≤8:=atG_len hE x z
theorem lk_floor (C:CfgR) (G:Gd) (hE:gE G=0) (s:Sdk) (w0 w:World) (hn0:New w0 w) (h:G.ok w0):Calls Tryz.prog 211 #[.agg #[.int .i64 C.cl,.int .i64 C.cb,.int .i64 C.ht,.int .i64 C.ri,.int .i64 C.ru,.int .i64 C.wd,.int .i64 C.dp,.int .i64 G.x,.int .i64 G.z,.int .i64 G.w,.int .i64 G.d,.slice G.ga G.L.length G.gc],.agg #[.int .i64 s.x,.int .i64 s.z,.int .i64 s.k]] w fun e w'=>e=.returned (.tuple #[.agg #[.int .i64 (flO (flG G s)).y,.int .i64 (flO (flG G s)).top,.int .i64 (flO (flG G s)).area],.bool (flG G s).isSome])∧New w w':=by
 have KC:=Lib.hid (fun W (q:New w W)=>lk_column C G hE s.x s.z w0 W (hn0.trans q) h)
 have KW:=Lib.hid (fun n hi (W:World)=>lk_within n 0 hi W)
 have hl8:=at_len hE s.x s.z
 obtain⟨o,ho⟩:∃ o,o=flG G s:=⟨_,rfl⟩
 have HN:=Lib.hid (fun q=>flG_none (G:=G) (s:=s) q)
 have HS:=Lib.hid (fun(k:Nat) (e:s.k=k) q=>flG_some (G:=G) e q)
 rw[←ho]at HN HS ⊢
 clear ho
 obtain⟨n,hn⟩:∃ n,n=G.L.length:=⟨_,rfl⟩
 rw[←hn]at KC ⊢
 clear hn h
 generalize atG G s.x s.z=l at *
 obtain⟨m,hm⟩:∃ m,m=l.length:=⟨_,rfl⟩
 have HM:=Lib.hid hm
 rw[←hm]at hl8
 have hw1:IntKind.i64.wrap ((m:Int) - 1)=m - 1:=IntWalk.i64_in _ (by omega)
 have KW1:=Lib.hid (fun W=>KW.out s.k (m - 1) W)
 clear hm
 go_enter Tryz.func211,Tryz.ntmps211
 go_wp2_with fail
 refine Calls.at (fun W hW=>?_)
 have n0:New w W:=by subst hW;exact nw
 have s0:W.cell? ⟨w.heap.size+1,0,none⟩=some (.int .i64 s.x):=by subst hW;go_simp
 have s1:W.cell? ⟨w.heap.size+1,1,none⟩=some (.int .i64 s.z):=by subst hW;go_simp
 have s2:W.cell? ⟨w.heap.size+1,2,none⟩=some (.int .i64 s.k):=by subst hW;go_simp
 have z0:W.cell? ⟨w.heap.size+1+1,0,none⟩=some (.int .i64 0):=by subst hW;go_simp
 have z1:W.cell? ⟨w.heap.size+1+1,1,none⟩=some (.int .i64 0):=by subst hW;go_simp
 have z2:W.cell? ⟨w.heap.size+1+1,2,none⟩=some (.int .i64 0):=by subst hW;go_simp
 have f0:W.frozen? ⟨w.heap.size+1+1,0,none⟩=false:=by subst hW;go_simp
 have f1:W.frozen? ⟨w.heap.size+1+1,1,none⟩=false:=by subst hW;go_simp
 have f2:W.frozen? ⟨w.heap.size+1+1,2,none⟩=false:=by subst hW;go_simp
 clear hW
 refine(KC.out _ n0).mono ?_
 rintro e w1 ⟨v,rfl,hs,n1⟩
 replace s0:=n1.keep s0
 replace s1:=n1.keep s1
 replace s2:=n1.keep s2
 replace f0:=n1.keepF z0 f0
 replace f1:=n1.keepF z1 f1
 replace f2:=n1.keepF z2 f2
 replace z0:=n1.keep z0
 replace z1:=n1.keep z1
 replace z2:=n1.keep z2
 have N1:=n0.trans n1
 obtain⟨a,c,rfl,-,-,-,hr⟩:=hs
 have HRW:=Lib.hid hr
 clear hr n0 n1 KC
 rw[←HM.out]
 go_wp2_with fail
 refine(KW1.out _).mono ?_
 rintro e w2 ⟨rfl,rfl⟩
 cases hk:wiB s.k 0 (m - 1)
 ·have hb:=wiB_not.1 hk
  have HO:=Lib.hid (HN.out (by rw[←HM.out];omega))
  clear hk hb HN HS
  go_wp2_with fail
  generalize hW5:World.setCell _ _ _=W5
  have n5:New w W5:=by subst hW5;exact nw
  have k0:W5.cell? ⟨w.heap.size+1+1,0,none⟩=some (.int .i64 0):=by subst hW5;go_simp
  have k1:W5.cell? ⟨w.heap.size+1+1,1,none⟩=some (.int .i64 0):=by subst hW5;go_simp
  have k2:W5.cell? ⟨w.heap.size+1+1,2,none⟩=some (.int .i64 0):=by subst hW5;go_simp
  clear hW5 z0 z1 z2 f0 f1 f2
  refine bodyPost_ret (v:=.tuple #[.agg #[.int .i64 0,.int .i64 0,.int .i64 0],.bool false]) (by simp[results,Tryz.results211,go_sem, *]) rfl ?_
  rw[HO.out]
  exact⟨rfl,n5⟩
 ·have hb:=wiB_iff.1 hk
  obtain⟨k,hkk⟩:∃ k:Nat,s.k=k:=⟨s.k.toNat,by omega⟩
  have hkm:k<m:=by omega
  have hkl:k<l.length:=by rw[←HM.out];exact hkm
  have HO:=Lib.hid (HS.out k hkk hkl)
  obtain⟨b,off,rfl,hA⟩:=HRW.out (by omega)
  obtain⟨c0,c1,c2⟩:=Fl.cells (hA.keep (hn0.trans N1)) k hkl
  obtain⟨f,hf⟩:∃ f,f=l[k]:=⟨_,rfl⟩
  rw[←hf]at c0 c1 c2
  have HF:Hid (o=some f):=Lib.hid (by rw[HO.out,hf])
  rw[hkk]at s2
  clear hk hb HN HS HO hA hf HRW
  go_wp2_with fail
  generalize hW5:World.setCell _ _ _=W5
  have n5:New w W5:=by subst hW5;exact nw
  have k0:W5.cell? ⟨w.heap.size+1+1,0,none⟩=some (.int .i64 f.y):=by subst hW5;go_simp
  have k1:W5.cell? ⟨w.heap.size+1+1,1,none⟩=some (.int .i64 f.top):=by subst hW5;go_simp
  have k2:W5.cell? ⟨w.heap.size+1+1,2,none⟩=some (.int .i64 f.area):=by subst hW5;go_simp
  clear hW5 z0 z1 z2 f0 f1 f2
  refine bodyPost_ret (v:=.tuple #[.agg #[.int .i64 f.y,.int .i64 f.top,.int .i64 f.area],.bool true]) (by simp[results,Tryz.results211,go_sem, *]) rfl ?_
  rw[HF.out]
  exact⟨rfl,n5⟩
structure OnAt (C:CfgR) (G:Gd) (n:Nat) (W:World) (B:Nat):Prop where
 c0:W.cell? ⟨B,0,none⟩=some (.int .i64 C.cl)
 c1:W.cell? ⟨B,1,none⟩=some (.int .i64 C.cb)
 c2:W.cell? ⟨B,2,none⟩=some (.int .i64 C.ht)
 c3:W.cell? ⟨B,3,none⟩=some (.int .i64 C.ri)
 c4:W.cell? ⟨B,4,none⟩=some (.int .i64 C.ru)
 c5:W.cell? ⟨B,5,none⟩=some (.int .i64 C.wd)
 c6:W.cell? ⟨B,6,none⟩=some (.int .i64 C.dp)
 g0:W.cell? ⟨B,7,none⟩=some (.int .i64 G.x)
 g1:W.cell? ⟨B,8,none⟩=some (.int .i64 G.z)
 g2:W.cell? ⟨B,9,none⟩=some (.int .i64 G.w)
 g3:W.cell? ⟨B,10,none⟩=some (.int .i64 G.d)
 g4:W.cell? ⟨B,11,none⟩=some (.slice G.ga n G.gc)
theorem OnAt.new {C:CfgR} {G:Gd} {n:Nat} {W W':World} {B:Nat} (h:OnAt C G n W B) (q:New W W'):OnAt C G n W' B :=
 ⟨q.keep h.c0,q.keep h.c1,q.keep h.c2,q.keep h.c3,q.keep h.c4,q.keep h.c5,q.keep h.c6,q.keep h.g0,q.keep h.g1,q.keep h.g2,q.keep h.g3,q.keep h.g4⟩
structure SdAt (s:Sdk) (W:World) (B:Nat):Prop where
 c0:W.cell? ⟨B,0,none⟩=some (.int .i64 s.x)
 c1:W.cell? ⟨B,1,none⟩=some (.int .i64 s.z)
 c2:W.cell? ⟨B,2,none⟩=some (.int .i64 s.k)
theorem SdAt.new {s:Sdk} {W W':World} {B:Nat} (h:SdAt s W B) (q:New W W'):SdAt s W' B:=⟨q.keep h.c0,q.keep h.c1,q.keep h.c2⟩
structure FlAt (s:Fl) (W:World) (B:Nat):Prop where
 c0:W.cell? ⟨B,0,none⟩=some (.int .i64 s.y)
 c1:W.cell? ⟨B,1,none⟩=some (.int .i64 s.top)
 c2:W.cell? ⟨B,2,none⟩=some (.int .i64 s.area)
theorem FlAt.new {s:Fl} {W W':World} {B:Nat} (h:FlAt s W B) (q:New W W'):FlAt s W' B:=⟨q.keep h.c0,q.keep h.c1,q.keep h.c2⟩
structure Res3 (W:World) (B:Nat):Prop where
 c0:W.cell? ⟨B,0,none⟩=some (.int .i64 0)
 c1:W.cell? ⟨B,1,none⟩=some (.int .i64 0)
 c2:W.cell? ⟨B,2,none⟩=some (.int .i64 0)
 f0:W.frozen? ⟨B,0,none⟩=false
 f1:W.frozen? ⟨B,1,none⟩=false
 f2:W.frozen? ⟨B,2,none⟩=false
theorem Res3.new {W W':World} {B:Nat} (h:Res3 W B) (q:New W W'):Res3 W' B:=⟨q.keep h.c0,q.keep h.c1,q.keep h.c2,q.keepF h.c0 h.f0,q.keepF h.c1 h.f1,q.keepF h.c2 h.f2⟩
theorem lk_to (C:CfgR) (G:Gd) (hE:gE G=0) (s:Sdk) (d:Int) (w0 w:World) (hn0:New w0 w) (h:G.ok w0) (hD:Dirs w):Calls Tryz.prog 179 #[.agg #[.int .i64 C.cl,.int .i64 C.cb,.int .i64 C.ht,.int .i64 C.ri,.int .i64 C.ru,.int .i64 C.wd,.int .i64 C.dp,.int .i64 G.x,.int .i64 G.z,.int .i64 G.w,.int .i64 G.d,.slice G.ga G.L.length G.gc],.agg #[.int .i64 s.x,.int .i64 s.z,.int .i64 s.k],.int .i64 d] w fun e w'=>e=.returned (.tuple #[.agg #[.int .i64 (sdO (toS C G s d)).x,.int .i64 (sdO (toS C G s d)).z,.int .i64 (sdO (toS C G s d)).k],.bool (toS C G s d).isSome])∧New w w':=by
 have KF:=Lib.hid (fun W (q:New w W)=>lk_floor C G hE s w0 W (hn0.trans q) h)
 have KC:=Lib.hid (fun x z W (q:New w W)=>lk_column C G hE x z w0 W (hn0.trans q) h)
 have KS:=Lib.hid (fun W (q:New w W)=>lk_Step d W (hD.new q))
 have KL:=Lib.hid (fun a b W=>lk_linked C a b W)
 have hl8:=at_len hE (s.x+dxD d) (s.z+dzD d)
 obtain⟨r,hr⟩:∃ r,r=toS C G s d:=⟨_,rfl⟩
 have R1:Hid (flG G s=none→r=none):=Lib.hid (fun q=>by rw[hr,toS_floor q])
 have R2:Hid (okD d=false→r=none):=Lib.hid (fun q=>by rw[hr,toS_dir q])
 obtain⟨l,hl⟩:∃ l,l=atG G (s.x+dxD d) (s.z+dzD d):=⟨_,rfl⟩
 have R3:Hid (∀ a,flG G s=some a→okD d=true→∀ i (hi:i<l.length),lkB C a l[i]=true→(∀ j (hj:j<l.length),j<i→lkB C a l[j]=false)→r=some ⟨s.x+dxD d,s.z+dzD d,i⟩):=Lib.hid (fun a q1 q2 i hi q3 q4=>by rw[hr,toS_hit q1 q2 hl hi q3 q4])
 have R4:Hid (∀ a,flG G s=some a→okD d=true→(∀ j (hj:j<l.length),lkB C a l[j]=false)→r=none):=Lib.hid (fun a q1 q2 q3=>by rw[hr,toS_miss q1 q2 hl q3])
 have RI:Hid (∀ a,flG G s=some a → -100≤s.x∧s.x≤200 ∧ -100≤s.z∧s.z≤200):=Lib.hid (fun a q=>by
  have h1:=inG_iff.1 (flG_in q)
  have h2:=placeB_iff.1 (gd_is hE).1
  omega)
 rw[←hr]
 rw[←hl]at hl8
 have KC2:=Lib.hid (fun W (q:New w W)=>by
  have:=KC.out (s.x+dxD d) (s.z+dzD d) W q
  rw[←hl]at this
  exact this)
 have hdx:=dxD_small d
 have hdz:=dzD_small d
 obtain⟨n,hn⟩:∃ n,n=G.L.length:=⟨_,rfl⟩
 rw[←hn]at KF KC2 ⊢
 clear hr hl hn h hD KC hE
 unfold stV at KS
 obtain⟨dx,hdx1⟩:∃ x,x=dxD d:=⟨_,rfl⟩
 obtain⟨dz,hdz1⟩:∃ x,x=dzD d:=⟨_,rfl⟩
 rw[←hdx1]at KS KC2 R3 hdx
 rw[←hdz1]at KS KC2 R3 hdz
 clear hdx1 hdz1
 generalize flG G s=o at *
 go_enter Tryz.func179,Tryz.ntmps179
 go_wp2_with fail
 refine Calls.at (fun W hW=>?_)
 have n0:New w W:=by subst hW;exact nw
 have HG:Hid (OnAt C G n W w.heap.size):=Lib.hid (by subst hW;exact⟨by go_simp,by go_simp,by go_simp,by go_simp,by go_simp,by go_simp,by go_simp,by go_simp,by go_simp,by go_simp,by go_simp,by go_simp⟩)
 have HS:Hid (SdAt s W (w.heap.size+1)):=Lib.hid (by subst hW;exact⟨by go_simp,by go_simp,by go_simp⟩)
 have HZ:Hid (Res3 W (w.heap.size+1+1)):=Lib.hid (by subst hW;exact⟨by go_simp,by go_simp,by go_simp,by go_simp,by go_simp,by go_simp⟩)
 clear hW
 refine(KF.out _ n0).mono ?_
 rintro e w1 ⟨rfl,n1⟩
 have N1:=Lib.hid (n0.trans n1)
 replace HG:=Lib.hid (HG.out.new n1)
 replace HS:=Lib.hid (HS.out.new n1)
 replace HZ:=Lib.hid (HZ.out.new n1)
 clear n0 n1 KF
 go_wp2_with fail
 refine Calls.at (fun W2 hW=>?_)
 have n2:New w1 W2:=by subst hW;exact nw
 have HA:Hid (FlAt (flO o) W2 w1.heap.size):=Lib.hid (by subst hW;exact⟨by go_simp,by go_simp,by go_simp⟩)
 clear hW
 have N2:=Lib.hid (N1.out.trans n2)
 refine(KS.out _ N2.out).mono ?_
 rintro e w3 ⟨rfl,n3⟩
 have N3:=Lib.hid (N2.out.trans n3)
 replace HG:=Lib.hid (HG.out.new (n2.trans n3))
 replace HS:=Lib.hid (HS.out.new (n2.trans n3))
 replace HZ:=Lib.hid (HZ.out.new (n2.trans n3))
 replace HA:=Lib.hid (HA.out.new n3)
 clear n2 n3 KS N1 N2
 rcases o with _|a
 ·have HR:=Lib.hid (R1.out rfl)
  obtain⟨z0,z1,z2,f0,f1,f2⟩:=HZ.out
  have n3:=N3.out
  simp only[Option.isSome_none]
  clear R1 R2 R3 R4 RI
  go_wp2_with fail
  ((generalize hW5:World.setCell _ _ _=W5);(have n5:New w W5:=(by subst hW5;exact nw));(have k0:W5.cell? ⟨w.heap.size+1+1,0,none⟩=some (.int .i64 0):=(by subst hW5;go_simp));(have k1:W5.cell? ⟨w.heap.size+1+1,1,none⟩=some (.int .i64 0):=(by subst hW5;go_simp));(have k2:W5.cell? ⟨w.heap.size+1+1,2,none⟩=some (.int .i64 0):=(by subst hW5;go_simp));clear hW5 z0 z1 z2 f0 f1 f2;refine bodyPost_ret (v:=.tuple #[.agg #[.int .i64 0,.int .i64 0,.int .i64 0],.bool false]) (by simp[results,Tryz.results179,go_sem, *]) rfl ?_)
  rw[HR.out]
  exact⟨rfl,n5⟩
 simp only[Option.isSome_some]
 obtain⟨i1,i2,i3,i4⟩:=RI.out a rfl
 replace HA:Hid (FlAt a w3 w1.heap.size):=Lib.hid HA.out
 have R3':=Lib.hid (R3.out a rfl)
 have R4':=Lib.hid (R4.out a rfl)
 clear R1 R3 R4 RI
 have hfl:flO (some a)=a:=rfl
 rw[hfl]
 clear hfl
 cases hok:okD d
 ·have HR:=Lib.hid (R2.out hok)
  obtain⟨z0,z1,z2,f0,f1,f2⟩:=HZ.out
  have n3:=N3.out
  clear hok R2 R3' R4'
  go_wp2_with fail
  ((generalize hW5:World.setCell _ _ _=W5);(have n5:New w W5:=(by subst hW5;exact nw));(have k0:W5.cell? ⟨w.heap.size+1+1,0,none⟩=some (.int .i64 0):=(by subst hW5;go_simp));(have k1:W5.cell? ⟨w.heap.size+1+1,1,none⟩=some (.int .i64 0):=(by subst hW5;go_simp));(have k2:W5.cell? ⟨w.heap.size+1+1,2,none⟩=some (.int .i64 0):=(by subst hW5;go_simp));clear hW5 z0 z1 z2 f0 f1 f2;refine bodyPost_ret (v:=.tuple #[.agg #[.int .i64 0,.int .i64 0,.int .i64 0],.bool false]) (by simp[results,Tryz.results179,go_sem, *]) rfl ?_)
  rw[HR.out]
  exact⟨rfl,n5⟩
 have R5:=Lib.hid (R3'.out hok)
 have R6:=Lib.hid (R4'.out hok)
 clear R2 R3' R4' hok
 have hsx:IntKind.i64.wrap (s.x+dx)=s.x+dx:=IntWalk.i64_in _ (by omega)
 have hsz:IntKind.i64.wrap (s.z+dz)=s.z+dz:=IntWalk.i64_in _ (by omega)
 clear i1 i2 i3 i4 hdx hdz
 obtain⟨s0,s1,s2⟩:=HS.out
 go_wp2_with fail
 (refine wp_region_hat (by kernel_rfl) (by kernel_rfl) ?_;intro hatc hatf;(repeat(go_big_quiet_step ((fail))));refine wpQuiet_nil ?_;rintro _ ⟨q,rfl⟩)
 replace HG:=Lib.hid (HG.out.new q.h)
 replace HA:=Lib.hid (HA.out.new q.h)
 replace HZ:=Lib.hid (HZ.out.new q.h)
 replace N3:=Lib.hid (N3.out.trans q.h)
 clear hatc hatf s0 s1 s2 HS
 generalize q.w=w4 at *
 clear q
 obtain⟨c0,c1,c2,c3,c4,c5,c6,g0,g1,g2,g3,g4⟩:=HG.out
 go_wp2_with fail
 refine(KC2.out _ N3.out).mono ?_
 rintro e w5 ⟨v,rfl,hs,n5⟩
 clear c0 c1 c2 c3 c4 c5 c6 g0 g1 g2 g3 g4
 replace HG:=Lib.hid (HG.out.new n5)
 replace HA:=Lib.hid (HA.out.new n5)
 replace HZ:=Lib.hid (HZ.out.new n5)
 replace N3:=Lib.hid (N3.out.trans n5)
 obtain⟨ra,rc,rfl,-,-,-,hrow⟩:=hs
 have HRW:=Lib.hid hrow
 clear hrow n5 KC2
 obtain⟨m,hm⟩:∃ m,m=l.length:=⟨_,rfl⟩
 have HM:=Lib.hid hm
 rw[←hm]at hl8 ⊢
 clear hm
 have hz5:w.heap.size+1+1<w5.heap.size:=World.block_lt_of_cell? _ _ HZ.out.c0
 go_wp2_with fail
 go_loopg [49] m (fun gk s49 wr=>∃ i:Nat,s49=.int .i64 i∧i≤m∧m - i≤gk∧Hid (∀ j (hj:j<l.length),j<i→lkB C a l[j]=false)∧Hid (New w5 wr))
 case atStart=>exact⟨0,rfl,by omega,by omega,Lib.hid (fun j _ h=>by omega),Lib.hid (New.refl _)⟩
 case round =>
  obtain⟨i,rfl,hi,hgk,HB,hnr⟩:=hrel
  have HGr:=Lib.hid (HG.out.new hnr.out)
  have HAr:=Lib.hid (HA.out.new hnr.out)
  have HZr:=Lib.hid (HZ.out.new hnr.out)
  by_cases hlt:i<m
  ·have hil:i<l.length:=by rw[←HM.out];exact hlt
   obtain⟨b,off,rfl,hA⟩:=HRW.out (by omega)
   obtain⟨d0,d1,d2⟩:=Fl.cells (hA.keep (hn0.trans (N3.out.trans hnr.out))) i hil
   have KLi:=Lib.hid (KL.out a l[i])
   have R5i:=Lib.hid (fun q=>R5.out i hil q HB.out)
   obtain⟨f,hf⟩:∃ f,f=l[i]:=⟨_,rfl⟩
   rw[←hf]at d0 d1 d2 KLi R5i
   have HF:=Lib.hid hf
   obtain⟨c0,c1,c2,c3,c4,c5,c6,-,-,-,-,-⟩:=HGr.out
   obtain⟨a0,a1,a2⟩:=HAr.out
   obtain⟨lb,hlb⟩:∃ q,q=lkB C a f:=⟨_,rfl⟩
   rw[←hlb]at KLi R5i
   have HLB:=Lib.hid hlb
   have hz1:=World.block_lt_of_cell? _ _ c0
   have hz2:=World.block_lt_of_cell? _ _ a0
   simp only[]at hz1 hz2
   clear hA hf hlb
   go_wp2_with fail
   refine Calls.at (fun W6 hW=>?_)
   have n6:New wr W6:=by subst hW;exact nw
   clear hW c0 c1 c2 c3 c4 c5 c6 a0 a1 a2 d0 d1 d2
   refine(KLi.out _).mono ?_
   rintro e w7 ⟨rfl,n7⟩
   have nn:=Lib.hid (hnr.out.trans (n6.trans n7))
   obtain⟨z0,z1,z2,f0,f1,f2⟩:=HZr.out.new (n6.trans n7)
   have NN:=Lib.hid (N3.out.trans nn.out)
   clear n6 n7
   cases lb
   ·have hnx:Hid (∀ j (hj:j<l.length),j<i+1→lkB C a l[j]=false):=Lib.hid (fun j hj h=>by
     by_cases e:j<i
     ·exact HB.out j hj e
     ·obtain rfl:j=i:=by omega
      rw[←HF.out];exact HLB.out.symm)
    clear R5i z0 z1 z2 f0 f1 f2
    go_wp2_with fail
    go_roundg (m - (i+1))
    case measure=>omega
    case rel=>exact⟨i+1,by go_num,by omega,by omega,hnx,nn⟩
   ·have HR:=Lib.hid (R5i.out rfl)
    have n3:=NN.out
    clear R5i
    go_wp2_with fail
    ((generalize hW5:World.setCell _ _ _=W5);(have n5:New w W5:=(by subst hW5;exact nw));(have k0:W5.cell? ⟨w.heap.size+1+1,0,none⟩=some (.int .i64 (s.x+dx)):=(by subst hW5;go_simp));(have k1:W5.cell? ⟨w.heap.size+1+1,1,none⟩=some (.int .i64 (s.z+dz)):=(by subst hW5;go_simp));(have k2:W5.cell? ⟨w.heap.size+1+1,2,none⟩=some (.int .i64 (i:Int)):=(by subst hW5;go_simp));clear hW5 z0 z1 z2 f0 f1 f2;refine bodyPost_ret (v:=.tuple #[.agg #[.int .i64 (s.x+dx),.int .i64 (s.z+dz),.int .i64 (i:Int)],.bool true]) (by simp[results,Tryz.results179,go_sem, *]) rfl ?_)
    rw[HR.out]
    exact⟨rfl,n5⟩
  ·obtain rfl:i=m:=by omega
   have HR:=Lib.hid (R6.out (fun j hj=>HB.out j hj (by rw[HM.out];exact hj)))
   obtain⟨z0,z1,z2,f0,f1,f2⟩:=HZr.out
   have n3:=N3.out.trans hnr.out
   go_wp2_with fail
   ((generalize hW5:World.setCell _ _ _=W5);(have n5:New w W5:=(by subst hW5;exact nw));(have k0:W5.cell? ⟨w.heap.size+1+1,0,none⟩=some (.int .i64 0):=(by subst hW5;go_simp));(have k1:W5.cell? ⟨w.heap.size+1+1,1,none⟩=some (.int .i64 0):=(by subst hW5;go_simp));(have k2:W5.cell? ⟨w.heap.size+1+1,2,none⟩=some (.int .i64 0):=(by subst hW5;go_simp));clear hW5 z0 z1 z2 f0 f1 f2;refine bodyPost_ret (v:=.tuple #[.agg #[.int .i64 0,.int .i64 0,.int .i64 0],.bool false]) (by simp[results,Tryz.results179,go_sem, *]) rfl ?_)
   rw[HR.out]
   exact⟨rfl,n5⟩
end Go.Proofs.YtmhghnbgllaihaaGreatDoor
