import Derived.Test.YtmhghnbgllaihaaGreatDoorOgCP1Z1
import Derived.Test.YtmhghnbgllaihaaGreatDoorRows
import Derived.Test.YtmhghnbgllaihaaGreatDoorWholeMP1Z1
import Derived.LaidMore
import Derived.MakeChecks
import Derived.ProofKit
import Derived.OpenShut
import Derived.Stop.Joined
import Derived.Test.YtmhghnbgllaihaaGreatDoorRaAP1Z1
import Derived.Test.YtmhghnbgllaihaaGreatDoorOgIP1Z1
import Derived.Test.YtmhghnbgllaihaaGreatDoorSoSP1Z1
import Derived.Deep.MidRow

namespace Go.Proofs.YtmhghnbgllaihaaGreatDoor
open Go.RowKit
set_option linter.unusedVariables false
theorem optLen {α:Type} (o:Option α):o.toList.length≤1:=by cases o <;> simp
theorem opt_map_toList {α β:Type} {f:α→β} (o:Option α):(o.map f).toList=o.toList.map f:=by cases o <;> rfl
section
variable {α:Type} [DecidableEq α]
def rndP (go:α→Int→Option α) (s:α) (d e:Int):Option α:=match go s d with
  | some m=>go m e
  | none=>none
def bothP (a b:Option α):Option α:=match a,b with
  | some t,some u=>if t=u then some t else none
  | _,_=>none
def diaP (go:α→Int→Option α) (s:α) (d e:Int):Option α:=bothP (rndP go s d e) (rndP go s e d)
def arN (go:α→Int→Option α) (s:α):Nat→List α
  | 0=>[]
  | n+1=>(arN go s n++(go s n).toList)++(diaP go s n (nextD n)).toList
def arP (go:α→Int→Option α) (s:α):List α:=arN go s 4
def fulP (go:α→Int→Option α) (s:α):Bool:=decide (8≤(arP go s).length)
def geB (go:α→Int→Option α):Nat→α→Bool
  | 0,_=>true
  | n+1,s=>fulP go s&&(arP go s).all (geB go n)
def clr (go:α→Int→Option α):Nat→α→Nat
  | 0,_=>0
  | m+1,s=>if geB go (m+1) s=true then m+1 else clr go m s
variable {go:α→Int→Option α}
theorem bothP_is {a b:Option α} {t:α} (h:bothP a b=some t):a=some t∧b=some t:=by
  unfold bothP at h
  split at h
  · rename_i t' u
    split at h
    · rename_i e
      subst e
      cases h
      exact⟨rfl,rfl⟩
    · cases h
  · cases h
theorem arN_len (s:α):∀ n,(arN go s n).length≤2*n
  | 0=>by simp[arN]
  | n+1=>by
    have h1:=arN_len s n
    have h2:=optLen (go s n)
    have h3:=optLen (diaP go s n (nextD n))
    simp only[arN,List.length_append]
    omega
theorem arP_len (s:α):(arP go s).length≤8:=arN_len s 4
theorem mem_arN {s t:α}:∀ {n:Nat},t∈arN go s n↔∃ d:Nat,d<n∧(go s d=some t∨diaP go s d (nextD d)=some t)
  | 0=>by simp[arN]
  | n+1=>by
    simp only[arN,List.mem_append,Option.mem_toList,mem_arN (n:=n)]
    constructor
    · rintro((⟨d,hd,h⟩|h)|h)
      · exact⟨d,by omega,h⟩
      · exact⟨n,by omega,.inl h⟩
      · exact⟨n,by omega,.inr h⟩
    · rintro⟨d,hd,h⟩
      by_cases e:d=n
      · subst e
        rcases h with h|h
        · exact .inl (.inr h)
        · exact .inr h
      · exact .inl (.inl ⟨d,by omega,h⟩)
theorem geB_succ (n:Nat) (s:α):geB go (n+1) s=true↔fulP go s=true∧∀ t∈arP go s,geB go n t=true:=by
  rw[geB,Bool.and_eq_true,List.all_eq_true]
theorem geB_down:∀ (n:Nat) (s:α),geB go (n+1) s=true→geB go n s=true
  | 0,_,_=>rfl
  | n+1,s,h=>by
    rw[geB_succ]at h ⊢
    exact⟨h.1,fun t ht=>geB_down n t (h.2 t ht)⟩
theorem geB_le {n m:Nat} (h:n≤m) (s:α) (hs:geB go m s=true):geB go n s=true:=by
  induction m with
  | zero => obtain rfl : n = 0 := by omega
            exact hs
  | succ m ih =>
    by_cases e:n=m+1
    · subst e;exact hs
    · exact ih (by omega) (geB_down m s hs)
theorem clr_le:∀ (m:Nat) (s:α),clr go m s≤m
  | 0,_=>by simp[clr]
  | m+1,s=>by
    have:=clr_le m s
    rw[clr]
    split <;> omega
theorem clr_ge:∀ (m:Nat) (s:α),geB go (clr go m s) s=true
  | 0,_=>rfl
  | m+1,s=>by
    rw[clr]
    split
    · assumption
    · exact clr_ge m s
theorem clr_iff {n:Nat}:∀ {m:Nat},n≤m→∀ s:α,(n≤clr go m s↔geB go n s=true)
  | 0,h,s=>by
    obtain rfl:n=0:=by omega
    exact⟨fun _=>rfl,fun _=>by omega⟩
  | m+1,h,s=>by
    constructor
    · intro q
      exact geB_le q s (clr_ge (m+1) s)
    · intro q
      rw[clr]
      split
      · omega
      · rename_i h2
        have:n≠m+1:=fun e=>h2 (e▸q)
        exact(clr_iff (m:=m) (by omega) s).2 q
theorem clr_eq {m v:Nat} {s:α} (h1:v≤m) (h2:geB go v s=true) (h3:v=m∨geB go (v+1) s=false):clr go m s=v:=by
  have a:=(clr_iff h1 s).2 h2
  have b:=clr_le (go:=go) m s
  rcases h3 with h|h
  · omega
  · by_cases e:clr go m s=v
    · exact e
    · have c:v+1≤clr go m s:=by omega
      have:=(clr_iff (m:=m) (by omega) s).1 c
      rw[h]at this
      cases this
theorem clr_top {m:Nat} {s:α} (h:geB go m s=true):clr go m s=m:=clr_eq (Nat.le_refl _) h (.inl rfl)
theorem clr_min {k m:Nat} (h:k≤m) (s:α):min (clr go m s) k=clr go k s:=by
  have h1:=clr_le (go:=go) k s
  have h2:=clr_ge (go:=go) k s
  by_cases e:geB go k s=true
  · have:=(clr_iff h s).2 e
    rw[clr_top e]
    omega
  · have e1:clr go k s<k:=by
      rcases Nat.lt_or_ge (clr go k s) k with q|q
      · exact q
      · exact absurd ((clr_iff (Nat.le_refl k) s).1 q) e
    have e2:geB go (clr go k s+1) s=false:=by
      cases q:geB go (clr go k s+1) s
      · rfl
      · have:=(clr_iff (m:=k) (by omega) s).2 q
        omega
    rw[clr_eq (m:=m) (by omega) h2 (.inr e2)]
    omega
def SymP (go:α→Int→Option α) (V:α→Prop):Prop:=∀ s,V s→∀ t∈arP go s,V t∧s∈arP go t
def justB (go:α→Int→Option α) (f:Nat) (s:α):Bool:=geB go f s && !geB go (f+1) s
def heldF (go:α→Int→Option α) (f:Nat) (s:α):Option Nat:=if geB go (f+1) s=true then none else some (clr go f s)
theorem justB_iff {f:Nat} {s:α}:justB go f s=true↔geB go f s=true∧geB go (f+1) s=false:=by
  unfold justB
  rw[Bool.and_eq_true,Bool.not_eq_true']
theorem next_iff {V:α→Prop} (H:SymP go V) {f:Nat} {t:α} (hV:V t) (ht:geB go (f+1) t=true):(∃ s,V s∧justB go f s=true∧t∈arP go s)↔geB go (f+2) t=false:=by
  constructor
  · rintro⟨s,hs,hj,hm⟩
    cases q:geB go (f+2) t
    · rfl
    · have h1:=((geB_succ (f+1) t).1 q).2 s (H s hs t hm).2
      rw[(justB_iff.1 hj).2]at h1
      cases h1
  · intro h
    have h1:=(geB_succ f t).1 ht
    have h2:¬ ∀ u∈arP go t,geB go (f+1) u=true:=fun q=>by
      rw[(geB_succ (f+1) t).2 ⟨h1.1,q⟩]at h
      cases h
    have h3:(arP go t).all (geB go (f+1))=false:=by
      cases q:(arP go t).all (geB go (f+1))
      · rfl
      · exact absurd (List.all_eq_true.1 q) h2
    obtain⟨u,hu,hb⟩:=List.all_eq_false.1 h3
    obtain⟨a,b⟩:=H t hV u hu
    exact⟨u,a,justB_iff.2 ⟨h1.2 u hu,by simpa using hb⟩,b⟩
theorem no_more {V:α→Prop} (H:SymP go V) {f:Nat} (h:∀ s,V s→justB go f s=false):∀ n s,V s→geB go f s=true→geB go (f+n) s=true
  | 0,_,_,h1=>h1
  | n+1,s,hs,h1=>by
    have h2:geB go (f+1) s=true:=by
      cases q:geB go (f+1) s
      · have:=h s hs
        rw[justB_iff.2 ⟨h1,q⟩]at this
        cases this
      · rfl
    have h3:=(geB_succ f s).1 h2
    show geB go ((f+n)+1) s=true
    exact(geB_succ _ s).2 ⟨h3.1,fun t ht=>no_more H h n t (H s hs t ht).1 (h3.2 t ht)⟩
theorem held_end {f m:Nat} {s:α} (hm:f+1≤m) (h:geB go (f+1) s=true→geB go m s=true):((heldF go f s).getD m)=clr go m s:=by
  unfold heldF
  split
  · rename_i q
    exact(clr_top (h q)).symm
  · rename_i q
    have q':geB go (f+1) s=false:=by simpa using q
    show clr go f s=clr go m s
    have h1:=clr_ge (go:=go) f s
    have h2:=clr_le (go:=go) f s
    refine(clr_eq (by omega) h1 (.inr ?_)).symm
    cases p:geB go (clr go f s+1) s
    · rfl
    · by_cases e:clr go f s=f
      · rw[e]at p
        rw[q']at p
        cases p
      · have:=(clr_iff (m:=f) (n:=clr go f s+1) (by omega) s).2 p
        omega
theorem held_zero (s:α):heldF go 0 s=if fulP go s=true then none else some 0:=by
  unfold heldF
  have:geB go 1 s=fulP go s:=by
    rw[Bool.eq_iff_iff,geB_succ]
    exact⟨fun h=>h.1,fun h=>⟨h,fun _ _=>rfl⟩⟩
  rw[this]
  rfl
theorem held_next {V:α→Prop} (H:SymP go V) {f:Nat} {t:α} (hV:V t) (P:Prop) [Decidable P] (hP:P↔∃ s,V s∧justB go f s=true∧t∈arP go s):heldF go (f+1) t=(match heldF go f t with
  | some v=>some v
  | none=>if P then some (f+1)else none):=by
  unfold heldF
  by_cases q:geB go (f+1) t=true
  · rw[if_pos q]
    have hn:=next_iff H hV q
    rw[←hP]at hn
    by_cases p:P
    · rw[if_neg (by rw[hn.1 p];simp)]
      simp only
      rw[if_pos p,clr_top q]
    · have:geB go (f+2) t=true:=by
        cases r:geB go (f+2) t
        · exact absurd (hn.2 r) p
        · rfl
      rw[if_pos this]
      simp only
      rw[if_neg p]
  · rw[if_neg q]
    have q2:¬ geB go (f+1+1) t=true:=fun r=>q (geB_down _ _ r)
    rw[if_neg q2]
    simp only
    rw[clr,if_neg q]
theorem just_next {V:α→Prop} (H:SymP go V) {f:Nat} {t:α} (hV:V t):(justB go (f+1) t=true)↔(heldF go f t=none∧∃ s,V s∧justB go f s=true∧t∈arP go s):=by
  rw[justB_iff]
  unfold heldF
  constructor
  · rintro⟨h1,h2⟩
    exact⟨by rw[if_pos h1],(next_iff H hV h1).2 h2⟩
  · rintro⟨h1,h2⟩
    have q:geB go (f+1) t=true:=by
      by_cases q:geB go (f+1) t=true
      · exact q
      · rw[if_neg q]at h1
        cases h1
    exact⟨q,(next_iff H hV q).1 h2⟩
theorem just_zero (s:α):justB go 0 s = !fulP go s:=by
  unfold justB
  have:geB go 1 s=fulP go s:=by
    rw[Bool.eq_iff_iff,geB_succ]
    exact⟨fun h=>h.1,fun h=>⟨h,fun _ _=>rfl⟩⟩
  show(true && !geB go (0+1) s)=_
  rw[this]
  rfl
end
section
variable {α β:Type} {go:α→Int→Option α} {go':β→Int→Option β} {f:α→β} {V:α→Prop}
structure HomP (go:α→Int→Option α) (go':β→Int→Option β) (f:α→β) (V:α→Prop):Prop where
  goes:∀ s,V s→∀ d,go' (f s) d=(go s d).map f
  kept:∀ s,V s→∀ d t,go s d=some t→V t
  inj:∀ s t,V s→V t→f s=f t→s=t
theorem rndP_kept (H:HomP go go' f V) {s t:α} {d e:Int} (hs:V s) (h:rndP go s d e=some t):V t:=by
  unfold rndP at h
  split at h
  · rename_i m hm
    exact H.kept m (H.kept s hs d m hm) e t h
  · cases h
theorem rndP_hom (H:HomP go go' f V) {s:α} (hs:V s) (d e:Int):rndP go' (f s) d e=(rndP go s d e).map f:=by
  unfold rndP
  rw[H.goes s hs d]
  cases q:go s d with
  | none=>rfl
  | some m=>exact H.goes m (H.kept s hs d m q) e
variable [DecidableEq α]
theorem diaP_kept (H:HomP go go' f V) {s t:α} {d e:Int} (hs:V s) (h:diaP go s d e=some t):V t:=rndP_kept H hs (bothP_is h).1
theorem arN_kept (H:HomP go go' f V) {s t:α} (hs:V s) {n:Nat} (h:t∈arN go s n):V t:=by
  obtain⟨d,-,h|h⟩:=mem_arN.1 h
  · exact H.kept s hs d t h
  · exact diaP_kept H hs h
variable [DecidableEq β]
theorem diaP_hom (H:HomP go go' f V) {s:α} (hs:V s) (d e:Int):diaP go' (f s) d e=(diaP go s d e).map f:=by
  unfold diaP
  rw[rndP_hom H hs d e,rndP_hom H hs e d]
  cases p:rndP go s d e with
  | none=>rfl
  | some t =>
    cases q:rndP go s e d with
    | none=>rfl
    | some u =>
      show(if f t=f u then some (f t)else none)=(if t=u then some t else none).map f
      by_cases e1:t=u
      · subst e1;simp
      · rw[if_neg e1,if_neg (fun e2=>e1 (H.inj t u (rndP_kept H hs p) (rndP_kept H hs q) e2))]
        rfl
theorem arN_hom (H:HomP go go' f V) {s:α} (hs:V s):∀ n,arN go' (f s) n=(arN go s n).map f
  | 0=>rfl
  | n+1=>by simp only[arN,arN_hom H hs n,H.goes s hs n,diaP_hom H hs,opt_map_toList,List.map_append]
theorem fulP_hom (H:HomP go go' f V) {s:α} (hs:V s):fulP go' (f s)=fulP go s:=by
  unfold fulP arP
  rw[arN_hom H hs,List.length_map]
theorem geB_hom (H:HomP go go' f V):∀ (n:Nat) {s:α},V s→geB go' n (f s)=geB go n s
  | 0,_,_=>rfl
  | n+1,s,hs=>by
    rw[Bool.eq_iff_iff,geB_succ,geB_succ,fulP_hom H hs]
    unfold arP
    rw[arN_hom H hs]
    constructor
    · rintro⟨h1,h2⟩
      exact⟨h1,fun t ht=>by rw[←geB_hom H n (arN_kept H hs ht)];exact h2 _ (List.mem_map_of_mem ht)⟩
    · rintro⟨h1,h2⟩
      refine⟨h1,fun u hu=>?_⟩
      obtain⟨t,ht,rfl⟩:=List.mem_map.1 hu
      rw[geB_hom H n (arN_kept H hs ht)]
      exact h2 t ht
theorem clr_hom (H:HomP go go' f V):∀ (m:Nat) {s:α},V s→clr go' m (f s)=clr go m s
  | 0,_,_=>rfl
  | m+1,s,hs=>by rw[clr,clr,geB_hom H _ hs,clr_hom H m hs]
end
end Go.Proofs.YtmhghnbgllaihaaGreatDoor

namespace Go.Proofs.YtmhghnbgllaihaaGreatDoor
open Go.ChangeShapes Go.WideShapes Go.ChangeAt Go.RowKit
theorem gNo:Tryz.prog.globalNamed "footpath/bins.nowhere" = some 0:=by kernel_rfl
theorem tNo:(Tryz.prog.globals[0]?).map (·.type)=some 302:=by kernel_rfl
structure Nowhere (w:World):Prop where
  c0:w.cell? ⟨0,0,none⟩=some (.int .i64 0)
  c1:w.cell? ⟨0,1,none⟩=some (.int .i64 0)
  c2:w.cell? ⟨0,2,none⟩=some (.int .i64 (-1))
  c3:w.cell? ⟨0,3,none⟩=some (.int .i64 (-1))
theorem Nowhere.new {w w':World} (h:Nowhere w) (n:New w w'):Nowhere w' :=
  ⟨n.keep h.c0,n.keep h.c1,n.keep h.c2,n.keep h.c3⟩
abbrev laidBins:List (String×DataW Unit):=[("footpath/bins.nowhere",Rows.laid_footpath_bins_nowhere)]
theorem take1 {l:List Value} {i:Nat} {x:Value} (h:(l.drop i).take 1=[x]):l[i]? = some x:=by
  have:((l.drop i).take 1)[0]? = some x:=by rw[h];rfl
  simpa [List.getElem?_take,List.getElem?_drop]using this
theorem of_laid {W:World} (h:laidMetH Tryz.prog laidBins W):Nowhere W:=by
  rw[MakeChecks.laidMetH_plain _ _ _ (by kernel_rfl)]at h
  obtain⟨ps,⟨g0,t0,cs0,f0,p0,q0,hg0,ht0,hv0,hd0,_,_⟩,_,_⟩:=h
  obtain rfl:=Option.some.inj (gNo.symm.trans hg0)
  obtain rfl:=Option.some.inj (tNo.symm.trans ht0)
  obtain⟨xs,n,rfl,hx,hlen,hn,hel⟩:=DataW.trod_struct Tryz.underlying302 hd0
  have c3:Tryz.prog.cellsOf 3=1:=by kernel_rfl
  simp only[Rows.laid_footpath_bins_nowhere,Prod.mk.injEq,DataW.agg.injEq]at hx
  have h0:DataW.trod (fun _=>()) Tryz.prog W 0 (fun _=>true) false n 3 ((cs0.toList.drop 0).take (Tryz.prog.cellsOf 3))=xs[0]? := hel 0 _ rfl
  have h1:DataW.trod (fun _=>()) Tryz.prog W 0 (fun _=>true) false n 3 ((cs0.toList.drop 1).take (Tryz.prog.cellsOf 3))=xs[1]? := hel 1 _ rfl
  have h2:DataW.trod (fun _=>()) Tryz.prog W 0 (fun _=>true) false n 3 ((cs0.toList.drop 2).take (Tryz.prog.cellsOf 3))=xs[2]? := hel 2 _ rfl
  have h3:DataW.trod (fun _=>()) Tryz.prog W 0 (fun _=>true) false n 3 ((cs0.toList.drop 3).take (Tryz.prog.cellsOf 3))=xs[3]? := hel 3 _ rfl
  rw[c3]at h0 h1 h2 h3
  match xs,hn,hx,h0,h1,h2,h3 with
  | [x0,x1,x2,x3],_,hx,h0,h1,h2,h3 =>
    simp only[List.map_cons,List.map_nil,List.cons.injEq,List.getElem?_cons_zero,List.getElem?_cons_succ]at hx h0 h1 h2 h3
    obtain⟨⟨r0,r1,r2,r3,-⟩,-⟩:=hx
    obtain⟨k0,e0,y0,_⟩:=DataW.trod_int Tryz.underlying3 h0
    obtain⟨k1,e1,y1,_⟩:=DataW.trod_int Tryz.underlying3 h1
    obtain⟨k2,e2,y2,_⟩:=DataW.trod_int Tryz.underlying3 h2
    obtain⟨k3,e3,y3,_⟩:=DataW.trod_int Tryz.underlying3 h3
    rw[y0]at r0;rw[y1]at r1;rw[y2]at r2;rw[y3]at r3
    simp only[DataW.lit.injEq,Lit.int.injEq,true_and]at r0 r1 r2 r3
    subst r0;subst r1;subst r2;subst r3
    exact⟨(World.var?_cell hg0 hv0 0).trans (by rw[←Array.getElem?_toList];exact take1 e0),(World.var?_cell hg0 hv0 1).trans (by rw[←Array.getElem?_toList];exact take1 e1),
      (World.var?_cell hg0 hv0 2).trans (by rw[←Array.getElem?_toList];exact take1 e2),(World.var?_cell hg0 hv0 3).trans (by rw[←Array.getElem?_toList];exact take1 e3)⟩
end Go.Proofs.YtmhghnbgllaihaaGreatDoor

namespace Go.Proofs.YtmhghnbgllaihaaGreatDoor
open Go.RowKit
set_option linter.unusedVariables false
theorem bx0_ok {x z w d:Int} (h:boxB x z w d=true):(⟨x,z,w,d⟩:Bx).ok:=by
  have:=boxB_iff.1 h
  refine⟨?_,?_,?_,?_,?_,?_,?_,?_⟩ <;> (dsimp only;(try unfold i64B);omega)
theorem bR_len (C:CfgR) (l:List TriR) (x z wi d:Int):(bR C l x z wi d).length≤4096:=by
  unfold bR
  split
  · rename_i h
    have hb:boxB x z wi d=true:=by
      cases hb:boxB x z wi d with
      | true=>rfl
      | false =>
        unfold bE at h
        split at h
        · rename_i h1;exact absurd h h1
        · rw[hb]at h;simp at h
    rw[rowsL_len]
    exact Bx.n_le (bx0_ok hb)
  · simp
def bF (C:CfgR) (l:List TriR) (x z wi d:Int):List (List Fl):=(bR C l x z wi d).map (flX C)
def Built (er:Int) (x z wi d:Int) (F:List (List Fl)) (w:World) (e:Ending) (w':World):Prop :=
  ∃ G:Gd,e=.returned (.tuple #[.agg #[.int .i64 G.x,.int .i64 G.z,.int .i64 G.w,.int .i64 G.d,.slice G.ga G.L.length G.gc],.int .i64 er])∧G.ok w'∧(er=0→G.x=x∧G.z=z∧G.w=wi∧G.d=d∧G.L=F)∧(er≠0→G.x=0∧G.z=0∧G.w=0∧G.d=0∧G.L=[])∧New w w'
end Go.Proofs.YtmhghnbgllaihaaGreatDoor

namespace Go.Proofs.YtmhghnbgllaihaaGreatDoor
open Go.RowKit
set_option linter.unusedVariables false
theorem heap_setCells_other (b:Nat):∀ (vs:List Value) (o:Nat) (W:World) (k:Nat),k≠b→(W.setCells b o vs).heap[k]? = W.heap[k]?
  | [],o,W,k,h=>rfl
  | v::vs,o,W,k,h=>by rw[World.setCells,heap_setCells_other b vs _ _ k h];exact Below.heap_setCell _ _ _ _ h
theorem wpList_store_blk {P:Program} {ops:Array Oper} {rest:List Oper} {op:Oper} {a:Act} {w:World} {Q:Exit→Act→World→Prop} (hgd:op.guard=none) (ty:TypeId) (x y:Operand) (ho:op.op=.store ty x y)
    (b:Nat) (cells:Array Value) (hx:a.eval x=.pointer (some ⟨b,0,none⟩)) (hy:a.eval y=.agg cells)
    (ht:Thr w b cells.size) (hi:(P.info? ty).map (·.size)=some cells.size) (h1:∀ v∈cells.toList,v.oneCell'=true)
    (h:∀ W,(∀ a0,New a0 w→a0.heap.size≤b→New a0 W)→(∀ b',b'≠b→W.heap[b']? = w.heap[b']?)→CellsAt W b 0 cells.toList→wpList P ops Q rest (a.put op.dst undef) W):wpList P ops Q (op::rest) a w:=by
  have ht':w.there b 0 cells.size:=fun j hj=>by
    obtain⟨⟨v,hv⟩,hf⟩:=ht j hj
    rw[Nat.zero_add]
    exact⟨by rw[hv];rfl,hf⟩
  refine wpList_store_mid hgd ty x y ho b 0 cells hx hy ht' hi (all_oneCell_toArray h1) (h _ (fun a0 h0 hb=>new_setCells h0 hb _ _) (fun b' hne=>heap_setCells_other b _ _ _ _ hne) fun j hj=>?_)
  have:=World.rangeAt_setCells_same w b 0 cells.toList (by simpa using ht')
  exact this j _ (List.getElem?_eq_getElem hj)
end Go.Proofs.YtmhghnbgllaihaaGreatDoor
