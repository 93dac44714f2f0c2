import Derived.Test.YtmhghnbgllaihaaGreatDoorClFP2Z2
import Derived.Deep.LoopGhost
set_option linter.unusedVariables false
set_option maxHeartbeats 16000000
set_option maxRecDepth 100000

namespace Go.Proofs.YtmhghnbgllaihaaGreatDoor
open Go.RowKit
theorem eqB_of {a b:Co} (h:a=b):a.eqB b=true:=(Co.eqB_iff a b).2 h
theorem eqB_ne {a b:Co} (h:¬ a=b):a.eqB b=false:=by
 cases e:a.eqB b
 ·rfl
 ·exact absurd ((Co.eqB_iff a b).1 e) h
theorem k_compact_few (v:Value) (l:List Co) (w:World) (h:Sl Co.enc 4 w v l) (hl:l.length<2) :
  Calls Tryz.prog 252 #[v] w fun e w'=>e=.returned v∧w=w':=by
 obtain⟨at0,c,rfl,h1,h2,h3,h4⟩:=h
 clear h4
 have hd:decide ((l.length:Int)<2)=true:=decide_eq_true (by omega)
 unfold maxLen at h2
 go_enter Tryz.func252,Tryz.ntmps252
 go_wp2_with fail
 go_ret
 exact⟨rfl,rfl⟩
structure Mid (w0 wr:World) (g:Nat) (l:List Co) (n kk:Nat):Prop where
 mid:∃ R:List Co,WRow wr g R∧R.length=l.length∧R.take kk=cmpU l n∧∀ j,n - 1≤j→R[j]? = l[j]?
 up:Upon w0 g wr
 le:kk<n
theorem Mid.start {w0 wr:World} {g:Nat} {l:List Co} {k:Nat} (h:WRow wr g l) (hu:Upon w0 g wr) (hk:cmpU l k=l.take k) (h0:0<k) (hl:k<l.length) (he:l[k]=l[k - 1]):Mid w0 wr g l (k+1) k :=
 ⟨⟨l,h,rfl,by rw[cmpU_skip hl h0 he.symm,hk],fun j _=>rfl⟩,hu,by omega⟩
theorem Mid.skip {w0 wr wr':World} {g:Nat} {l:List Co} {n kk:Nat} (h:Mid w0 wr g l n kk) (hn:New wr wr') (hl:n<l.length) (h0:0<n) (he:l[n]=l[n - 1]):Mid w0 wr' g l (n+1) kk:=by
 obtain⟨⟨R,h1,h2,h3,h4⟩,hu,hle⟩:=h
 exact⟨⟨R,h1.keep hn,h2,by rw[cmpU_skip hl h0 he.symm,h3],fun j hj=>h4 j (by omega)⟩,hu.new hn,by omega⟩
theorem Mid.put {w0 wr wr':World} {g:Nat} {l:List Co} {n kk:Nat} (h:Mid w0 wr g l n kk) (hn:New wr wr') (hl:n<l.length) (h0:0<n) (he:¬ l[n]=l[n - 1]):Mid w0 (wr'.setCells g (kk*4) l[n].enc) g l (n+1) (kk+1):=by
 obtain⟨⟨R,h1,h2,h3,h4⟩,hu,hle⟩:=h
 refine⟨⟨R.set kk l[n],(h1.keep hn).put kk (by omega) _,by rw[List.length_set];exact h2,?_,fun j hj=>?_⟩,(hu.new hn).setCells _ _,by omega⟩
 ·rw[cmpU_keep hl (.inr fun q=>he q.symm),←h3]
  have hk:kk<(R.set kk l[n]).length:=by rw[List.length_set];omega
  rw[List.take_succ_eq_append_getElem hk,List.getElem_set_self,List.take_set_of_le (Nat.le_refl _)]
 ·rw[List.getElem?_set_ne (by omega)]
  exact h4 j (by omega)
theorem Mid.cells {w0 wr:World} {g:Nat} {l:List Co} {n kk:Nat} (h:Mid w0 wr g l n kk) (j o:Nat) (hj:n - 1≤j) (hl:j<l.length) (ho:j*4=o) :
  wr.cell? ⟨g,o,none⟩=some (.int .i64 l[j].x)∧wr.cell? ⟨g,o+1,none⟩=some (.int .i64 l[j].z)∧wr.cell? ⟨g,o+2,none⟩=some (.int .i64 l[j].y)∧wr.cell? ⟨g,o+3,none⟩=some (.int .i64 l[j].d):=by
 obtain⟨⟨R,h1,h2,h3,h4⟩,hu,hle⟩:=h
 have hR:j<R.length:=by omega
 have e:R[j]=l[j]:=by
  have:=h4 j hj
  rw[List.getElem?_eq_getElem hR,List.getElem?_eq_getElem hl]at this
  exact Option.some.inj this
 have:=co_cells h1 j hR
 rw[e,ho]at this
 exact this
theorem Mid.there {w0 wr:World} {g:Nat} {l:List Co} {n kk:Nat} (h:Mid w0 wr g l n kk) (o m:Nat) (hl:o+m≤l.length*4):wr.there g o m:=by
 obtain⟨⟨R,h1,h2,h3,h4⟩,hu,hle⟩:=h
 exact h1.there o m (by omega)
theorem k_compact (g cap:Nat) (l:List Co) (w:World) (h:WRow w g l) (h2:2≤l.length) (hc:l.length≤cap) (hm:cap≤maxLen) :
  Calls Tryz.prog 252 #[.slice (some ⟨g,0,none⟩) l.length cap] w fun e w'=>e=.returned (.slice (some ⟨g,0,none⟩) (cmpU l l.length).length cap) ∧
   RowAt Co.enc 4 w' g 0 (cmpU l l.length)∧Upon w g w':=by
 have hd:decide ((l.length:Int)<2)=false:=decide_eq_false (by omega)
 unfold maxLen at hm
 have EQ:=Lib.hid (fun a b W=>co_eql W a b)
 have NE:=Lib.hid (fun a b W=>co_neq W a b)
 have U0:=Lib.hid (Upon.refl w g)
 have H0:=Lib.hid h
 have C0:=Lib.hid (cmpU_one (l:=l) (by omega))
 obtain⟨n,hn⟩:∃ n,n=l.length:=⟨_,rfl⟩
 rw[←hn]at hd h2 hc ⊢
 have HN:=Lib.hid hn
 clear h hn
 go_enter Tryz.func252,Tryz.ntmps252
 go_wp2_with fail
 go_loopg [3] n (fun gk s3 wr=>∃ k:Nat,s3=.int .i64 k∧1≤k∧k≤n∧n - k≤gk∧Hid (WRow wr g l)∧Hid (Upon w g wr)∧Hid (cmpU l k=l.take k))
 case atStart=>exact⟨1,rfl,by omega,by omega,by omega,H0,U0,C0⟩
 case round =>
  obtain⟨k,rfl,hk1,hk,hgk,HW,HU,HC⟩:=hrel
  have hz:IntKind.i64.wrap ((k:Int) - 1)=((k - 1:Nat):Int):=by rw[IntWalk.i64_in _ (by omega)];omega
  have hz2:((k:Int) - 1).toNat=k - 1:=by omega
  by_cases hlt:k<n
  ·have hkl:k<l.length:=by rw[←HN.out];exact hlt
   obtain⟨c0,c1,c2,c3⟩:=co_cells HW.out k hkl
   obtain⟨d0,d1,d2,d3⟩:=co_cells HW.out (k - 1) (by omega)
   by_cases he:l[k]=l[k - 1]
   ·have eq:=EQ.out l[k] l[k - 1]
    rw[eqB_of he]at eq
    have HM:=Lib.hid (Mid.start HW.out HU.out HC.out (by omega) hkl he)
    clear HW HU HC he
    go_wp2_with fail
    go_quiet (fail)
    clear c0 c1 c2 c3 d0 d1 d2 d3 eq
    go_wp2_with fail
    refine Code.at (fun W0 hW=>?_)
    have HM2:Hid (Mid w W0 g l (k+1) k):=by
     subst hW
     obtain⟨⟨R,r1,r2,r3,r4⟩,hu,hle⟩:=HM.out
     have nn:New wr (wr.drewN nq):=by exact nw
     exact Lib.hid ⟨⟨R,r1.keep nn,r2,r3,r4⟩,hu.new nn,hle⟩
    clear hW HM
    go_loopg [3,5] n (fun gj s3 s5 wq=>∃ kk k2:Nat,s3=.int .i64 kk∧s5=.int .i64 k2∧1≤k2∧k+k2≤n∧n - (k+k2)≤gj∧kk<k+k2∧k≤kk∧Hid (Mid w wq g l (k+k2) kk))
    case atStart=>exact⟨k,1,rfl,rfl,by omega,by omega,by omega,by omega,by omega,HM2⟩
    case round =>
     obtain⟨kk,k2,rfl,rfl,j1,j2,hgj,j3,j4,HM⟩:=hrel
     clear HM2
     have hy:IntKind.i64.wrap ((k2:Int) - 1)=((k2 - 1:Nat):Int):=by rw[IntWalk.i64_in _ (by omega)];omega
     have hy2:((k2:Int) - 1).toNat=k2 - 1:=by omega
     by_cases hlt2:k+k2<n
     ·have hml:k+k2<l.length:=by rw[←HN.out];exact hlt2
      have hdl:decide (k2<n - k)=true:=decide_eq_true (by omega)
      obtain⟨c0,c1,c2,c3⟩:=HM.out.cells (k+k2) (k*4+k2*4) (by omega) hml (by omega)
      obtain⟨d0,d1,d2,d3⟩:=HM.out.cells (k+k2 - 1) (k*4+(k2 - 1)*4) (by omega) (by omega) (by omega)
      by_cases he2:l[k+k2]=l[k+k2 - 1]
      ·have eq:=NE.out l[k+k2] l[k+k2 - 1]
       rw[eqB_of he2]at eq
       have HE:=Lib.hid he2
       clear he2
       go_wp2_with fail
       go_quiet (fail)
       clear c0 c1 c2 c3 d0 d1 d2 d3 eq
       go_wp2_with fail
       go_roundg (n - (k+(k2+1)))
       case measure=>omega
       case rel=>exact⟨kk,k2+1,rfl,by go_num,by omega,by omega,by omega,by omega,by omega,Lib.hid (HM.out.skip (by exact nw) hml (by omega) HE.out)⟩
      ·have eq:=NE.out l[k+k2] l[k+k2 - 1]
       rw[eqB_ne he2]at eq
       have HE:=Lib.hid he2
       clear he2
       go_wp2_with fail
       go_quiet (fail)
       clear d0 d1 d2 d3 eq
       go_upto_region 12 with fail
       refine Code.at (fun W1 hW=>?_)
       have n1:New wr W1:=by subst hW;exact nw
       clear hW
       (replace c0:=n1.keep c0;replace c1:=n1.keep c1;replace c2:=n1.keep c2;replace c3:=n1.keep c3)
       have HT:Hid (W1.there g (kk*4) 4):=by
        obtain⟨⟨R,r1,r2,r3,r4⟩,hu,hle⟩:=HM.out
        exact Lib.hid ((r1.keep n1).there _ _ (by omega))
       have N1:=Lib.hid n1
       clear n1
       go_wp2_with (refine wpList_store_mid rfl 267 _ _ rfl g (kk*4) #[.int .i64 l[k+k2].x,.int .i64 l[k+k2].z,.int .i64 l[k+k2].y,.int .i64 l[k+k2].d] rfl rfl HT.out (by kernel_rfl) (all_oneCell_toArray (Co.enc_one l[k+k2])) ?_)
       clear c0 c1 c2 c3 HT
       go_wp2_with fail
       go_roundg (n - (k+(k2+1)))
       case measure=>omega
       case rel=>exact⟨kk+1,k2+1,by go_num,by go_num,by omega,by omega,by omega,by omega,by omega,Lib.hid (HM.out.put N1.out hml (by omega) HE.out)⟩
     ·have hend:k+k2=n:=by omega
      have hdl:decide (k2<n - k)=false:=decide_eq_false (by omega)
      have hth:=HM.out.there (kk*4) ((n - kk)*4) (by have:=HN.out;omega)
      have hcl:∃ vs,∀ ty,(Builtin.clear_ #[262] ty #[.slice (some ⟨g,kk*4,none⟩) (n - kk) (cap - kk)]).run Tryz.prog wr=.ok (.tuple #[]) (wr.setCells g (kk*4) vs):=by
       obtain⟨vs,hvs⟩:=run_clear_any (P:=Tryz.prog) wr 262 267 0 (.agg #[.int .i64 0,.int .i64 0,.int .i64 0,.int .i64 0]) (by kernel_rfl) (fun _=>by kernel_rfl) (by kernel_rfl) (by decide) g (kk*4) (n - kk) (cap - kk) (by omega) hth
       exact⟨vs,fun ty=>hvs⟩
      obtain⟨vs,hcl⟩:=hcl
      have HE:Hid (RowAt Co.enc 4 (wr.setCells g (kk*4) vs) g 0 (cmpU l n)∧kk=(cmpU l n).length∧Upon w g (wr.setCells g (kk*4) vs)):=by
       obtain⟨⟨R,r1,r2,r3,r4⟩,hu,hle⟩:=HM.out
       rw[hend]at r3
       have hl:kk=(cmpU l n).length:=by rw[←r3,List.length_take];have:=HN.out;omega
       have:=r1.past kk vs
       rw[r3]at this
       exact Lib.hid ⟨this,hl,hu.setCells _ _⟩
      clear hth HM hend hlt2
      go_wp2_with fail
      go_ret
      exact⟨by rw[←HE.out.2.1];rfl,HE.out.1,HE.out.2.2⟩
   ·have eq:=EQ.out l[k] l[k - 1]
    rw[eqB_ne he]at eq
    have HC2:Hid (cmpU l (k+1)=l.take (k+1)):=Lib.hid (by rw[cmpU_keep hkl (.inr fun q=>he q.symm),HC.out,List.take_succ_eq_append_getElem hkl])
    clear he HC
    go_wp2_with fail
    go_quiet (fail)
    clear c0 c1 c2 c3 d0 d1 d2 d3 eq
    go_wp2_with fail
    go_roundg (n - (k+1))
    case measure=>omega
    case rel=>exact⟨k+1,by go_num,by omega,by omega,by omega,Lib.hid (HW.out.keep (by exact nw)),Lib.hid (HU.out.new (by exact nw)),HC2⟩
  ·have e:k=n:=by omega
   subst e
   have HE:Hid (RowAt Co.enc 4 wr g 0 (cmpU l k)∧k=(cmpU l k).length):=by
    rw[HC.out,HN.out,List.take_length]
    exact Lib.hid ⟨HW.out.row,rfl⟩
   clear HW HC
   go_wp2_with fail
   go_ret
   exact⟨by rw[←HE.out.2];rfl,HE.out.1,HU.out⟩
end Go.Proofs.YtmhghnbgllaihaaGreatDoor
