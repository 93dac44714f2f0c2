import Derived.Test.YtmhghnbgllaihaaGreatDoorOgX0P2Z2
set_option linter.unusedVariables false
set_option maxHeartbeats 16000000
set_option maxRecDepth 100000

namespace Go.Proofs.YtmhghnbgllaihaaGreatDoor
open Go.RowKit
theorem rg_floors (a0 b0:Option Addr) (l m:List Fl) (c d:Nat) (hl:l.length≤1000) (hm:m.length≤1000) (w:World) (H:RowIn Fl.enc 3 w a0 l) (G:RowIn Fl.enc 3 w b0 m) :
  Calls Tryz.prog 27 #[.slice a0 l.length c,.slice b0 m.length d] w fun e w'=>e=.returned (.bool (Fl.allEq l m))∧New w w':=by
 have HH:=Lib.hid H
 have HG:=Lib.hid G
 clear H G
 by_cases hlm:l.length=m.length
 rotate_left
 ·have hd:((l.length:Int) != (m.length:Int))=true:=by simpa using fun h=>hlm (by omega)
  have hr:Fl.allEq l m=false:=by
   cases h:Fl.allEq l m with
   | false=>rfl
   | true=>exact absurd (by rw[(Fl.allEq_iff l m).1 h]) hlm
  have HR:=Lib.hid hr
  clear hlm hr
  go_enter Tryz.func27,Tryz.ntmps27
  go_wp2_with fail
  go_ret
  rw[HR.out]
  exact⟨rfl,New.refl _⟩
 have hd:((l.length:Int) != (m.length:Int))=false:=by simp;omega
 have HLM:=Lib.hid hlm
 clear hlm
 have hlm1:l.length≤m.length:=by rw[HLM.out];omega
 have hlm2:m.length≤l.length:=by rw[HLM.out];omega
 go_enter Tryz.func27,Tryz.ntmps27
 go_wp2_with fail
 clear hd
 go_loopg [5] l.length (fun k s wr=>∃ i:Nat,s=.int .i64 i∧i+k=l.length∧l.take i=m.take i∧New w wr)
 case atStart=>exact⟨0,by simp,by omega,by simp,New.refl _⟩
 case round =>
  obtain⟨i,rfl,hik,hall,hn⟩:=hrel
  have HA:=Lib.hid hall
  clear hall
  by_cases hlt:i<l.length
  ·obtain⟨b,off,rfl,hA⟩:=HH.out (by omega)
   obtain⟨b',off',rfl,hA2⟩:=HG.out (by omega)
   have hA':=hA.keep hn
   have hA2':=hA2.keep hn
   obtain⟨c0,c1,c2⟩:=Fl.cells hA' i hlt
   obtain⟨d0,d1,d2⟩:=Fl.cells hA2' i (by omega)
   have hq:=fun W=>fl_neq W l[i] (m[i]'(by omega))
   clear hA hA' hA2 hA2'
   cases he:l[i].eqB (m[i]'(by omega))
   ·rw[he]at hq
    have HNO:Hid (Fl.allEq l m=false):=by
     show _=false
     cases h:Fl.allEq l m with
     | false=>rfl
     | true =>
      have h1:=(Fl.allEq_iff l m).1 h
      subst h1
      rw[(Fl.eqB_iff _ _).2 rfl]at he
      cases he
    clear he
    go_wp2_with fail
    (refine wp_region_hat (by kernel_rfl) (by kernel_rfl) ?_;intro hatc hatf;(repeat(go_big_quiet_step ((fail))));refine wpQuiet_nil ?_;rintro _ ⟨x,rfl⟩)
    go_wp2_with fail
    go_ret
    rw[HNO.out]
    exact⟨rfl,hn.hat x⟩
   ·rw[he]at hq
    have HE:=Lib.hid ((Fl.eqB_iff _ _).1 he)
    clear he
    go_wp2_with fail
    (refine wp_region_hat (by kernel_rfl) (by kernel_rfl) ?_;intro hatc hatf;(repeat(go_big_quiet_step ((fail))));refine wpQuiet_nil ?_;rintro _ ⟨x,rfl⟩)
    go_wp2_with fail
    go_roundg (gk - 1)
    case measure=>omega
    case rel=>exact⟨i+1,by go_num,by omega,by rw[List.take_succ_eq_append_getElem hlt,List.take_succ_eq_append_getElem (show i<m.length by omega),HA.out,HE.out],hn.hat x⟩
  ·have hr:Fl.allEq l m=true:=(Fl.allEq_iff l m).2 (by
    have:=HA.out
    rwa [List.take_of_length_le (by omega),List.take_of_length_le (by omega)]at this)
   have HR:=Lib.hid hr
   clear hr
   go_wp2_with fail
   go_ret
   rw[HR.out]
   exact⟨rfl,hn⟩
theorem rg_floors_sl {l m:List Fl} {u v:Value} (hl:l.length≤1000) (hm:m.length≤1000) (w:World) (H:Sl Fl.enc 3 w u l) (G:Sl Fl.enc 3 w v m) :
  Calls Tryz.prog 27 #[u,v] w fun e w'=>e=.returned (.bool (Fl.allEq l m))∧New w w':=by
 obtain⟨a,c,rfl,-,-,-,h⟩:=H
 obtain⟨b,d,rfl,-,-,-,g⟩:=G
 exact rg_floors a b l m c d hl hm w h g
theorem rg_Same (G O:Gd) (hG:smallL G.L) (hO:smallL O.L) (w:World) (h:G.ok w) (h2:O.ok w) :
  Calls Tryz.prog 20 #[.agg #[.int .i64 G.x,.int .i64 G.z,.int .i64 G.w,.int .i64 G.d,.slice G.ga G.L.length G.gc],.agg #[.int .i64 O.x,.int .i64 O.z,.int .i64 O.w,.int .i64 O.d,.slice O.ga O.L.length O.gc]] w fun e w'=>e=.returned (.bool (sameG G O))∧New w w':=by
 have HH:Hid (RowsK Fl.enc 3 w (.slice G.ga G.L.length G.gc) G.L):=Lib.hid h
 have HG:Hid (RowsK Fl.enc 3 w (.slice O.ga O.L.length O.gc) O.L):=Lib.hid h2
 have hmx:G.L.length≤maxLen:=by obtain⟨us,h1,⟨a,c,e,h2,h3,-⟩,-⟩:=h;omega
 unfold maxLen at hmx
 have hR:sameG G O=(G.x==O.x&&(G.z==O.z&&(G.w==O.w&&(G.d==O.d&&eqR G.L O.L)))):=rfl
 obtain⟨r,hr⟩:∃ r,r=sameG G O:=⟨_,rfl⟩
 rw[←hr]at hR ⊢
 obtain⟨n,hn⟩:∃ n,n=G.L.length:=⟨_,rfl⟩
 obtain⟨m,hm⟩:∃ m,m=O.L.length:=⟨_,rfl⟩
 obtain⟨ga,hga⟩:∃ q,q=G.ga:=⟨_,rfl⟩
 obtain⟨gb,hgb⟩:∃ q,q=O.ga:=⟨_,rfl⟩
 rw[←hn,←hga]at HH
 rw[←hm,←hgb]at HG
 rw[←hn]at hmx
 rw[←hn,←hga,←hm,←hgb]
 have HN:=Lib.hid (And.intro hn hm)
 clear h h2 hr hn hm hga hgb
 cases e0:(G.x==O.x)
 ·have HE:Hid (r=false):=Lib.hid (by rw[hR,e0];rfl)
  have f0:(G.x != O.x)=true:=by simpa [bne]using e0
  clear hR e0
  go_enter Tryz.func20,Tryz.ntmps20
  go_wp2_with fail
  go_ret
  exact⟨by rw[HE.out];rfl,by exact nw⟩
 have f0:(G.x != O.x)=false:=by simpa [bne]using e0
 cases e1:(G.z==O.z)
 ·have HE:Hid (r=false):=Lib.hid (by rw[hR,e0,e1];rfl)
  have f1:(G.z != O.z)=true:=by simpa [bne]using e1
  clear hR e0 e1
  go_enter Tryz.func20,Tryz.ntmps20
  go_wp2_with fail
  go_ret
  exact⟨by rw[HE.out];rfl,by exact nw⟩
 have f1:(G.z != O.z)=false:=by simpa [bne]using e1
 cases e2:(G.w==O.w)
 ·have HE:Hid (r=false):=Lib.hid (by rw[hR,e0,e1,e2];rfl)
  have f2:(G.w != O.w)=true:=by simpa [bne]using e2
  clear hR e0 e1 e2
  go_enter Tryz.func20,Tryz.ntmps20
  go_wp2_with fail
  go_ret
  exact⟨by rw[HE.out];rfl,by exact nw⟩
 have f2:(G.w != O.w)=false:=by simpa [bne]using e2
 cases e3:(G.d==O.d)
 ·have HE:Hid (r=false):=Lib.hid (by rw[hR,e0,e1,e2,e3];rfl)
  have f3:(G.d != O.d)=true:=by simpa [bne]using e3
  clear hR e0 e1 e2 e3
  go_enter Tryz.func20,Tryz.ntmps20
  go_wp2_with fail
  go_ret
  exact⟨by rw[HE.out];rfl,by exact nw⟩
 have f3:(G.d != O.d)=false:=by simpa [bne]using e3
 have HR:Hid (r=eqR G.L O.L):=Lib.hid (by rw[hR,e0,e1,e2,e3];rfl)
 clear hR e0 e1 e2 e3
 by_cases hnm:n=m
 rotate_left
 ·have HE:Hid (r=false):=Lib.hid (by rw[HR.out];exact eqR_len (by have:=HN.out;omega))
  have f4:((n:Int) != (m:Int))=true:=by rw[bne_iff_ne];omega
  clear hnm
  go_enter Tryz.func20,Tryz.ntmps20
  go_wp2_with fail
  go_ret
  exact⟨by rw[HE.out];rfl,by exact nw⟩
 subst hnm
 go_enter Tryz.func20,Tryz.ntmps20
 go_wp2_with fail
 generalize hW:World.alloc (World.alloc _ _) _=W0
 have n0:Hid (New w W0):=Lib.hid (by subst hW;exact nw)
 have g4:W0.cell? ⟨w.heap.size,4,none⟩=some (.slice ga n G.gc):=by subst hW;go_simp
 have o4:W0.cell? ⟨w.heap.size+1,4,none⟩=some (.slice gb n O.gc):=by subst hW;go_simp
 clear hW
 have HC:=Lib.hid (fun W (q:New W0 W)=>And.intro (q.keep g4) (q.keep o4))
 clear g4 o4 f0 f1 f2 f3
 go_loopg [5] n (fun gk s5 wr=>∃ i:Nat,s5=.int .i64 i∧i≤n∧n - i≤gk∧Hid (∀ j (h1:j<G.L.length) (h2:j<O.L.length),j<i→G.L[j]=O.L[j])∧Hid (New W0 wr))
 case atStart=>exact⟨0,rfl,by omega,by omega,Lib.hid (fun j _ _ h=>by omega),Lib.hid (New.refl _)⟩
 case round =>
  obtain⟨i,rfl,hi,hgk,hall,hnr⟩:=hrel
  obtain⟨g4,o4⟩:=HC.out _ hnr.out
  by_cases hlt:i<n
  ·have hi1:i<G.L.length:=by have:=HN.out.1;omega
   have hi2:i<O.L.length:=by have:=HN.out.2;omega
   obtain⟨b,off,a,e1,rfl,hc,hs⟩:=(HH.out.keep (n0.out.trans hnr.out)).at i hi1
   obtain⟨b2,off2,a2,e2,rfl,hc2,hs2⟩:=(HG.out.keep (n0.out.trans hnr.out)).at i hi2
   have KE:=Lib.hid (fun W (q:New wr W)=>rg_floors_sl (hG i hi1) (hO i hi2) W (hs.keep q) (hs2.keep q))
   obtain⟨l1,hl1⟩:∃ l1,l1=G.L[i].length:=⟨_,rfl⟩
   obtain⟨l2,hl2⟩:∃ l2,l2=O.L[i].length:=⟨_,rfl⟩
   rw[←hl1]at hc KE
   rw[←hl2]at hc2 KE
   clear hl1 hl2 hs hs2
   cases q:Fl.allEq G.L[i] O.L[i]
   ·have HE:Hid (r=false):=Lib.hid (by
     rw[HR.out]
     exact eqR_at i hi1 hi2 (fun e=>by rw[(Fl.allEq_iff _ _).2 e]at q;cases q))
    rw[q]at KE
    clear q
    go_wp2_with fail
    (refine wp_region_hat (by kernel_rfl) (by kernel_rfl) ?_;intro hatc hatf;(repeat(go_big_quiet_step ((go_at_call 27;exact Calls.hat (KE.out _ (Hat.h _))))));refine wpQuiet_nil ?_;rintro _ ⟨X,rfl⟩)
    go_wp2_with fail
    go_ret
    exact⟨by rw[HE.out];rfl,n0.out.trans (hnr.out.trans X.h)⟩
   ·have hnx:Hid (∀ j (h1:j<G.L.length) (h2:j<O.L.length),j<i+1→G.L[j]=O.L[j]):=Lib.hid (fun j h1 h2 h=>by
     by_cases e:j<i
     ·exact hall.out j h1 h2 e
     ·obtain rfl:j=i:=by omega
      exact(Fl.allEq_iff _ _).1 q)
    rw[q]at KE
    clear q
    go_wp2_with fail
    (refine wp_region_hat (by kernel_rfl) (by kernel_rfl) ?_;intro hatc hatf;(repeat(go_big_quiet_step ((go_at_call 27;exact Calls.hat (KE.out _ (Hat.h _))))));refine wpQuiet_nil ?_;rintro _ ⟨X,rfl⟩)
    clear hatc hatf
    have nn:=Lib.hid (hnr.out.trans X.h)
    generalize X.w=W6 at *
    clear X hc hc2 g4 o4
    go_wp2_with fail
    go_roundg (n - (i+1))
    case measure=>omega
    case rel=>exact⟨i+1,by go_num,by omega,by omega,hnx,nn⟩
  ·obtain rfl:i=n:=by omega
   have HE:Hid (r=true):=Lib.hid (by
    rw[HR.out]
    exact eqR_all (by have:=HN.out.1;have:=HN.out.2;omega) (fun j h1 h2=>hall.out j h1 h2 (by have:=HN.out.1;omega)))
   go_wp2_with fail
   go_ret
   exact⟨by rw[HE.out];rfl,n0.out.trans hnr.out⟩
end Go.Proofs.YtmhghnbgllaihaaGreatDoor
