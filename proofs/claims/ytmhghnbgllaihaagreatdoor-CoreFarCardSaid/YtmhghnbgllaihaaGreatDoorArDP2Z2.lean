import Derived.Test.YtmhghnbgllaihaaGreatDoorArCP2Z2
import Derived.Test.YtmhghnbgllaihaaGreatDoorOgIP2Z2
import Derived.Test.YtmhghnbgllaihaaGreatDoorSoO2P2Z2
set_option linter.unusedVariables false
set_option maxHeartbeats 16000000
set_option maxRecDepth 100000

namespace Go.Proofs.YtmhghnbgllaihaaGreatDoor
open Go.RowKit
def markB (C:CfgR) (G:Gd) (l:List BoxR):Bool:=decide (gE G=0)&&(decide (l.length≤16)&&l.all (fun b=>b.may C))
def markE (C:CfgR) (G:Gd) (l:List BoxR):Int:=if C.err≠0 then 20 else if markB C G l=true then 0 else 2
theorem markE_cfg {C:CfgR} {G:Gd} {l:List BoxR} (h:C.err≠0):markE C G l=20:=by unfold markE;rw[if_pos h]
theorem markE_grid {C:CfgR} {G:Gd} {l:List BoxR} (h:C.err=0) (hg:gE G≠0):markE C G l=2:=by
 unfold markE markB
 rw[if_neg (by omega),decide_eq_false hg]
 rfl
theorem markE_many {C:CfgR} {G:Gd} {l:List BoxR} (h:C.err=0) (hl:16<l.length):markE C G l=2:=by
 unfold markE markB
 rw[if_neg (by omega),decide_eq_false (show ¬ l.length≤16 by omega)]
 simp
theorem markE_box {C:CfgR} {G:Gd} {l:List BoxR} (h:C.err=0) (j:Nat) (hj:j<l.length) (hb:boxE C l[j]≠0):markE C G l=2:=by
 have hm:l[j].may C=false:=by
  cases hm:l[j].may C
  ·rfl
  ·exfalso
   apply hb
   unfold boxE
   rw[if_neg (by omega),hm]
   rfl
 have:l.all (fun b=>b.may C)=false:=by
  rw[List.all_eq_false]
  exact⟨_,List.getElem_mem hj,by rw[hm];simp⟩
 unfold markE markB
 rw[if_neg (by omega),this]
 simp
theorem markE_fine {C:CfgR} {G:Gd} {l:List BoxR} (h:C.err=0) (hg:gE G=0) (hl:l.length≤16) (hb:∀ j (h:j<l.length),boxE C l[j]=0):markE C G l=0:=by
 have:l.all (fun b=>b.may C)=true:=by
  rw[List.all_eq_true]
  intro b hbm
  obtain⟨j,hj,rfl⟩:=List.getElem_of_mem hbm
  have:=hb j hj
  unfold boxE at this
  rw[if_neg (by omega)]at this
  cases hm:l[j].may C
  ·rw[hm]at this;simp at this
  ·rfl
 unfold markE markB
 rw[if_neg (by omega),decide_eq_true hg,decide_eq_true hl,this]
 rfl
theorem markE_is {C:CfgR} {G:Gd} {l:List BoxR} (h:markE C G l=0):C.err=0∧gE G=0∧l.length≤16∧∀ b∈l,b.may C=true:=by
 unfold markE at h
 split at h
 ·omega
 ·rename_i hc
  split at h
  ·rename_i hm
   unfold markB at hm
   simp only[Bool.and_eq_true,decide_eq_true_eq,List.all_eq_true]at hm
   exact⟨by omega,hm.1,hm.2.1,hm.2.2⟩
  ·omega
theorem markE_of {C:CfgR} {G:Gd} {l:List BoxR} (h1:C.err=0) (h2:gE G=0) (h3:l.length≤16) (h4:∀ b∈l,b.may C=true):markE C G l=0:=by
 have:l.all (fun b=>b.may C)=true:=List.all_eq_true.2 h4
 unfold markE markB
 rw[if_neg (by omega),decide_eq_true h2,decide_eq_true h3,this]
 rfl
theorem boxE_two {C:CfgR} (h:C.err=0) (X:BoxR):boxE C X=0∨boxE C X=2:=by
 unfold boxE
 rw[if_neg (by omega)]
 split
 ·exact .inl rfl
 ·exact .inr rfl
theorem ar_check (C:CfgR) (G:Gd) (at0:Option Addr) (l:List BoxR) (cap:Nat) (hl:l.length≤maxLen) (w:World) (hN:Nowhere w) (hG:G.ok w) (H:RowIn BoxR.enc 8 w at0 l) :
  Calls Tryz.prog 112 #[.agg #[.int .i64 C.cl,.int .i64 C.cb,.int .i64 C.ht,.int .i64 C.ri,.int .i64 C.ru,.int .i64 C.wd,.int .i64 C.dp],.agg #[.int .i64 G.x,.int .i64 G.z,.int .i64 G.w,.int .i64 G.d,.slice G.ga G.L.length G.gc],.slice at0 l.length cap] w fun e w'=>e=.returned (.int .i64 (markE C G l))∧New w w':=by
 have KC:Hid (∀ W,Calls Tryz.prog 30 #[.agg #[.int .i64 C.cl,.int .i64 C.cb,.int .i64 C.ht,.int .i64 C.ri,.int .i64 C.ru,.int .i64 C.wd,.int .i64 C.dp]] W fun e w'=>e=.returned (.int .i64 (checkE C.cl C.cb C.ht C.ri C.ru C.wd C.dp))∧New W w'):=Lib.hid (fun W=>(check_any C.cl C.cb C.ht C.ri C.ru C.wd C.dp W).mono fun e w' h=>⟨h.1,h.2.1⟩)
 have KG:=Lib.hid (fun W n=>og_check G W (hG.keep (n:New w W)))
 have KB:=Lib.hid (fun X W n=>bBoxes_any C X W (hN.new (n:New w W)))
 have HH:=Lib.hid H
 have hce:C.err=checkE C.cl C.cb C.ht C.ri C.ru C.wd C.dp:=rfl
 have htwo:=checkE_two C.cl C.cb C.ht C.ri C.ru C.wd C.dp
 have hg2:=gE_two G
 rw[←hce]at KC htwo
 have HB2:=Lib.hid (fun(h:C.err=0) X=>boxE_two h X)
 obtain⟨r,hr⟩:∃ r,r=markE C G l:=⟨_,rfl⟩
 rw[←hr]
 have HR:=Lib.hid hr
 have E1:Hid (C.err≠0→r=20):=Lib.hid (fun h=>by rw[HR.out,markE_cfg h])
 have E2:Hid (C.err=0→gE G≠0→r=2):=Lib.hid (fun h h2=>by rw[HR.out,markE_grid h h2])
 have E3:Hid (C.err=0→16<l.length→r=2):=Lib.hid (fun h h2=>by rw[HR.out,markE_many h h2])
 have E4:Hid (C.err=0→∀ j (hj:j<l.length),boxE C l[j]≠0→r=2):=Lib.hid (fun h j hj h2=>by rw[HR.out,markE_box h j hj h2])
 have E5:Hid (C.err=0→gE G=0→l.length≤16→(∀ j (h:j<l.length),boxE C l[j]=0)→r=0):=Lib.hid (fun h h2 h3 h4=>by rw[HR.out,markE_fine h h2 h3 h4])
 generalize hge:gE G=ge at *
 generalize hcr:C.err=cr at *
 obtain⟨gn,hgn⟩:∃ q,q=G.L.length:=⟨_,rfl⟩
 rw[←hgn]at KG ⊢
 obtain⟨n,hn⟩:∃ q,q=l.length:=⟨_,rfl⟩
 rw[←hn]at hl ⊢
 have HNL:=Lib.hid hn
 clear hgn hn hr H hG hce hge hcr
 unfold maxLen at hl
 rcases htwo with rfl|rfl
 rotate_left
 ·have HE:=Lib.hid (E1.out (by decide))
  go_enter Tryz.func112,Tryz.ntmps112
  go_wp2_with fail
  refine Calls.at (fun W hW=>?_)
  have n0:New w W:=by subst hW;exact nw
  clear hW
  refine(KC.out _).mono ?_
  rintro e w1 ⟨rfl,n1⟩
  have nn:=n0.trans n1
  clear n0 n1
  go_wp2_with fail
  go_ret
  exact⟨by rw[HE.out];rfl,nn⟩
 go_enter Tryz.func112,Tryz.ntmps112
 go_wp2_with fail
 refine Calls.at (fun W hW=>?_)
 have n0:New w W:=by subst hW;exact nw
 ((have c0:W.cell? ⟨w.heap.size,0,none⟩=some (.int .i64 C.cl):=(by subst hW;go_simp));(have c1:W.cell? ⟨w.heap.size,1,none⟩=some (.int .i64 C.cb):=(by subst hW;go_simp));(have c2:W.cell? ⟨w.heap.size,2,none⟩=some (.int .i64 C.ht):=(by subst hW;go_simp));(have c3:W.cell? ⟨w.heap.size,3,none⟩=some (.int .i64 C.ri):=(by subst hW;go_simp));(have c4:W.cell? ⟨w.heap.size,4,none⟩=some (.int .i64 C.ru):=(by subst hW;go_simp));(have c5:W.cell? ⟨w.heap.size,5,none⟩=some (.int .i64 C.wd):=(by subst hW;go_simp));(have c6:W.cell? ⟨w.heap.size,6,none⟩=some (.int .i64 C.dp):=(by subst hW;go_simp)))
 have g0:W.cell? ⟨w.heap.size+1,0,none⟩=some (.int .i64 G.x):=by subst hW;go_simp
 have g1:W.cell? ⟨w.heap.size+1,1,none⟩=some (.int .i64 G.z):=by subst hW;go_simp
 have g2:W.cell? ⟨w.heap.size+1,2,none⟩=some (.int .i64 G.w):=by subst hW;go_simp
 have g3:W.cell? ⟨w.heap.size+1,3,none⟩=some (.int .i64 G.d):=by subst hW;go_simp
 have g4:W.cell? ⟨w.heap.size+1,4,none⟩=some (.slice G.ga gn G.gc):=by subst hW;go_simp
 clear hW
 refine(KC.out _).mono ?_
 rintro e w1 ⟨rfl,n1⟩
 ((replace c0:=New.keep n1 c0);(replace c1:=New.keep n1 c1);(replace c2:=New.keep n1 c2);(replace c3:=New.keep n1 c3);(replace c4:=New.keep n1 c4);(replace c5:=New.keep n1 c5);(replace c6:=New.keep n1 c6))
 replace g0:=n1.keep g0
 replace g1:=n1.keep g1
 replace g2:=n1.keep g2
 replace g3:=n1.keep g3
 replace g4:=n1.keep g4
 have N1:=n0.trans n1
 clear n0 n1
 go_wp2_with fail
 refine(KG.out _ N1).mono ?_
 rintro e w2 ⟨rfl,n2⟩
 ((replace c0:=New.keep n2 c0);(replace c1:=New.keep n2 c1);(replace c2:=New.keep n2 c2);(replace c3:=New.keep n2 c3);(replace c4:=New.keep n2 c4);(replace c5:=New.keep n2 c5);(replace c6:=New.keep n2 c6))
 have N2:=N1.trans n2
 clear n2 N1 g0 g1 g2 g3 g4
 rcases hg2 with rfl|rfl
 rotate_left
 ·have HE:=Lib.hid (E2.out trivial (by decide))
  go_wp2_with fail
  go_ret
  exact⟨by rw[HE.out];rfl,N2⟩
 by_cases h16:16<n
 ·have HE:=Lib.hid (E3.out trivial (by rw[←HNL.out];exact h16))
  have hd:decide (16<n)=true:=decide_eq_true h16
  have hd2:((n:Int) > 16):=by omega
  clear h16
  go_wp2_with fail
  go_ret
  exact⟨by rw[HE.out];rfl,N2⟩
 have hd:decide (16<n)=false:=decide_eq_false h16
 have hd2:¬ ((n:Int) > 16):=by omega
 have hn16:n≤16:=by omega
 have NN2:=Lib.hid N2
 have HC:=Lib.hid (fun W (q:New w2 W)=>And.intro (q.keep c0) (And.intro (q.keep c1) (And.intro (q.keep c2) (And.intro (q.keep c3) (And.intro (q.keep c4) (And.intro (q.keep c5) (q.keep c6)))))))
 have hz2:=World.block_lt_of_cell? _ _ c0
 simp only[]at hz2
 clear N2 c0 c1 c2 c3 c4 c5 c6 h16
 go_wp2_with fail
 clear hd hd2
 go_loopg [28] n (fun gk s28 wr=>∃ i:Nat,s28=.int .i64 i∧i≤n∧n - i≤gk∧Hid (∀ j (h:j<l.length),j<i→boxE C l[j]=0)∧Hid (New w2 wr))
 case atStart=>exact⟨0,rfl,by omega,by omega,Lib.hid (fun j _ h=>by omega),Lib.hid (New.refl _)⟩
 case round =>
  obtain⟨i,rfl,hi,hgk,HA,HNR⟩:=hrel
  by_cases hlt:i<n
  ·have hil:i<l.length:=by rw[←HNL.out];exact hlt
   obtain⟨b,off,rfl,hA⟩:=HH.out (by omega)
   obtain⟨d0,d1,d2,d3,d4,d5,d6,d7⟩:=BoxR.cells (hA.keep (NN2.out.trans HNR.out)) i hil
   obtain⟨c0,c1,c2,c3,c4,c5,c6⟩:=HC.out _ HNR.out
   have he:=HB2.out trivial l[i]
   have HKB:=Lib.hid (fun W n=>KB.out l[i] W n)
   have E4':=Lib.hid (fun q=>E4.out trivial i hil q)
   obtain⟨X,hX⟩:∃ X,X=l[i]:=⟨_,rfl⟩
   rw[←hX]at d0 d1 d2 d3 d4 d5 d6 d7 he HKB E4'
   have HX:=Lib.hid hX
   have hzr:=World.block_lt_of_cell? _ _ c0
   simp only[]at hzr
   clear hA hX
   go_wp2_with fail
   refine Calls.at (fun W5 hW=>?_)
   have n5:New wr W5:=by subst hW;exact nw
   clear hW c0 c1 c2 c3 c4 c5 c6 d0 d1 d2 d3 d4 d5 d6 d7
   refine(HKB.out _ (NN2.out.trans (HNR.out.trans n5))).mono ?_
   rintro e w6 ⟨v,rfl,hs6,n6⟩
   have nn:=Lib.hid (HNR.out.trans (n5.trans n6))
   clear hs6 n5 n6 HKB
   generalize hbe:boxE C X=be at *
   rcases he with rfl|rfl
   ·have hnx:Hid (∀ j (h:j<l.length),j<i+1→boxE C l[j]=0):=Lib.hid (fun j h hj=>by
     by_cases e:j<i
     ·exact HA.out j h e
     ·obtain rfl:j=i:=by omega
      rw[←HX.out];exact hbe)
    go_wp2_with fail
    go_roundg (n - (i+1))
    case measure=>omega
    case rel=>exact⟨i+1,by go_num,by omega,by omega,hnx,nn⟩
   ·have HE:=Lib.hid (E4'.out (by decide))
    go_wp2_with fail
    go_ret
    exact⟨by rw[HE.out];rfl,NN2.out.trans nn.out⟩
  ·obtain rfl:i=n:=by omega
   have HE:=Lib.hid (E5.out trivial trivial (by rw[←HNL.out];exact hn16) (fun j h=>HA.out j h (by rw[HNL.out];exact h)))
   go_wp2_with fail
   go_ret
   exact⟨by rw[HE.out];rfl,NN2.out.trans HNR.out⟩
end Go.Proofs.YtmhghnbgllaihaaGreatDoor
