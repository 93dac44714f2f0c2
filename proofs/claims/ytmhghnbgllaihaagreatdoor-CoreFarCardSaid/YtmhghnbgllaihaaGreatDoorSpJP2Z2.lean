import Derived.Test.YtmhghnbgllaihaaGreatDoorWholeMP2Z2
import Derived.Test.YtmhghnbgllaihaaGreatDoorSpDP2Z2
import Derived.Deep.LoopGhost
import Derived.Deep.DeepCutAuto
set_option linter.unusedVariables false
set_option maxHeartbeats 16000000
set_option maxRecDepth 100000

namespace Go.Proofs.YtmhghnbgllaihaaGreatDoor
open Go.RowKit
theorem k_joined (g cap:Nat) (S:List Sn) (w:World) (h:WRowS w g S) (hc:S.length≤cap) (hm:cap≤maxLen) (hs:S.Pairwise fun a b=>a.lo≤b.lo) (hf:Proper S) :
  Calls Tryz.prog 203 #[.slice (some ⟨g,0,none⟩) S.length cap] w fun e w'=>∃ K:List Sn,e=.returned (.slice (some ⟨g,0,none⟩) K.length K.length)∧IsM S K∧RowAt Sn.enc 3 w' g 0 K∧UponS w g w'∧K.length≤S.length:=by
 have KU:=Lib.hid (fun p q W=>k_union p q W)
 have J0:=Lib.hid (Jn.start h)
 have HP:Hid (∀ i (hi:i<S.length),(∀ p∈S.take i,p.lo≤p.hi∧p.lo≤S[i].lo)∧S[i].lo≤S[i].hi):=Lib.hid (fun i hi=>⟨fun p hp=>by
  obtain⟨j,hj,rfl⟩:=List.getElem_of_mem hp
  have hj':j<i:=by simp at hj;omega
  rw[List.getElem_take]
  exact⟨hf _ (List.getElem_mem _),List.pairwise_iff_getElem.1 hs j i (by omega) hi hj'⟩,hf _ (List.getElem_mem hi)⟩)
 clear h hs hf
 unfold maxLen at hm
 obtain⟨n,hn⟩:∃ n,n=S.length:=⟨_,rfl⟩
 rw[←hn]at hc ⊢
 have HN:=Lib.hid hn
 clear hn
 go_enter Tryz.func203,Tryz.ntmps203
 go_wp2_with fail
 go_loopg [3,8] n (fun gk s3 s8 wr=>∃ kk i:Nat,s3=.int .i64 kk∧s8=.int .i64 i∧kk≤i∧i≤n∧n - i≤gk∧Hid (Jn w wr g S i kk))
 case atStart=>exact⟨0,0,rfl,rfl,by omega,by omega,by omega,J0⟩
 case round =>
  obtain⟨kk,i,rfl,rfl,hki,hi,hgk,HJ⟩:=hrel
  by_cases hlt:i<n
  ·have hil:i<S.length:=by rw[←HN.out];exact hlt
   obtain⟨c0,c1,c2⟩:=HJ.out.cells hil
   obtain⟨P1,hP1⟩:∃ P1,P1=S[i]:=⟨_,rfl⟩
   have HPE:=Lib.hid hP1
   rw[←hP1]at c0 c1 c2
   clear hP1
   by_cases hk0:kk=0
   ·subst hk0
    go_upto_region 5 with fail
    refine Code.at (fun W1 hW=>?_)
    have n1:New wr W1:=by subst hW;exact nw
    have b0:W1.cell? ⟨wr.heap.size,0,none⟩=some (.int .i64 P1.lo):=by subst hW;go_simp
    have b1:W1.cell? ⟨wr.heap.size,1,none⟩=some (.int .i64 P1.hi):=by subst hW;go_simp
    have b2:W1.cell? ⟨wr.heap.size,2,none⟩=some (.bool P1.wk):=by subst hW;go_simp
    clear hW c0 c1 c2
    (refine wp_region_hat (by kernel_rfl) (by kernel_rfl) ?_;intro hatc hatf;(repeat(go_big_quiet_step ((fail))));refine wpQuiet_nil ?_;rintro _ ⟨X,rfl⟩)
    clear hatc hatf
    (replace n1:=n1.trans X.h;replace b0:=New.keep X.h b0;replace b1:=New.keep X.h b1;replace b2:=New.keep X.h b2)
    generalize X.w=W2 at *
    clear X
    have HT:Hid (W2.there g 0 3):=Lib.hid ((HJ.out.keep n1).there 0 (by omega))
    have HJ2:Hid (Jn w (W2.setCells g 0 P1.enc) g S (i+1) 1):=Lib.hid (by have:=HJ.out.first hil (HP.out i hil).2 n1;rw[←HPE.out]at this;exact this)
    clear n1 HJ
    go_wp2_with (refine wpList_store_mid rfl 180 _ _ rfl g 0 #[.int .i64 P1.lo,.int .i64 P1.hi,.bool P1.wk] rfl rfl HT.out (by kernel_rfl) (all_oneCell_toArray (Sn.enc_one P1)) ?_)
    clear b0 b1 b2 HT
    go_wp2_with fail
    go_roundg (n - (i+1))
    case measure=>omega
    case rel=>exact⟨1,i+1,by go_num,by go_num,by omega,by omega,by omega,HJ2⟩
   ·obtain⟨k,hk⟩:∃ k,kk=k+1:=⟨kk - 1,by omega⟩
    have HJ1:Jn w wr g S i (k+1):=by rw[←hk];exact HJ.out
    obtain⟨q,K,hK,q0,q1,q2,qth,hadd,hjoin⟩:=HJ1.last
    have hz:IntKind.i64.wrap ((kk:Int) - 1)=(k:Int):=by rw[IntWalk.i64_in _ (by omega)];omega
    have hgt:decide (0<kk)=true:=decide_eq_true (by omega)
    have hkn:k<n:=by omega
    have HAD:=Lib.hid (And.intro (hadd hil) (hjoin hil))
    have HQT:=Lib.hid qth
    have HK:=Lib.hid hk
    clear hK hadd hjoin qth hk hk0
    go_upto_region 5 with fail
    refine Code.at (fun W1 hW=>?_)
    have n1:New wr W1:=by subst hW;exact nw
    have b0:W1.cell? ⟨wr.heap.size,0,none⟩=some (.int .i64 P1.lo):=by subst hW;go_simp
    have b1:W1.cell? ⟨wr.heap.size,1,none⟩=some (.int .i64 P1.hi):=by subst hW;go_simp
    have b2:W1.cell? ⟨wr.heap.size,2,none⟩=some (.bool P1.wk):=by subst hW;go_simp
    (replace q0:=n1.keep q0;replace q1:=n1.keep q1;replace q2:=n1.keep q2)
    clear hW c0 c1 c2
    by_cases hm:P1.lo≤q.hi
    ·have hle:decide (P1.lo≤q.hi)=true:=decide_eq_true hm
     (refine wp_region_hat (by kernel_rfl) (by kernel_rfl) ?_;intro hatc hatf;(repeat(go_big_quiet_step ((fail))));refine wpQuiet_nil ?_;rintro _ ⟨X,rfl⟩)
     clear hatc hatf
     (replace n1:=n1.trans X.h;replace b0:=New.keep X.h b0;replace b1:=New.keep X.h b1;replace b2:=New.keep X.h b2;replace q0:=New.keep X.h q0;replace q1:=New.keep X.h q1;replace q2:=New.keep X.h q2)
     generalize X.w=W2 at *
     clear X hle
     obtain⟨U,hU⟩:∃ U,U=un q P1:=⟨_,rfl⟩
     have KC:Hid (∀ W,Calls Tryz.prog 236 #[.agg #[.int .i64 q.lo,.int .i64 q.hi,.bool q.wk],.agg #[.int .i64 P1.lo,.int .i64 P1.hi,.bool P1.wk]] W fun e w'=>e=.returned (.agg #[.int .i64 U.lo,.int .i64 U.hi,.bool U.wk])∧New W w'):=Lib.hid (fun W=>by rw[hU];exact KU.out q P1 W)
     have HUE:=Lib.hid hU
     clear hU
     go_upto_region 6 with fail
     (refine wp_region_steady 10 (by kernel_rfl) (by kernel_rfl) ?_;(intro hatc hatf;simp only[List.take_succ_cons,List.take_zero,List.drop_succ_cons,List.drop_zero];(repeat(first|(refine mildWalk_made (by decide) ?_;simp only[Act.put,List.setIfInBounds_toArray,List.set_cons_zero,List.set_cons_succ])|(refine mildWalk_step (by decide) (fun K hK=>?_);go_simp;first|(refine hK _ ?_;clear hK K)|(apply Exists.intro;refine⟨fun _=>?_,hK _ ?_⟩;(go_at_call 236;exact KC.out _);clear hK K))));refine mildWalk_nil ?_;(try simp only[List.setIfInBounds_toArray,List.set_cons_zero,List.set_cons_succ])))
     intro x
     clear hatc hatf
     (replace n1:=n1.trans x.h)
     generalize x.w=W3 at *
     clear b0 b1 b2 q0 q1 q2
     have HT:Hid (W3.there g (k*3) 3):=Lib.hid ((HJ.out.keep n1).there k (by have:=HN.out;omega))
     have HJ2:Hid (Jn w (W3.setCells g (k*3) U.enc) g S (i+1) (k+1)):=Lib.hid (by
      have hp:=HP.out i hil
      have:=HAD.out.2 W3 (by rw[←HPE.out];exact hm) hp.1 hp.2 n1
      rw[←HPE.out,←HUE.out]at this
      exact this)
     clear n1 HJ HJ1
     go_wp2_with (refine wpList_store_mid rfl 180 _ _ rfl g (k*3) #[.int .i64 U.lo,.int .i64 U.hi,.bool U.wk] rfl rfl HT.out (by kernel_rfl) (all_oneCell_toArray (Sn.enc_one U)) ?_)
     clear HT
     go_wp2_with fail
     go_roundg (n - (i+1))
     case measure=>omega
     case rel=>exact⟨kk,i+1,by go_num,by go_num,by omega,by omega,by omega,by rw[HK.out];exact HJ2⟩
    ·have hle:decide (P1.lo≤q.hi)=false:=decide_eq_false hm
     (refine wp_region_hat (by kernel_rfl) (by kernel_rfl) ?_;intro hatc hatf;(repeat(go_big_quiet_step ((fail))));refine wpQuiet_nil ?_;rintro _ ⟨X,rfl⟩)
     clear hatc hatf
     (replace n1:=n1.trans X.h;replace b0:=New.keep X.h b0;replace b1:=New.keep X.h b1;replace b2:=New.keep X.h b2)
     generalize X.w=W2 at *
     clear X q0 q1 q2 hle
     have HT:Hid (W2.there g (kk*3) 3):=Lib.hid ((HJ.out.keep n1).there kk (by omega))
     have HJ2:Hid (Jn w (W2.setCells g (kk*3) P1.enc) g S (i+1) (kk+1)):=Lib.hid (by
      have hp:=HP.out i hil
      have:=HAD.out.1 W2 (by rw[←HPE.out];omega) hp.1 hp.2 n1
      rw[←HPE.out]at this
      rw[HK.out]
      exact this)
     clear n1 HJ HJ1
     go_wp2_with (refine wpList_store_mid rfl 180 _ _ rfl g (kk*3) #[.int .i64 P1.lo,.int .i64 P1.hi,.bool P1.wk] rfl rfl HT.out (by kernel_rfl) (all_oneCell_toArray (Sn.enc_one P1)) ?_)
     clear b0 b1 b2 HT
     go_wp2_with fail
     go_roundg (n - (i+1))
     case measure=>omega
     case rel=>exact⟨kk+1,i+1,by go_num,by go_num,by omega,by omega,by omega,HJ2⟩
  ·have e:i=n:=by omega
   subst e
   obtain⟨K,h1,h2,h3,h4⟩:=Jn.done (by rw[←HN.out];exact HJ.out:Jn w wr g S S.length kk)
   have HE:=Lib.hid (And.intro h1 (And.intro h2 (And.intro h3 h4)))
   clear h1 h2 h3 h4 HJ
   go_wp2_with fail
   go_ret
   exact⟨K,by rw[HE.out.1];rfl,HE.out.2.1,HE.out.2.2.1,HE.out.2.2.2.1,by rw[HE.out.1];have:=HE.out.2.2.2.2;have:=HN.out;omega⟩
end Go.Proofs.YtmhghnbgllaihaaGreatDoor
