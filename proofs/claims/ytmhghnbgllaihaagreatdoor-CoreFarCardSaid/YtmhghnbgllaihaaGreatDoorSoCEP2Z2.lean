import Derived.Test.YtmhghnbgllaihaaGreatDoorSoETP2Z2
import Derived.Test.YtmhghnbgllaihaaGreatDoorSoCBP2Z2
import Derived.Test.YtmhghnbgllaihaaGreatDoorWholeJP2Z2
import Derived.Test.YtmhghnbgllaihaaGreatDoorSoYP2Z2
import Derived.Deep.DeepCutAuto
import Derived.Deep.CutBlock
import Derived.Deep.Quiet
import Derived.BigQuiet
set_option linter.unusedVariables false
set_option linter.unusedSimpArgs false
set_option maxHeartbeats 16000000
set_option maxRecDepth 100000

namespace Go.Proofs.YtmhghnbgllaihaaGreatDoor
open Go.RowKit
def BoxR.okAt (C:CfgR) (l:List BoxR) (i:Nat):Bool:=(l[i]!).may C&&(i==0||decide ((l[i - 1]!).i<(l[i]!).i))
def BoxR.listB (C:CfgR) (l:List BoxR):Bool:=decide (l.length≤16)&&(List.range l.length).all (BoxR.okAt C l)
theorem BoxR.okAt_zero (C:CfgR) (l:List BoxR) (h:0<l.length):BoxR.okAt C l 0=l[0].may C:=by
 unfold BoxR.okAt
 rw[getElem!_pos l 0 h]
 simp
theorem BoxR.okAt_succ (C:CfgR) (l:List BoxR) (i:Nat) (h:i+1<l.length):BoxR.okAt C l (i+1)=(l[i+1].may C&&decide (l[i].i<l[i+1].i)):=by
 unfold BoxR.okAt
 rw[getElem!_pos l (i+1) h,Nat.add_sub_cancel,getElem!_pos l i (by omega)]
 simp
theorem BoxR.listB_no {C:CfgR} {l:List BoxR} {i:Nat} (h:i<l.length) (k:BoxR.okAt C l i=false):BoxR.listB C l=false:=by
 unfold BoxR.listB
 rw[Bool.and_eq_false_iff]
 exact Or.inr (List.all_eq_false.2 ⟨i,List.mem_range.2 h,by rw[k];simp⟩)
theorem b_listMay (C:CfgR) (hC:C.fine) (S:SoupV) (w:World) (hS:S.ok w) :
  Calls Tryz.prog 54 #[.agg #[.int .i64 C.cl,.int .i64 C.cb,.int .i64 C.ht,.int .i64 C.ri,.int .i64 C.ru,.int .i64 C.wd,.int .i64 C.dp],.agg #[.slice S.a0 S.ts.length S.c0,.slice S.a1 S.bs.length S.c1,.slice S.a2 S.hs.length S.c2],.agg #[.func (.func 82) #[] #[],.func (.func 83) #[] #[],.int .i64 16,.int .i64 2,.func (.func 84) #[] #[]]] w fun e w'=>e=.returned (.bool (BoxR.listB C S.bs))∧New w w':=by
 have hL:=Lib.hid (fun b W=>b_list b W)
 have hM:=Lib.hid (fun x W=>b_may C hC x W)
 have hI:=Lib.hid (fun x W=>b_id x W)
 have hR:=hS.b
 obtain⟨ts,bs,hs,a0,a1,a2,c0,c1,c2⟩:=S
 simp only at hR ⊢
 obtain⟨-,hc1,hc2,-,HR⟩:=hR.row
 unfold maxLen at hc2
 clear hR hS hC
 have hlen:bs.length≤9223372036854775807:=by omega
 go_enter Tryz.func54,Tryz.ntmps54
 go_wp2_with fail
 generalize hW:World.alloc _ _=W
 have hn:New w W:=by subst hW;exact nw
 have q1:W.cell? ⟨w.heap.size+1,1,none⟩=some (.slice a1 bs.length c1):=by subst hW;go_simp
 have k0:W.cell? ⟨w.heap.size+1+1,0,none⟩=some (.func (.func 82) #[] #[]):=by subst hW;go_simp
 have k1:W.cell? ⟨w.heap.size+1+1,1,none⟩=some (.func (.func 83) #[] #[]):=by subst hW;go_simp
 have k2:W.cell? ⟨w.heap.size+1+1,2,none⟩=some (.int .i64 16):=by subst hW;go_simp
 have k3:W.cell? ⟨w.heap.size+1+1,3,none⟩=some (.int .i64 2):=by subst hW;go_simp
 have k4:W.cell? ⟨w.heap.size+1+1,4,none⟩=some (.func (.func 84) #[] #[]):=by subst hW;go_simp
 ((have g0:World.cell? (W) ⟨w.heap.size,0,none⟩=some (.int .i64 C.cl):=(by subst hW;go_simp));(have g1:World.cell? (W) ⟨w.heap.size,1,none⟩=some (.int .i64 C.cb):=(by subst hW;go_simp));(have g2:World.cell? (W) ⟨w.heap.size,2,none⟩=some (.int .i64 C.ht):=(by subst hW;go_simp));(have g3:World.cell? (W) ⟨w.heap.size,3,none⟩=some (.int .i64 C.ri):=(by subst hW;go_simp));(have g4:World.cell? (W) ⟨w.heap.size,4,none⟩=some (.int .i64 C.ru):=(by subst hW;go_simp));(have g5:World.cell? (W) ⟨w.heap.size,5,none⟩=some (.int .i64 C.wd):=(by subst hW;go_simp));(have g6:World.cell? (W) ⟨w.heap.size,6,none⟩=some (.int .i64 C.dp):=(by subst hW;go_simp)))
 clear hW
 refine(hL.out _ _).mono ?_
 rintro e w' ⟨rfl,rfl⟩
 clear hL
 by_cases hm:bs.length≤16
 rotate_left
 ·have hd:decide ((16:Int)<(bs.length:Int))=true:=by simp;omega
  go_wp2_with fail
  go_ret
  exact⟨retBo (by unfold BoxR.listB;simp[hm]),hn⟩
 have hd:decide ((16:Int)<(bs.length:Int))=false:=by simp;omega
 clear hlen hc1 hc2
 have HR':=Lib.hid (HR.keep hn)
 clear HR
 go_wp2_with fail
 clear hd q1
 go_loopg [22] bs.length (fun k s wr=>∃ i:Nat,s=.int .i64 i∧i+k=bs.length∧(List.range i).all (BoxR.okAt C bs)=true∧New W wr)
 case atStart=>exact⟨0,by simp,by omega,by simp,New.refl _⟩
 case round =>
  obtain⟨i,rfl,hik,hall,hnW⟩:=hrel
  have HA:=Lib.hid hall
  clear hall
  by_cases hlt:i<bs.length
  ·cases i with
   | zero =>
    have hsr:=List.range_succ (n:=0)
    have HSR:=Lib.hid hsr
    clear hsr
    obtain⟨b,off,rfl,hA⟩:=HR'.out (by omega)
    have hA':=hA.keep hnW
    obtain⟨c0,c1,c2,c3,c4,c5,c6,c7⟩:=BoxR.cells hA' (0) hlt
    simp only[Nat.zero_mul,Nat.add_zero]at c0 c1 c2 c3 c4 c5 c6 c7
    (replace k0:=New.keep (hnW) k0;replace k1:=New.keep (hnW) k1;replace k2:=New.keep (hnW) k2;replace k3:=New.keep (hnW) k3;replace k4:=New.keep (hnW) k4)
    (replace g0:=New.keep (hnW) g0;replace g1:=New.keep (hnW) g1;replace g2:=New.keep (hnW) g2;replace g3:=New.keep (hnW) g3;replace g4:=New.keep (hnW) g4;replace g5:=New.keep (hnW) g5;replace g6:=New.keep (hnW) g6)
    clear hA hA'
    go_upto_region 7 with fail
    generalize hZ:World.alloc _ _=Z
    have nZ:New wr Z:=by subst hZ;exact nw
    ((have z0:World.cell? (Z) ⟨wr.heap.size,0,none⟩=some (.int .i64 bs[0].i):=(by subst hZ;go_simp));(have z1:World.cell? (Z) ⟨wr.heap.size,1,none⟩=some (.int .i64 bs[0].x0):=(by subst hZ;go_simp));(have z2:World.cell? (Z) ⟨wr.heap.size,2,none⟩=some (.int .i64 bs[0].z0):=(by subst hZ;go_simp));(have z3:World.cell? (Z) ⟨wr.heap.size,3,none⟩=some (.int .i64 bs[0].x1):=(by subst hZ;go_simp));(have z4:World.cell? (Z) ⟨wr.heap.size,4,none⟩=some (.int .i64 bs[0].z1):=(by subst hZ;go_simp));(have z5:World.cell? (Z) ⟨wr.heap.size,5,none⟩=some (.int .i64 bs[0].y0):=(by subst hZ;go_simp));(have z6:World.cell? (Z) ⟨wr.heap.size,6,none⟩=some (.int .i64 bs[0].y1):=(by subst hZ;go_simp));(have z7:World.cell? (Z) ⟨wr.heap.size,7,none⟩=some (.int .i64 bs[0].ar):=(by subst hZ;go_simp)))
    (replace k0:=New.keep (nZ) k0;replace k1:=New.keep (nZ) k1;replace k2:=New.keep (nZ) k2;replace k3:=New.keep (nZ) k3;replace k4:=New.keep (nZ) k4)
    (replace g0:=New.keep (nZ) g0;replace g1:=New.keep (nZ) g1;replace g2:=New.keep (nZ) g2;replace g3:=New.keep (nZ) g3;replace g4:=New.keep (nZ) g4;replace g5:=New.keep (nZ) g5;replace g6:=New.keep (nZ) g6)
    clear c0 c1 c2 c3 c4 c5 c6 c7
    clear hZ
    have hok:=BoxR.okAt_zero C bs hlt
    cases hmay:bs[0].may C
    ·have HM':=Lib.hid (fun W=>by have q:=hM.out bs[0] W;rw[hmay]at q;exact q:∀ W,Calls Tryz.prog 81 #[.agg #[.int .i64 C.cl,.int .i64 C.cb,.int .i64 C.ht,.int .i64 C.ri,.int .i64 C.ru,.int .i64 C.wd,.int .i64 C.dp],.agg #[.int .i64 bs[0].i,.int .i64 bs[0].x0,.int .i64 bs[0].z0,.int .i64 bs[0].x1,.int .i64 bs[0].z1,.int .i64 bs[0].y0,.int .i64 bs[0].y1,.int .i64 bs[0].ar],.agg #[.func (.func 82) #[] #[],.func (.func 83) #[] #[],.int .i64 16,.int .i64 2,.func (.func 84) #[] #[]]] W fun e w'=>e=.returned (.bool false)∧New W w')
     have HNO:Hid (BoxR.listB C bs=false):=BoxR.listB_no hlt (by rw[BoxR.okAt_zero C bs hlt,hmay])
     clear hmay hM
     (refine wp_region_hat (by kernel_rfl) (by kernel_rfl) ?_;intro hatc hatf;(repeat(go_big_quiet_step ((first|(go_at_call 81;exact Calls.hat (HM'.out _))|(go_at_call 83;exact Calls.hat (hI.out _ _))))));refine wpQuiet_nil ?_;rintro _ ⟨x,rfl⟩)
     go_wp2_with fail
     go_ret
     exact⟨retBo HNO.out.symm,((hn.trans hnW).trans nZ).hat x⟩
    ·have HM':=Lib.hid (fun W=>by have q:=hM.out bs[0] W;rw[hmay]at q;exact q:∀ W,Calls Tryz.prog 81 #[.agg #[.int .i64 C.cl,.int .i64 C.cb,.int .i64 C.ht,.int .i64 C.ri,.int .i64 C.ru,.int .i64 C.wd,.int .i64 C.dp],.agg #[.int .i64 bs[0].i,.int .i64 bs[0].x0,.int .i64 bs[0].z0,.int .i64 bs[0].x1,.int .i64 bs[0].z1,.int .i64 bs[0].y0,.int .i64 bs[0].y1,.int .i64 bs[0].ar],.agg #[.func (.func 82) #[] #[],.func (.func 83) #[] #[],.int .i64 16,.int .i64 2,.func (.func 84) #[] #[]]] W fun e w'=>e=.returned (.bool true)∧New W w')
     have HOK:=Lib.hid (hok.trans hmay)
     clear hok hmay hM
     (refine wp_region_hat (by kernel_rfl) (by kernel_rfl) ?_;intro hatc hatf;(repeat(go_big_quiet_step ((first|(go_at_call 81;exact Calls.hat (HM'.out _))|(go_at_call 83;exact Calls.hat (hI.out _ _))))));refine wpQuiet_nil ?_;rintro _ ⟨x,rfl⟩)
     go_wp2_with fail
     go_roundg (gk - 1)
     case measure=>omega
     case rel=>exact⟨1,by go_num,by omega,by rw[HSR.out,List.all_append,HA.out];simp[HOK.out],(hnW.trans nZ).hat x⟩
   | succ i =>
    have hsr:=List.range_succ (n:=i+1)
    have HSR:=Lib.hid hsr
    clear hsr
    obtain⟨b,off,rfl,hA⟩:=HR'.out (by omega)
    have hA':=hA.keep hnW
    obtain⟨c0,c1,c2,c3,c4,c5,c6,c7⟩:=BoxR.cells hA' (i+1) hlt
    (replace k0:=New.keep (hnW) k0;replace k1:=New.keep (hnW) k1;replace k2:=New.keep (hnW) k2;replace k3:=New.keep (hnW) k3;replace k4:=New.keep (hnW) k4)
    (replace g0:=New.keep (hnW) g0;replace g1:=New.keep (hnW) g1;replace g2:=New.keep (hnW) g2;replace g3:=New.keep (hnW) g3;replace g4:=New.keep (hnW) g4;replace g5:=New.keep (hnW) g5;replace g6:=New.keep (hnW) g6)
    obtain⟨d0,d1,d2,d3,d4,d5,d6,d7⟩:=BoxR.cells hA' i (by omega)
    clear hA hA'
    go_upto_region 7 with fail
    generalize hZ:World.alloc _ _=Z
    have nZ:New wr Z:=by subst hZ;exact nw
    ((have z0:World.cell? (Z) ⟨wr.heap.size,0,none⟩=some (.int .i64 bs[i+1].i):=(by subst hZ;go_simp));(have z1:World.cell? (Z) ⟨wr.heap.size,1,none⟩=some (.int .i64 bs[i+1].x0):=(by subst hZ;go_simp));(have z2:World.cell? (Z) ⟨wr.heap.size,2,none⟩=some (.int .i64 bs[i+1].z0):=(by subst hZ;go_simp));(have z3:World.cell? (Z) ⟨wr.heap.size,3,none⟩=some (.int .i64 bs[i+1].x1):=(by subst hZ;go_simp));(have z4:World.cell? (Z) ⟨wr.heap.size,4,none⟩=some (.int .i64 bs[i+1].z1):=(by subst hZ;go_simp));(have z5:World.cell? (Z) ⟨wr.heap.size,5,none⟩=some (.int .i64 bs[i+1].y0):=(by subst hZ;go_simp));(have z6:World.cell? (Z) ⟨wr.heap.size,6,none⟩=some (.int .i64 bs[i+1].y1):=(by subst hZ;go_simp));(have z7:World.cell? (Z) ⟨wr.heap.size,7,none⟩=some (.int .i64 bs[i+1].ar):=(by subst hZ;go_simp)))
    (replace k0:=New.keep (nZ) k0;replace k1:=New.keep (nZ) k1;replace k2:=New.keep (nZ) k2;replace k3:=New.keep (nZ) k3;replace k4:=New.keep (nZ) k4)
    (replace g0:=New.keep (nZ) g0;replace g1:=New.keep (nZ) g1;replace g2:=New.keep (nZ) g2;replace g3:=New.keep (nZ) g3;replace g4:=New.keep (nZ) g4;replace g5:=New.keep (nZ) g5;replace g6:=New.keep (nZ) g6)
    clear c0 c1 c2 c3 c4 c5 c6 c7
    (replace d0:=New.keep (nZ) d0;replace d1:=New.keep (nZ) d1;replace d2:=New.keep (nZ) d2;replace d3:=New.keep (nZ) d3;replace d4:=New.keep (nZ) d4;replace d5:=New.keep (nZ) d5;replace d6:=New.keep (nZ) d6;replace d7:=New.keep (nZ) d7)
    clear hZ
    have hok:=BoxR.okAt_succ C bs i hlt
    cases hmay:bs[i+1].may C
    ·have HM':=Lib.hid (fun W=>by have q:=hM.out bs[i+1] W;rw[hmay]at q;exact q:∀ W,Calls Tryz.prog 81 #[.agg #[.int .i64 C.cl,.int .i64 C.cb,.int .i64 C.ht,.int .i64 C.ri,.int .i64 C.ru,.int .i64 C.wd,.int .i64 C.dp],.agg #[.int .i64 bs[i+1].i,.int .i64 bs[i+1].x0,.int .i64 bs[i+1].z0,.int .i64 bs[i+1].x1,.int .i64 bs[i+1].z1,.int .i64 bs[i+1].y0,.int .i64 bs[i+1].y1,.int .i64 bs[i+1].ar],.agg #[.func (.func 82) #[] #[],.func (.func 83) #[] #[],.int .i64 16,.int .i64 2,.func (.func 84) #[] #[]]] W fun e w'=>e=.returned (.bool false)∧New W w')
     have HNO:Hid (BoxR.listB C bs=false):=BoxR.listB_no hlt (by rw[BoxR.okAt_succ C bs i hlt,hmay];rfl)
     clear hmay hM
     (refine wp_region_hat (by kernel_rfl) (by kernel_rfl) ?_;intro hatc hatf;(repeat(go_big_quiet_step ((first|(go_at_call 81;exact Calls.hat (HM'.out _))|(go_at_call 83;exact Calls.hat (hI.out _ _))))));refine wpQuiet_nil ?_;rintro _ ⟨x,rfl⟩)
     go_wp2_with fail
     go_ret
     exact⟨retBo HNO.out.symm,((hn.trans hnW).trans nZ).hat x⟩
    ·have HM':=Lib.hid (fun W=>by have q:=hM.out bs[i+1] W;rw[hmay]at q;exact q:∀ W,Calls Tryz.prog 81 #[.agg #[.int .i64 C.cl,.int .i64 C.cb,.int .i64 C.ht,.int .i64 C.ri,.int .i64 C.ru,.int .i64 C.wd,.int .i64 C.dp],.agg #[.int .i64 bs[i+1].i,.int .i64 bs[i+1].x0,.int .i64 bs[i+1].z0,.int .i64 bs[i+1].x1,.int .i64 bs[i+1].z1,.int .i64 bs[i+1].y0,.int .i64 bs[i+1].y1,.int .i64 bs[i+1].ar],.agg #[.func (.func 82) #[] #[],.func (.func 83) #[] #[],.int .i64 16,.int .i64 2,.func (.func 84) #[] #[]]] W fun e w'=>e=.returned (.bool true)∧New W w')
     rw[hmay,Bool.true_and]at hok
     clear hmay hM
     cases hle:decide (bs[i+1].i≤bs[i].i)
     ·have HOK:Hid (BoxR.okAt C bs (i+1)=true):=by
       show _=true
       rw[hok]
       simp at hle ⊢
       first|done|omega
      clear hok
      (refine wp_region_hat (by kernel_rfl) (by kernel_rfl) ?_;intro hatc hatf;(repeat(go_big_quiet_step ((first|(go_at_call 81;exact Calls.hat (HM'.out _))|(go_at_call 83;exact Calls.hat (hI.out _ _))))));refine wpQuiet_nil ?_;rintro _ ⟨x,rfl⟩)
      go_wp2_with fail
      go_roundg (gk - 1)
      case measure=>omega
      case rel=>exact⟨i+1+1,by go_num,by omega,by rw[HSR.out,List.all_append,HA.out];simp[HOK.out],(hnW.trans nZ).hat x⟩
     ·have HNO:Hid (BoxR.listB C bs=false):=BoxR.listB_no hlt (by rw[hok];simp at hle ⊢;first|done|omega)
      clear hok
      (refine wp_region_hat (by kernel_rfl) (by kernel_rfl) ?_;intro hatc hatf;(repeat(go_big_quiet_step ((first|(go_at_call 81;exact Calls.hat (HM'.out _))|(go_at_call 83;exact Calls.hat (hI.out _ _))))));refine wpQuiet_nil ?_;rintro _ ⟨x,rfl⟩)
      go_wp2_with fail
      go_ret
      exact⟨retBo HNO.out.symm,((hn.trans hnW).trans nZ).hat x⟩
  ·go_wp2_with fail
   go_ret
   refine⟨retBo ?_,hn.trans hnW⟩
   have:=HA.out
   rw[show i=bs.length by omega]at this
   unfold BoxR.listB
   rw[this]
   simp[hm]
def TriR.okAt (C:CfgR) (l:List TriR) (i:Nat):Bool:=(l[i]!).may C&&(i==0||decide ((l[i - 1]!).i<(l[i]!).i))
def TriR.listB (C:CfgR) (l:List TriR):Bool:=decide (l.length≤200)&&(List.range l.length).all (TriR.okAt C l)
theorem TriR.okAt_zero (C:CfgR) (l:List TriR) (h:0<l.length):TriR.okAt C l 0=l[0].may C:=by
 unfold TriR.okAt
 rw[getElem!_pos l 0 h]
 simp
theorem TriR.okAt_succ (C:CfgR) (l:List TriR) (i:Nat) (h:i+1<l.length):TriR.okAt C l (i+1)=(l[i+1].may C&&decide (l[i].i<l[i+1].i)):=by
 unfold TriR.okAt
 rw[getElem!_pos l (i+1) h,Nat.add_sub_cancel,getElem!_pos l i (by omega)]
 simp
theorem TriR.listB_no {C:CfgR} {l:List TriR} {i:Nat} (h:i<l.length) (k:TriR.okAt C l i=false):TriR.listB C l=false:=by
 unfold TriR.listB
 rw[Bool.and_eq_false_iff]
 exact Or.inr (List.all_eq_false.2 ⟨i,List.mem_range.2 h,by rw[k];simp⟩)
theorem t_listMay (C:CfgR) (hC:C.fine) (S:SoupV) (w:World) (hS:S.ok w) :
  Calls Tryz.prog 51 #[.agg #[.int .i64 C.cl,.int .i64 C.cb,.int .i64 C.ht,.int .i64 C.ri,.int .i64 C.ru,.int .i64 C.wd,.int .i64 C.dp],.agg #[.slice S.a0 S.ts.length S.c0,.slice S.a1 S.bs.length S.c1,.slice S.a2 S.hs.length S.c2],.agg #[.func (.func 76) #[] #[],.func (.func 77) #[] #[],.int .i64 200,.int .i64 40,.func (.func 78) #[] #[]]] w fun e w'=>e=.returned (.bool (TriR.listB C S.ts))∧New w w':=by
 have hL:=Lib.hid (fun b W=>t_list b W)
 have hM:=Lib.hid (fun x W=>t_may C hC x W)
 have hI:=Lib.hid (fun x W=>t_id x W)
 have hR:=hS.t
 obtain⟨ts,bs,hs,a0,a1,a2,c0,c1,c2⟩:=S
 simp only at hR ⊢
 obtain⟨-,hc1,hc2,-,HR⟩:=hR.row
 unfold maxLen at hc2
 clear hR hS hC
 have hlen:ts.length≤9223372036854775807:=by omega
 go_enter Tryz.func51,Tryz.ntmps51
 go_wp2_with fail
 generalize hW:World.alloc _ _=W
 have hn:New w W:=by subst hW;exact nw
 have q0:W.cell? ⟨w.heap.size+1,0,none⟩=some (.slice a0 ts.length c0):=by subst hW;go_simp
 have k0:W.cell? ⟨w.heap.size+1+1,0,none⟩=some (.func (.func 76) #[] #[]):=by subst hW;go_simp
 have k1:W.cell? ⟨w.heap.size+1+1,1,none⟩=some (.func (.func 77) #[] #[]):=by subst hW;go_simp
 have k2:W.cell? ⟨w.heap.size+1+1,2,none⟩=some (.int .i64 200):=by subst hW;go_simp
 have k3:W.cell? ⟨w.heap.size+1+1,3,none⟩=some (.int .i64 40):=by subst hW;go_simp
 have k4:W.cell? ⟨w.heap.size+1+1,4,none⟩=some (.func (.func 78) #[] #[]):=by subst hW;go_simp
 ((have g0:World.cell? (W) ⟨w.heap.size,0,none⟩=some (.int .i64 C.cl):=(by subst hW;go_simp));(have g1:World.cell? (W) ⟨w.heap.size,1,none⟩=some (.int .i64 C.cb):=(by subst hW;go_simp));(have g2:World.cell? (W) ⟨w.heap.size,2,none⟩=some (.int .i64 C.ht):=(by subst hW;go_simp));(have g3:World.cell? (W) ⟨w.heap.size,3,none⟩=some (.int .i64 C.ri):=(by subst hW;go_simp));(have g4:World.cell? (W) ⟨w.heap.size,4,none⟩=some (.int .i64 C.ru):=(by subst hW;go_simp));(have g5:World.cell? (W) ⟨w.heap.size,5,none⟩=some (.int .i64 C.wd):=(by subst hW;go_simp));(have g6:World.cell? (W) ⟨w.heap.size,6,none⟩=some (.int .i64 C.dp):=(by subst hW;go_simp)))
 clear hW
 refine(hL.out _ _).mono ?_
 rintro e w' ⟨rfl,rfl⟩
 clear hL
 by_cases hm:ts.length≤200
 rotate_left
 ·have hd:decide ((200:Int)<(ts.length:Int))=true:=by simp;omega
  go_wp2_with fail
  go_ret
  exact⟨retBo (by unfold TriR.listB;simp[hm]),hn⟩
 have hd:decide ((200:Int)<(ts.length:Int))=false:=by simp;omega
 clear hlen hc1 hc2
 have HR':=Lib.hid (HR.keep hn)
 clear HR
 go_wp2_with fail
 clear hd q0
 go_loopg [22] ts.length (fun k s wr=>∃ i:Nat,s=.int .i64 i∧i+k=ts.length∧(List.range i).all (TriR.okAt C ts)=true∧New W wr)
 case atStart=>exact⟨0,by simp,by omega,by simp,New.refl _⟩
 case round =>
  obtain⟨i,rfl,hik,hall,hnW⟩:=hrel
  have HA:=Lib.hid hall
  clear hall
  by_cases hlt:i<ts.length
  ·cases i with
   | zero =>
    have hsr:=List.range_succ (n:=0)
    have HSR:=Lib.hid hsr
    clear hsr
    obtain⟨b,off,rfl,hA⟩:=HR'.out (by omega)
    have hA':=hA.keep hnW
    obtain⟨c0,c1,c2,c3,c4,c5,c6,c7,c8,c9⟩:=TriR.cells hA' (0) hlt
    simp only[Nat.zero_mul,Nat.add_zero]at c0 c1 c2 c3 c4 c5 c6 c7 c8 c9
    (replace k0:=New.keep (hnW) k0;replace k1:=New.keep (hnW) k1;replace k2:=New.keep (hnW) k2;replace k3:=New.keep (hnW) k3;replace k4:=New.keep (hnW) k4)
    (replace g0:=New.keep (hnW) g0;replace g1:=New.keep (hnW) g1;replace g2:=New.keep (hnW) g2;replace g3:=New.keep (hnW) g3;replace g4:=New.keep (hnW) g4;replace g5:=New.keep (hnW) g5;replace g6:=New.keep (hnW) g6)
    clear hA hA'
    go_upto_region 7 with fail
    generalize hZ:World.alloc _ _=Z
    have nZ:New wr Z:=by subst hZ;exact nw
    ((have z0:World.cell? (Z) ⟨wr.heap.size,0,none⟩=some (.int .i64 ts[0].i):=(by subst hZ;go_simp));(have z1:World.cell? (Z) ⟨wr.heap.size,1,none⟩=some (.int .i64 ts[0].x0):=(by subst hZ;go_simp));(have z2:World.cell? (Z) ⟨wr.heap.size,2,none⟩=some (.int .i64 ts[0].y0):=(by subst hZ;go_simp));(have z3:World.cell? (Z) ⟨wr.heap.size,3,none⟩=some (.int .i64 ts[0].z0):=(by subst hZ;go_simp));(have z4:World.cell? (Z) ⟨wr.heap.size,4,none⟩=some (.int .i64 ts[0].x1):=(by subst hZ;go_simp));(have z5:World.cell? (Z) ⟨wr.heap.size,5,none⟩=some (.int .i64 ts[0].y1):=(by subst hZ;go_simp));(have z6:World.cell? (Z) ⟨wr.heap.size,6,none⟩=some (.int .i64 ts[0].z1):=(by subst hZ;go_simp));(have z7:World.cell? (Z) ⟨wr.heap.size,7,none⟩=some (.int .i64 ts[0].x2):=(by subst hZ;go_simp));(have z8:World.cell? (Z) ⟨wr.heap.size,8,none⟩=some (.int .i64 ts[0].y2):=(by subst hZ;go_simp));(have z9:World.cell? (Z) ⟨wr.heap.size,9,none⟩=some (.int .i64 ts[0].z2):=(by subst hZ;go_simp)))
    (replace k0:=New.keep (nZ) k0;replace k1:=New.keep (nZ) k1;replace k2:=New.keep (nZ) k2;replace k3:=New.keep (nZ) k3;replace k4:=New.keep (nZ) k4)
    (replace g0:=New.keep (nZ) g0;replace g1:=New.keep (nZ) g1;replace g2:=New.keep (nZ) g2;replace g3:=New.keep (nZ) g3;replace g4:=New.keep (nZ) g4;replace g5:=New.keep (nZ) g5;replace g6:=New.keep (nZ) g6)
    clear c0 c1 c2 c3 c4 c5 c6 c7 c8 c9
    clear hZ
    have hok:=TriR.okAt_zero C ts hlt
    cases hmay:ts[0].may C
    ·have HM':=Lib.hid (fun W=>by have q:=hM.out ts[0] W;rw[hmay]at q;exact q:∀ W,Calls Tryz.prog 75 #[.agg #[.int .i64 C.cl,.int .i64 C.cb,.int .i64 C.ht,.int .i64 C.ri,.int .i64 C.ru,.int .i64 C.wd,.int .i64 C.dp],.agg #[.int .i64 ts[0].i,.int .i64 ts[0].x0,.int .i64 ts[0].y0,.int .i64 ts[0].z0,.int .i64 ts[0].x1,.int .i64 ts[0].y1,.int .i64 ts[0].z1,.int .i64 ts[0].x2,.int .i64 ts[0].y2,.int .i64 ts[0].z2],.agg #[.func (.func 76) #[] #[],.func (.func 77) #[] #[],.int .i64 200,.int .i64 40,.func (.func 78) #[] #[]]] W fun e w'=>e=.returned (.bool false)∧New W w')
     have HNO:Hid (TriR.listB C ts=false):=TriR.listB_no hlt (by rw[TriR.okAt_zero C ts hlt,hmay])
     clear hmay hM
     (refine wp_region_hat (by kernel_rfl) (by kernel_rfl) ?_;intro hatc hatf;(repeat(go_big_quiet_step ((first|(go_at_call 75;exact Calls.hat (HM'.out _))|(go_at_call 77;exact Calls.hat (hI.out _ _))))));refine wpQuiet_nil ?_;rintro _ ⟨x,rfl⟩)
     go_wp2_with fail
     go_ret
     exact⟨retBo HNO.out.symm,((hn.trans hnW).trans nZ).hat x⟩
    ·have HM':=Lib.hid (fun W=>by have q:=hM.out ts[0] W;rw[hmay]at q;exact q:∀ W,Calls Tryz.prog 75 #[.agg #[.int .i64 C.cl,.int .i64 C.cb,.int .i64 C.ht,.int .i64 C.ri,.int .i64 C.ru,.int .i64 C.wd,.int .i64 C.dp],.agg #[.int .i64 ts[0].i,.int .i64 ts[0].x0,.int .i64 ts[0].y0,.int .i64 ts[0].z0,.int .i64 ts[0].x1,.int .i64 ts[0].y1,.int .i64 ts[0].z1,.int .i64 ts[0].x2,.int .i64 ts[0].y2,.int .i64 ts[0].z2],.agg #[.func (.func 76) #[] #[],.func (.func 77) #[] #[],.int .i64 200,.int .i64 40,.func (.func 78) #[] #[]]] W fun e w'=>e=.returned (.bool true)∧New W w')
     have HOK:=Lib.hid (hok.trans hmay)
     clear hok hmay hM
     (refine wp_region_hat (by kernel_rfl) (by kernel_rfl) ?_;intro hatc hatf;(repeat(go_big_quiet_step ((first|(go_at_call 75;exact Calls.hat (HM'.out _))|(go_at_call 77;exact Calls.hat (hI.out _ _))))));refine wpQuiet_nil ?_;rintro _ ⟨x,rfl⟩)
     go_wp2_with fail
     go_roundg (gk - 1)
     case measure=>omega
     case rel=>exact⟨1,by go_num,by omega,by rw[HSR.out,List.all_append,HA.out];simp[HOK.out],(hnW.trans nZ).hat x⟩
   | succ i =>
    have hsr:=List.range_succ (n:=i+1)
    have HSR:=Lib.hid hsr
    clear hsr
    obtain⟨b,off,rfl,hA⟩:=HR'.out (by omega)
    have hA':=hA.keep hnW
    obtain⟨c0,c1,c2,c3,c4,c5,c6,c7,c8,c9⟩:=TriR.cells hA' (i+1) hlt
    (replace k0:=New.keep (hnW) k0;replace k1:=New.keep (hnW) k1;replace k2:=New.keep (hnW) k2;replace k3:=New.keep (hnW) k3;replace k4:=New.keep (hnW) k4)
    (replace g0:=New.keep (hnW) g0;replace g1:=New.keep (hnW) g1;replace g2:=New.keep (hnW) g2;replace g3:=New.keep (hnW) g3;replace g4:=New.keep (hnW) g4;replace g5:=New.keep (hnW) g5;replace g6:=New.keep (hnW) g6)
    obtain⟨d0,d1,d2,d3,d4,d5,d6,d7,d8,d9⟩:=TriR.cells hA' i (by omega)
    clear hA hA'
    go_upto_region 7 with fail
    generalize hZ:World.alloc _ _=Z
    have nZ:New wr Z:=by subst hZ;exact nw
    ((have z0:World.cell? (Z) ⟨wr.heap.size,0,none⟩=some (.int .i64 ts[i+1].i):=(by subst hZ;go_simp));(have z1:World.cell? (Z) ⟨wr.heap.size,1,none⟩=some (.int .i64 ts[i+1].x0):=(by subst hZ;go_simp));(have z2:World.cell? (Z) ⟨wr.heap.size,2,none⟩=some (.int .i64 ts[i+1].y0):=(by subst hZ;go_simp));(have z3:World.cell? (Z) ⟨wr.heap.size,3,none⟩=some (.int .i64 ts[i+1].z0):=(by subst hZ;go_simp));(have z4:World.cell? (Z) ⟨wr.heap.size,4,none⟩=some (.int .i64 ts[i+1].x1):=(by subst hZ;go_simp));(have z5:World.cell? (Z) ⟨wr.heap.size,5,none⟩=some (.int .i64 ts[i+1].y1):=(by subst hZ;go_simp));(have z6:World.cell? (Z) ⟨wr.heap.size,6,none⟩=some (.int .i64 ts[i+1].z1):=(by subst hZ;go_simp));(have z7:World.cell? (Z) ⟨wr.heap.size,7,none⟩=some (.int .i64 ts[i+1].x2):=(by subst hZ;go_simp));(have z8:World.cell? (Z) ⟨wr.heap.size,8,none⟩=some (.int .i64 ts[i+1].y2):=(by subst hZ;go_simp));(have z9:World.cell? (Z) ⟨wr.heap.size,9,none⟩=some (.int .i64 ts[i+1].z2):=(by subst hZ;go_simp)))
    (replace k0:=New.keep (nZ) k0;replace k1:=New.keep (nZ) k1;replace k2:=New.keep (nZ) k2;replace k3:=New.keep (nZ) k3;replace k4:=New.keep (nZ) k4)
    (replace g0:=New.keep (nZ) g0;replace g1:=New.keep (nZ) g1;replace g2:=New.keep (nZ) g2;replace g3:=New.keep (nZ) g3;replace g4:=New.keep (nZ) g4;replace g5:=New.keep (nZ) g5;replace g6:=New.keep (nZ) g6)
    clear c0 c1 c2 c3 c4 c5 c6 c7 c8 c9
    (replace d0:=New.keep (nZ) d0;replace d1:=New.keep (nZ) d1;replace d2:=New.keep (nZ) d2;replace d3:=New.keep (nZ) d3;replace d4:=New.keep (nZ) d4;replace d5:=New.keep (nZ) d5;replace d6:=New.keep (nZ) d6;replace d7:=New.keep (nZ) d7;replace d8:=New.keep (nZ) d8;replace d9:=New.keep (nZ) d9)
    clear hZ
    have hok:=TriR.okAt_succ C ts i hlt
    cases hmay:ts[i+1].may C
    ·have HM':=Lib.hid (fun W=>by have q:=hM.out ts[i+1] W;rw[hmay]at q;exact q:∀ W,Calls Tryz.prog 75 #[.agg #[.int .i64 C.cl,.int .i64 C.cb,.int .i64 C.ht,.int .i64 C.ri,.int .i64 C.ru,.int .i64 C.wd,.int .i64 C.dp],.agg #[.int .i64 ts[i+1].i,.int .i64 ts[i+1].x0,.int .i64 ts[i+1].y0,.int .i64 ts[i+1].z0,.int .i64 ts[i+1].x1,.int .i64 ts[i+1].y1,.int .i64 ts[i+1].z1,.int .i64 ts[i+1].x2,.int .i64 ts[i+1].y2,.int .i64 ts[i+1].z2],.agg #[.func (.func 76) #[] #[],.func (.func 77) #[] #[],.int .i64 200,.int .i64 40,.func (.func 78) #[] #[]]] W fun e w'=>e=.returned (.bool false)∧New W w')
     have HNO:Hid (TriR.listB C ts=false):=TriR.listB_no hlt (by rw[TriR.okAt_succ C ts i hlt,hmay];rfl)
     clear hmay hM
     (refine wp_region_hat (by kernel_rfl) (by kernel_rfl) ?_;intro hatc hatf;(repeat(go_big_quiet_step ((first|(go_at_call 75;exact Calls.hat (HM'.out _))|(go_at_call 77;exact Calls.hat (hI.out _ _))))));refine wpQuiet_nil ?_;rintro _ ⟨x,rfl⟩)
     go_wp2_with fail
     go_ret
     exact⟨retBo HNO.out.symm,((hn.trans hnW).trans nZ).hat x⟩
    ·have HM':=Lib.hid (fun W=>by have q:=hM.out ts[i+1] W;rw[hmay]at q;exact q:∀ W,Calls Tryz.prog 75 #[.agg #[.int .i64 C.cl,.int .i64 C.cb,.int .i64 C.ht,.int .i64 C.ri,.int .i64 C.ru,.int .i64 C.wd,.int .i64 C.dp],.agg #[.int .i64 ts[i+1].i,.int .i64 ts[i+1].x0,.int .i64 ts[i+1].y0,.int .i64 ts[i+1].z0,.int .i64 ts[i+1].x1,.int .i64 ts[i+1].y1,.int .i64 ts[i+1].z1,.int .i64 ts[i+1].x2,.int .i64 ts[i+1].y2,.int .i64 ts[i+1].z2],.agg #[.func (.func 76) #[] #[],.func (.func 77) #[] #[],.int .i64 200,.int .i64 40,.func (.func 78) #[] #[]]] W fun e w'=>e=.returned (.bool true)∧New W w')
     rw[hmay,Bool.true_and]at hok
     clear hmay hM
     cases hle:decide (ts[i+1].i≤ts[i].i)
     ·have HOK:Hid (TriR.okAt C ts (i+1)=true):=by
       show _=true
       rw[hok]
       simp at hle ⊢
       first|done|omega
      clear hok
      (refine wp_region_hat (by kernel_rfl) (by kernel_rfl) ?_;intro hatc hatf;(repeat(go_big_quiet_step ((first|(go_at_call 75;exact Calls.hat (HM'.out _))|(go_at_call 77;exact Calls.hat (hI.out _ _))))));refine wpQuiet_nil ?_;rintro _ ⟨x,rfl⟩)
      go_wp2_with fail
      go_roundg (gk - 1)
      case measure=>omega
      case rel=>exact⟨i+1+1,by go_num,by omega,by rw[HSR.out,List.all_append,HA.out];simp[HOK.out],(hnW.trans nZ).hat x⟩
     ·have HNO:Hid (TriR.listB C ts=false):=TriR.listB_no hlt (by rw[hok];simp at hle ⊢;first|done|omega)
      clear hok
      (refine wp_region_hat (by kernel_rfl) (by kernel_rfl) ?_;intro hatc hatf;(repeat(go_big_quiet_step ((first|(go_at_call 75;exact Calls.hat (HM'.out _))|(go_at_call 77;exact Calls.hat (hI.out _ _))))));refine wpQuiet_nil ?_;rintro _ ⟨x,rfl⟩)
      go_wp2_with fail
      go_ret
      exact⟨retBo HNO.out.symm,((hn.trans hnW).trans nZ).hat x⟩
  ·go_wp2_with fail
   go_ret
   refine⟨retBo ?_,hn.trans hnW⟩
   have:=HA.out
   rw[show i=ts.length by omega]at this
   unfold TriR.listB
   rw[this]
   simp[hm]
def HopR.okAt (C:CfgR) (l:List HopR) (i:Nat):Bool:=(l[i]!).may C&&(i==0||decide ((l[i - 1]!).i<(l[i]!).i))
def HopR.listB (C:CfgR) (l:List HopR):Bool:=decide (l.length≤16)&&(List.range l.length).all (HopR.okAt C l)
theorem HopR.okAt_zero (C:CfgR) (l:List HopR) (h:0<l.length):HopR.okAt C l 0=l[0].may C:=by
 unfold HopR.okAt
 rw[getElem!_pos l 0 h]
 simp
theorem HopR.okAt_succ (C:CfgR) (l:List HopR) (i:Nat) (h:i+1<l.length):HopR.okAt C l (i+1)=(l[i+1].may C&&decide (l[i].i<l[i+1].i)):=by
 unfold HopR.okAt
 rw[getElem!_pos l (i+1) h,Nat.add_sub_cancel,getElem!_pos l i (by omega)]
 simp
theorem HopR.listB_no {C:CfgR} {l:List HopR} {i:Nat} (h:i<l.length) (k:HopR.okAt C l i=false):HopR.listB C l=false:=by
 unfold HopR.listB
 rw[Bool.and_eq_false_iff]
 exact Or.inr (List.all_eq_false.2 ⟨i,List.mem_range.2 h,by rw[k];simp⟩)
theorem h_listMay (C:CfgR) (hC:C.fine) (S:SoupV) (w:World) (hS:S.ok w) :
  Calls Tryz.prog 57 #[.agg #[.int .i64 C.cl,.int .i64 C.cb,.int .i64 C.ht,.int .i64 C.ri,.int .i64 C.ru,.int .i64 C.wd,.int .i64 C.dp],.agg #[.slice S.a0 S.ts.length S.c0,.slice S.a1 S.bs.length S.c1,.slice S.a2 S.hs.length S.c2],.agg #[.func (.func 91) #[] #[],.func (.func 92) #[] #[],.int .i64 16,.int .i64 2,.func (.func 93) #[] #[]]] w fun e w'=>e=.returned (.bool (HopR.listB C S.hs))∧New w w':=by
 have hL:=Lib.hid (fun b W=>h_list b W)
 have hM:=Lib.hid (fun x W=>h_may C hC x W)
 have hI:=Lib.hid (fun x W=>h_id x W)
 have hR:=hS.h
 obtain⟨ts,bs,hs,a0,a1,a2,c0,c1,c2⟩:=S
 simp only at hR ⊢
 obtain⟨-,hc1,hc2,-,HR⟩:=hR.row
 unfold maxLen at hc2
 clear hR hS hC
 have hlen:hs.length≤9223372036854775807:=by omega
 go_enter Tryz.func57,Tryz.ntmps57
 go_wp2_with fail
 generalize hW:World.alloc _ _=W
 have hn:New w W:=by subst hW;exact nw
 have q2:W.cell? ⟨w.heap.size+1,2,none⟩=some (.slice a2 hs.length c2):=by subst hW;go_simp
 have k0:W.cell? ⟨w.heap.size+1+1,0,none⟩=some (.func (.func 91) #[] #[]):=by subst hW;go_simp
 have k1:W.cell? ⟨w.heap.size+1+1,1,none⟩=some (.func (.func 92) #[] #[]):=by subst hW;go_simp
 have k2:W.cell? ⟨w.heap.size+1+1,2,none⟩=some (.int .i64 16):=by subst hW;go_simp
 have k3:W.cell? ⟨w.heap.size+1+1,3,none⟩=some (.int .i64 2):=by subst hW;go_simp
 have k4:W.cell? ⟨w.heap.size+1+1,4,none⟩=some (.func (.func 93) #[] #[]):=by subst hW;go_simp
 ((have g0:World.cell? (W) ⟨w.heap.size,0,none⟩=some (.int .i64 C.cl):=(by subst hW;go_simp));(have g1:World.cell? (W) ⟨w.heap.size,1,none⟩=some (.int .i64 C.cb):=(by subst hW;go_simp));(have g2:World.cell? (W) ⟨w.heap.size,2,none⟩=some (.int .i64 C.ht):=(by subst hW;go_simp));(have g3:World.cell? (W) ⟨w.heap.size,3,none⟩=some (.int .i64 C.ri):=(by subst hW;go_simp));(have g4:World.cell? (W) ⟨w.heap.size,4,none⟩=some (.int .i64 C.ru):=(by subst hW;go_simp));(have g5:World.cell? (W) ⟨w.heap.size,5,none⟩=some (.int .i64 C.wd):=(by subst hW;go_simp));(have g6:World.cell? (W) ⟨w.heap.size,6,none⟩=some (.int .i64 C.dp):=(by subst hW;go_simp)))
 clear hW
 refine(hL.out _ _).mono ?_
 rintro e w' ⟨rfl,rfl⟩
 clear hL
 by_cases hm:hs.length≤16
 rotate_left
 ·have hd:decide ((16:Int)<(hs.length:Int))=true:=by simp;omega
  go_wp2_with fail
  go_ret
  exact⟨retBo (by unfold HopR.listB;simp[hm]),hn⟩
 have hd:decide ((16:Int)<(hs.length:Int))=false:=by simp;omega
 clear hlen hc1 hc2
 have HR':=Lib.hid (HR.keep hn)
 clear HR
 go_wp2_with fail
 clear hd q2
 go_loopg [22] hs.length (fun k s wr=>∃ i:Nat,s=.int .i64 i∧i+k=hs.length∧(List.range i).all (HopR.okAt C hs)=true∧New W wr)
 case atStart=>exact⟨0,by simp,by omega,by simp,New.refl _⟩
 case round =>
  obtain⟨i,rfl,hik,hall,hnW⟩:=hrel
  have HA:=Lib.hid hall
  clear hall
  by_cases hlt:i<hs.length
  ·cases i with
   | zero =>
    have hsr:=List.range_succ (n:=0)
    have HSR:=Lib.hid hsr
    clear hsr
    obtain⟨b,off,rfl,hA⟩:=HR'.out (by omega)
    have hA':=hA.keep hnW
    obtain⟨c0,c1,c2,c3,c4,c5,c6,c7,c8,c9⟩:=HopR.cells hA' (0) hlt
    simp only[Nat.zero_mul,Nat.add_zero]at c0 c1 c2 c3 c4 c5 c6 c7 c8 c9
    (replace k0:=New.keep (hnW) k0;replace k1:=New.keep (hnW) k1;replace k2:=New.keep (hnW) k2;replace k3:=New.keep (hnW) k3;replace k4:=New.keep (hnW) k4)
    (replace g0:=New.keep (hnW) g0;replace g1:=New.keep (hnW) g1;replace g2:=New.keep (hnW) g2;replace g3:=New.keep (hnW) g3;replace g4:=New.keep (hnW) g4;replace g5:=New.keep (hnW) g5;replace g6:=New.keep (hnW) g6)
    clear hA hA'
    go_upto_region 7 with fail
    generalize hZ:World.alloc _ _=Z
    have nZ:New wr Z:=by subst hZ;exact nw
    ((have z0:World.cell? (Z) ⟨wr.heap.size,0,none⟩=some (.int .i64 hs[0].i):=(by subst hZ;go_simp));(have z1:World.cell? (Z) ⟨wr.heap.size,1,none⟩=some (.int .i64 hs[0].fx):=(by subst hZ;go_simp));(have z2:World.cell? (Z) ⟨wr.heap.size,2,none⟩=some (.int .i64 hs[0].fz):=(by subst hZ;go_simp));(have z3:World.cell? (Z) ⟨wr.heap.size,3,none⟩=some (.int .i64 hs[0].fy):=(by subst hZ;go_simp));(have z4:World.cell? (Z) ⟨wr.heap.size,4,none⟩=some (.int .i64 hs[0].tx):=(by subst hZ;go_simp));(have z5:World.cell? (Z) ⟨wr.heap.size,5,none⟩=some (.int .i64 hs[0].tz):=(by subst hZ;go_simp));(have z6:World.cell? (Z) ⟨wr.heap.size,6,none⟩=some (.int .i64 hs[0].ty):=(by subst hZ;go_simp));(have z7:World.cell? (Z) ⟨wr.heap.size,7,none⟩=some (.bool hs[0].bo):=(by subst hZ;go_simp));(have z8:World.cell? (Z) ⟨wr.heap.size,8,none⟩=some (.int .i64 hs[0].ar):=(by subst hZ;go_simp));(have z9:World.cell? (Z) ⟨wr.heap.size,9,none⟩=some (.int .i64 hs[0].co):=(by subst hZ;go_simp)))
    (replace k0:=New.keep (nZ) k0;replace k1:=New.keep (nZ) k1;replace k2:=New.keep (nZ) k2;replace k3:=New.keep (nZ) k3;replace k4:=New.keep (nZ) k4)
    (replace g0:=New.keep (nZ) g0;replace g1:=New.keep (nZ) g1;replace g2:=New.keep (nZ) g2;replace g3:=New.keep (nZ) g3;replace g4:=New.keep (nZ) g4;replace g5:=New.keep (nZ) g5;replace g6:=New.keep (nZ) g6)
    clear c0 c1 c2 c3 c4 c5 c6 c7 c8 c9
    clear hZ
    have hok:=HopR.okAt_zero C hs hlt
    cases hmay:hs[0].may C
    ·have HM':=Lib.hid (fun W=>by have q:=hM.out hs[0] W;rw[hmay]at q;exact q:∀ W,Calls Tryz.prog 90 #[.agg #[.int .i64 C.cl,.int .i64 C.cb,.int .i64 C.ht,.int .i64 C.ri,.int .i64 C.ru,.int .i64 C.wd,.int .i64 C.dp],.agg #[.int .i64 hs[0].i,.int .i64 hs[0].fx,.int .i64 hs[0].fz,.int .i64 hs[0].fy,.int .i64 hs[0].tx,.int .i64 hs[0].tz,.int .i64 hs[0].ty,.bool hs[0].bo,.int .i64 hs[0].ar,.int .i64 hs[0].co],.agg #[.func (.func 91) #[] #[],.func (.func 92) #[] #[],.int .i64 16,.int .i64 2,.func (.func 93) #[] #[]]] W fun e w'=>e=.returned (.bool false)∧New W w')
     have HNO:Hid (HopR.listB C hs=false):=HopR.listB_no hlt (by rw[HopR.okAt_zero C hs hlt,hmay])
     clear hmay hM
     (refine wp_region_hat (by kernel_rfl) (by kernel_rfl) ?_;intro hatc hatf;(repeat(go_big_quiet_step ((first|(go_at_call 90;exact Calls.hat (HM'.out _))|(go_at_call 92;exact Calls.hat (hI.out _ _))))));refine wpQuiet_nil ?_;rintro _ ⟨x,rfl⟩)
     go_wp2_with fail
     go_ret
     exact⟨retBo HNO.out.symm,((hn.trans hnW).trans nZ).hat x⟩
    ·have HM':=Lib.hid (fun W=>by have q:=hM.out hs[0] W;rw[hmay]at q;exact q:∀ W,Calls Tryz.prog 90 #[.agg #[.int .i64 C.cl,.int .i64 C.cb,.int .i64 C.ht,.int .i64 C.ri,.int .i64 C.ru,.int .i64 C.wd,.int .i64 C.dp],.agg #[.int .i64 hs[0].i,.int .i64 hs[0].fx,.int .i64 hs[0].fz,.int .i64 hs[0].fy,.int .i64 hs[0].tx,.int .i64 hs[0].tz,.int .i64 hs[0].ty,.bool hs[0].bo,.int .i64 hs[0].ar,.int .i64 hs[0].co],.agg #[.func (.func 91) #[] #[],.func (.func 92) #[] #[],.int .i64 16,.int .i64 2,.func (.func 93) #[] #[]]] W fun e w'=>e=.returned (.bool true)∧New W w')
     have HOK:=Lib.hid (hok.trans hmay)
     clear hok hmay hM
     (refine wp_region_hat (by kernel_rfl) (by kernel_rfl) ?_;intro hatc hatf;(repeat(go_big_quiet_step ((first|(go_at_call 90;exact Calls.hat (HM'.out _))|(go_at_call 92;exact Calls.hat (hI.out _ _))))));refine wpQuiet_nil ?_;rintro _ ⟨x,rfl⟩)
     go_wp2_with fail
     go_roundg (gk - 1)
     case measure=>omega
     case rel=>exact⟨1,by go_num,by omega,by rw[HSR.out,List.all_append,HA.out];simp[HOK.out],(hnW.trans nZ).hat x⟩
   | succ i =>
    have hsr:=List.range_succ (n:=i+1)
    have HSR:=Lib.hid hsr
    clear hsr
    obtain⟨b,off,rfl,hA⟩:=HR'.out (by omega)
    have hA':=hA.keep hnW
    obtain⟨c0,c1,c2,c3,c4,c5,c6,c7,c8,c9⟩:=HopR.cells hA' (i+1) hlt
    (replace k0:=New.keep (hnW) k0;replace k1:=New.keep (hnW) k1;replace k2:=New.keep (hnW) k2;replace k3:=New.keep (hnW) k3;replace k4:=New.keep (hnW) k4)
    (replace g0:=New.keep (hnW) g0;replace g1:=New.keep (hnW) g1;replace g2:=New.keep (hnW) g2;replace g3:=New.keep (hnW) g3;replace g4:=New.keep (hnW) g4;replace g5:=New.keep (hnW) g5;replace g6:=New.keep (hnW) g6)
    obtain⟨d0,d1,d2,d3,d4,d5,d6,d7,d8,d9⟩:=HopR.cells hA' i (by omega)
    clear hA hA'
    go_upto_region 7 with fail
    generalize hZ:World.alloc _ _=Z
    have nZ:New wr Z:=by subst hZ;exact nw
    ((have z0:World.cell? (Z) ⟨wr.heap.size,0,none⟩=some (.int .i64 hs[i+1].i):=(by subst hZ;go_simp));(have z1:World.cell? (Z) ⟨wr.heap.size,1,none⟩=some (.int .i64 hs[i+1].fx):=(by subst hZ;go_simp));(have z2:World.cell? (Z) ⟨wr.heap.size,2,none⟩=some (.int .i64 hs[i+1].fz):=(by subst hZ;go_simp));(have z3:World.cell? (Z) ⟨wr.heap.size,3,none⟩=some (.int .i64 hs[i+1].fy):=(by subst hZ;go_simp));(have z4:World.cell? (Z) ⟨wr.heap.size,4,none⟩=some (.int .i64 hs[i+1].tx):=(by subst hZ;go_simp));(have z5:World.cell? (Z) ⟨wr.heap.size,5,none⟩=some (.int .i64 hs[i+1].tz):=(by subst hZ;go_simp));(have z6:World.cell? (Z) ⟨wr.heap.size,6,none⟩=some (.int .i64 hs[i+1].ty):=(by subst hZ;go_simp));(have z7:World.cell? (Z) ⟨wr.heap.size,7,none⟩=some (.bool hs[i+1].bo):=(by subst hZ;go_simp));(have z8:World.cell? (Z) ⟨wr.heap.size,8,none⟩=some (.int .i64 hs[i+1].ar):=(by subst hZ;go_simp));(have z9:World.cell? (Z) ⟨wr.heap.size,9,none⟩=some (.int .i64 hs[i+1].co):=(by subst hZ;go_simp)))
    (replace k0:=New.keep (nZ) k0;replace k1:=New.keep (nZ) k1;replace k2:=New.keep (nZ) k2;replace k3:=New.keep (nZ) k3;replace k4:=New.keep (nZ) k4)
    (replace g0:=New.keep (nZ) g0;replace g1:=New.keep (nZ) g1;replace g2:=New.keep (nZ) g2;replace g3:=New.keep (nZ) g3;replace g4:=New.keep (nZ) g4;replace g5:=New.keep (nZ) g5;replace g6:=New.keep (nZ) g6)
    clear c0 c1 c2 c3 c4 c5 c6 c7 c8 c9
    (replace d0:=New.keep (nZ) d0;replace d1:=New.keep (nZ) d1;replace d2:=New.keep (nZ) d2;replace d3:=New.keep (nZ) d3;replace d4:=New.keep (nZ) d4;replace d5:=New.keep (nZ) d5;replace d6:=New.keep (nZ) d6;replace d7:=New.keep (nZ) d7;replace d8:=New.keep (nZ) d8;replace d9:=New.keep (nZ) d9)
    clear hZ
    have hok:=HopR.okAt_succ C hs i hlt
    cases hmay:hs[i+1].may C
    ·have HM':=Lib.hid (fun W=>by have q:=hM.out hs[i+1] W;rw[hmay]at q;exact q:∀ W,Calls Tryz.prog 90 #[.agg #[.int .i64 C.cl,.int .i64 C.cb,.int .i64 C.ht,.int .i64 C.ri,.int .i64 C.ru,.int .i64 C.wd,.int .i64 C.dp],.agg #[.int .i64 hs[i+1].i,.int .i64 hs[i+1].fx,.int .i64 hs[i+1].fz,.int .i64 hs[i+1].fy,.int .i64 hs[i+1].tx,.int .i64 hs[i+1].tz,.int .i64 hs[i+1].ty,.bool hs[i+1].bo,.int .i64 hs[i+1].ar,.int .i64 hs[i+1].co],.agg #[.func (.func 91) #[] #[],.func (.func 92) #[] #[],.int .i64 16,.int .i64 2,.func (.func 93) #[] #[]]] W fun e w'=>e=.returned (.bool false)∧New W w')
     have HNO:Hid (HopR.listB C hs=false):=HopR.listB_no hlt (by rw[HopR.okAt_succ C hs i hlt,hmay];rfl)
     clear hmay hM
     (refine wp_region_hat (by kernel_rfl) (by kernel_rfl) ?_;intro hatc hatf;(repeat(go_big_quiet_step ((first|(go_at_call 90;exact Calls.hat (HM'.out _))|(go_at_call 92;exact Calls.hat (hI.out _ _))))));refine wpQuiet_nil ?_;rintro _ ⟨x,rfl⟩)
     go_wp2_with fail
     go_ret
     exact⟨retBo HNO.out.symm,((hn.trans hnW).trans nZ).hat x⟩
    ·have HM':=Lib.hid (fun W=>by have q:=hM.out hs[i+1] W;rw[hmay]at q;exact q:∀ W,Calls Tryz.prog 90 #[.agg #[.int .i64 C.cl,.int .i64 C.cb,.int .i64 C.ht,.int .i64 C.ri,.int .i64 C.ru,.int .i64 C.wd,.int .i64 C.dp],.agg #[.int .i64 hs[i+1].i,.int .i64 hs[i+1].fx,.int .i64 hs[i+1].fz,.int .i64 hs[i+1].fy,.int .i64 hs[i+1].tx,.int .i64 hs[i+1].tz,.int .i64 hs[i+1].ty,.bool hs[i+1].bo,.int .i64 hs[i+1].ar,.int .i64 hs[i+1].co],.agg #[.func (.func 91) #[] #[],.func (.func 92) #[] #[],.int .i64 16,.int .i64 2,.func (.func 93) #[] #[]]] W fun e w'=>e=.returned (.bool true)∧New W w')
     rw[hmay,Bool.true_and]at hok
     clear hmay hM
     cases hle:decide (hs[i+1].i≤hs[i].i)
     ·have HOK:Hid (HopR.okAt C hs (i+1)=true):=by
       show _=true
       rw[hok]
       simp at hle ⊢
       first|done|omega
      clear hok
      (refine wp_region_hat (by kernel_rfl) (by kernel_rfl) ?_;intro hatc hatf;(repeat(go_big_quiet_step ((first|(go_at_call 90;exact Calls.hat (HM'.out _))|(go_at_call 92;exact Calls.hat (hI.out _ _))))));refine wpQuiet_nil ?_;rintro _ ⟨x,rfl⟩)
      go_wp2_with fail
      go_roundg (gk - 1)
      case measure=>omega
      case rel=>exact⟨i+1+1,by go_num,by omega,by rw[HSR.out,List.all_append,HA.out];simp[HOK.out],(hnW.trans nZ).hat x⟩
     ·have HNO:Hid (HopR.listB C hs=false):=HopR.listB_no hlt (by rw[hok];simp at hle ⊢;first|done|omega)
      clear hok
      (refine wp_region_hat (by kernel_rfl) (by kernel_rfl) ?_;intro hatc hatf;(repeat(go_big_quiet_step ((first|(go_at_call 90;exact Calls.hat (HM'.out _))|(go_at_call 92;exact Calls.hat (hI.out _ _))))));refine wpQuiet_nil ?_;rintro _ ⟨x,rfl⟩)
      go_wp2_with fail
      go_ret
      exact⟨retBo HNO.out.symm,((hn.trans hnW).trans nZ).hat x⟩
  ·go_wp2_with fail
   go_ret
   refine⟨retBo ?_,hn.trans hnW⟩
   have:=HA.out
   rw[show i=hs.length by omega]at this
   unfold HopR.listB
   rw[this]
   simp[hm]
theorem run_store_fn {P:Program} {a:Addr} {f:_root_.Go.Fn} {x y:Array Value} {m:Mode} {w:World}:(store a (.func f x y) m).run P w=stored P w a (.func f x y) m:=run_store P w a _ m rfl
attribute [local go_sem] run_store_fn
theorem t_kind (w:World):Calls Tryz.prog 52 #[] w fun e w'=>e=.returned (.agg #[.func (.func 76) #[] #[],.func (.func 77) #[] #[],.int .i64 200,.int .i64 40,.func (.func 78) #[] #[]])∧New w w':=by
 go_enter Tryz.func52,Tryz.ntmps52
 go_wp2_with fail
 refine bodyPost_ret (v:=.agg #[.func (.func 76) #[] #[],.func (.func 77) #[] #[],.int .i64 200,.int .i64 40,.func (.func 78) #[] #[]]) (by simp[results,Tryz.results52,go_sem]) rfl ⟨rfl,by exact nw⟩
theorem t_checked (C:CfgR) (hC:C.fine) (S:SoupV) (Bc Bs:Nat) (w:World) (hS:S.ok w) (hc:CellsAt w Bc 0 C.enc)
  (q0:w.cell? ⟨Bs,0,none⟩=some (.slice S.a0 S.ts.length S.c0)) (q1:w.cell? ⟨Bs,1,none⟩=some (.slice S.a1 S.bs.length S.c1)) (q2:w.cell? ⟨Bs,2,none⟩=some (.slice S.a2 S.hs.length S.c2)) :
  Calls Tryz.prog 50 #[.pointer (some ⟨Bc,0,none⟩),.pointer (some ⟨Bs,0,none⟩)] w fun e w'=>e=.returned (.bool (TriR.listB C S.ts))∧New w w':=by
 have HK:=Lib.hid (fun W=>t_kind W)
 have HL:=Lib.hid (fun W (n:New w W)=>t_listMay C hC S W (hS.keep n))
 obtain⟨c0,c1,c2,c3,c4,c5,c6⟩:=CfgR.at hc
 clear hc hS
 generalize TriR.listB C S.ts=v at *
 go_enter Tryz.func50,Tryz.ntmps50
 go_wp2_with fail
 (refine wp_region_hat (by kernel_rfl) (by kernel_rfl) ?_;intro hatc hatf;(repeat(go_big_quiet_step ((first|(go_at_call 52;exact Calls.hat (HK.out _))|(go_at_call 51;exact Calls.hat (HL.out _ (Hat.h _)))))));refine wpQuiet_nil ?_;rintro _ ⟨x,rfl⟩)
 go_wp2_with fail
 go_ret
 exact⟨rfl,x.h⟩
theorem b_kind (w:World):Calls Tryz.prog 55 #[] w fun e w'=>e=.returned (.agg #[.func (.func 82) #[] #[],.func (.func 83) #[] #[],.int .i64 16,.int .i64 2,.func (.func 84) #[] #[]])∧New w w':=by
 go_enter Tryz.func55,Tryz.ntmps55
 go_wp2_with fail
 refine bodyPost_ret (v:=.agg #[.func (.func 82) #[] #[],.func (.func 83) #[] #[],.int .i64 16,.int .i64 2,.func (.func 84) #[] #[]]) (by simp[results,Tryz.results55,go_sem]) rfl ⟨rfl,by exact nw⟩
theorem b_checked (C:CfgR) (hC:C.fine) (S:SoupV) (Bc Bs:Nat) (w:World) (hS:S.ok w) (hc:CellsAt w Bc 0 C.enc)
  (q0:w.cell? ⟨Bs,0,none⟩=some (.slice S.a0 S.ts.length S.c0)) (q1:w.cell? ⟨Bs,1,none⟩=some (.slice S.a1 S.bs.length S.c1)) (q2:w.cell? ⟨Bs,2,none⟩=some (.slice S.a2 S.hs.length S.c2)) :
  Calls Tryz.prog 53 #[.pointer (some ⟨Bc,0,none⟩),.pointer (some ⟨Bs,0,none⟩)] w fun e w'=>e=.returned (.bool (BoxR.listB C S.bs))∧New w w':=by
 have HK:=Lib.hid (fun W=>b_kind W)
 have HL:=Lib.hid (fun W (n:New w W)=>b_listMay C hC S W (hS.keep n))
 obtain⟨c0,c1,c2,c3,c4,c5,c6⟩:=CfgR.at hc
 clear hc hS
 generalize BoxR.listB C S.bs=v at *
 go_enter Tryz.func53,Tryz.ntmps53
 go_wp2_with fail
 (refine wp_region_hat (by kernel_rfl) (by kernel_rfl) ?_;intro hatc hatf;(repeat(go_big_quiet_step ((first|(go_at_call 55;exact Calls.hat (HK.out _))|(go_at_call 54;exact Calls.hat (HL.out _ (Hat.h _)))))));refine wpQuiet_nil ?_;rintro _ ⟨x,rfl⟩)
 go_wp2_with fail
 go_ret
 exact⟨rfl,x.h⟩
theorem h_kind (w:World):Calls Tryz.prog 58 #[] w fun e w'=>e=.returned (.agg #[.func (.func 91) #[] #[],.func (.func 92) #[] #[],.int .i64 16,.int .i64 2,.func (.func 93) #[] #[]])∧New w w':=by
 go_enter Tryz.func58,Tryz.ntmps58
 go_wp2_with fail
 refine bodyPost_ret (v:=.agg #[.func (.func 91) #[] #[],.func (.func 92) #[] #[],.int .i64 16,.int .i64 2,.func (.func 93) #[] #[]]) (by simp[results,Tryz.results58,go_sem]) rfl ⟨rfl,by exact nw⟩
theorem h_checked (C:CfgR) (hC:C.fine) (S:SoupV) (Bc Bs:Nat) (w:World) (hS:S.ok w) (hc:CellsAt w Bc 0 C.enc)
  (q0:w.cell? ⟨Bs,0,none⟩=some (.slice S.a0 S.ts.length S.c0)) (q1:w.cell? ⟨Bs,1,none⟩=some (.slice S.a1 S.bs.length S.c1)) (q2:w.cell? ⟨Bs,2,none⟩=some (.slice S.a2 S.hs.length S.c2)) :
  Calls Tryz.prog 56 #[.pointer (some ⟨Bc,0,none⟩),.pointer (some ⟨Bs,0,none⟩)] w fun e w'=>e=.returned (.bool (HopR.listB C S.hs))∧New w w':=by
 have HK:=Lib.hid (fun W=>h_kind W)
 have HL:=Lib.hid (fun W (n:New w W)=>h_listMay C hC S W (hS.keep n))
 obtain⟨c0,c1,c2,c3,c4,c5,c6⟩:=CfgR.at hc
 clear hc hS
 generalize HopR.listB C S.hs=v at *
 go_enter Tryz.func56,Tryz.ntmps56
 go_wp2_with fail
 (refine wp_region_hat (by kernel_rfl) (by kernel_rfl) ?_;intro hatc hatf;(repeat(go_big_quiet_step ((first|(go_at_call 58;exact Calls.hat (HK.out _))|(go_at_call 57;exact Calls.hat (HL.out _ (Hat.h _)))))));refine wpQuiet_nil ?_;rintro _ ⟨x,rfl⟩)
 go_wp2_with fail
 go_ret
 exact⟨rfl,x.h⟩
def SoupV.err (S:SoupV) (C:CfgR):Int:=if C.err≠0 then 20 else if TriR.listB C S.ts=true∧BoxR.listB C S.bs=true∧HopR.listB C S.hs=true then 0 else 2
theorem Fn.three {f g h:Fn} {P:Fn→Prop} (h0:P f) (h1:P g) (h2:P h):∀ j (hj:j<[f,g,h].length),P [f,g,h][j]
 | 0,_=>h0
 | 1,_=>h1
 | 2,_=>h2
 | _+3,hj=>absurd hj (by simp)
theorem s_check (C:CfgR) (S:SoupV) (w:World) (hS:S.ok w) :
  Calls Tryz.prog 34 #[.agg #[.int .i64 C.cl,.int .i64 C.cb,.int .i64 C.ht,.int .i64 C.ri,.int .i64 C.ru,.int .i64 C.wd,.int .i64 C.dp],.agg #[.slice S.a0 S.ts.length S.c0,.slice S.a1 S.bs.length S.c1,.slice S.a2 S.hs.length S.c2]] w fun e w'=>e=.returned (.int .i64 (S.err C))∧New w w':=by
 have HC:=Lib.hid (fun W=>check_any C.cl C.cb C.ht C.ri C.ru C.wd C.dp W)
 obtain⟨v,hv⟩:∃ v,v=S.err C:=⟨_,rfl⟩
 rw[←hv]
 unfold SoupV.err CfgR.err at hv
 obtain⟨ce,hce⟩:∃ ce,ce=checkE C.cl C.cb C.ht C.ri C.ru C.wd C.dp:=⟨_,rfl⟩
 rw[←hce]at hv HC
 have htwo:=checkE_two C.cl C.cb C.ht C.ri C.ru C.wd C.dp
 rw[←hce]at htwo
 rcases htwo with h0|h0
 rotate_left
 ·rw[h0]at hv HC
  have HV:Hid (v=20):=by show v=20;rw[hv];simp
  clear hv hce h0
  go_enter Tryz.func34,Tryz.ntmps34
  go_wp2_with fail
  generalize hW:World.alloc _ _=W
  have hn:New w W:=by subst hW;exact nw
  clear hW
  refine(HC.out _).mono ?_
  rintro e W1 ⟨rfl,n1,-⟩
  go_wp2_with fail
  go_ret
  rw[HV.out]
  exact⟨rfl,hn.trans n1⟩
 ·have hC:C.fine:=CfgR.fine_of (hce.symm.trans h0)
  rw[h0]at hv HC
  clear hce h0
  have HT:=Lib.hid (fun W=>t_checked C hC S w.heap.size (w.heap.size+1) W)
  have HB:=Lib.hid (fun W=>b_checked C hC S w.heap.size (w.heap.size+1) W)
  have HH:=Lib.hid (fun W=>h_checked C hC S w.heap.size (w.heap.size+1) W)
  clear hC
  obtain⟨vt,hvt⟩:∃ v,v=TriR.listB C S.ts:=⟨_,rfl⟩
  obtain⟨vb,hvb⟩:∃ v,v=BoxR.listB C S.bs:=⟨_,rfl⟩
  obtain⟨vh,hvh⟩:∃ v,v=HopR.listB C S.hs:=⟨_,rfl⟩
  rw[←hvt,←hvb,←hvh]at hv
  rw[←hvt]at HT
  rw[←hvb]at HB
  rw[←hvh]at HH
  have HV:=Lib.hid hv
  clear hvt hvb hvh hv
  have HS:=Lib.hid hS
  clear hS
  go_enter Tryz.func34,Tryz.ntmps34
  go_wp2_with fail
  obtain⟨W,hW⟩:∃ W,W=(w.alloc (.cells C.enc.toArray 23)).alloc (.cells #[.slice S.a0 S.ts.length S.c0,.slice S.a1 S.bs.length S.c1,.slice S.a2 S.hs.length S.c2] 28):=⟨_,rfl⟩
  have hn:New w W:=by subst hW;exact nw
  have k0:CellsAt W w.heap.size 0 C.enc:=by subst hW;exact(cells_new w C.enc.toArray _).keep ((New.refl _).alloc _)
  have q0:W.cell? ⟨w.heap.size+1,0,none⟩=some (.slice S.a0 S.ts.length S.c0):=by subst hW;go_simp
  have q1:W.cell? ⟨w.heap.size+1,1,none⟩=some (.slice S.a1 S.bs.length S.c1):=by subst hW;go_simp
  have q2:W.cell? ⟨w.heap.size+1,2,none⟩=some (.slice S.a2 S.hs.length S.c2):=by subst hW;go_simp
  simp only[CfgR.enc]at hW
  rw[←hW]
  clear hW
  refine(HC.out _).mono ?_
  rintro e W1 ⟨rfl,n1',-⟩
  have n1:New W W1:=n1'
  clear n1'
  replace hn:=hn.trans n1
  have K0:=Lib.hid (k0.keep n1)
  replace q0:=n1.keep q0
  replace q1:=n1.keep q1
  replace q2:=n1.keep q2
  have Q0:=Lib.hid q0
  have Q1:=Lib.hid q1
  have Q2:=Lib.hid q2
  clear n1 k0 q0 q1 q2 HC
  go_wp2_with fail
  generalize hZ:World.alloc _ _=Z
  have nZ:New W1 Z:=by subst hZ;exact nw
  have hat:FnAt Z W1.heap.size [⟨50,#[.pointer (some ⟨w.heap.size,0,none⟩),.pointer (some ⟨w.heap.size+1,0,none⟩)],vt⟩,⟨53,#[.pointer (some ⟨w.heap.size,0,none⟩),.pointer (some ⟨w.heap.size+1,0,none⟩)],vb⟩,⟨56,#[.pointer (some ⟨w.heap.size,0,none⟩),.pointer (some ⟨w.heap.size+1,0,none⟩)],vh⟩]:=by
   subst hZ
   exact fns_at _ _ _ _ rfl
  clear hZ
  have HA:=Lib.hid (l_all Z W1.heap.size 3 _ (by simp) (Fn.three
   ⟨enters_of Tryz.func50 (by kernel_rfl) rfl,fun V hV=>HT.out V (HS.out.keep ((hn.trans nZ).trans hV)) ((K0.out.keep nZ).keep hV) (hV.keep (nZ.keep Q0.out)) (hV.keep (nZ.keep Q1.out)) (hV.keep (nZ.keep Q2.out))⟩
   ⟨enters_of Tryz.func53 (by kernel_rfl) rfl,fun V hV=>HB.out V (HS.out.keep ((hn.trans nZ).trans hV)) ((K0.out.keep nZ).keep hV) (hV.keep (nZ.keep Q0.out)) (hV.keep (nZ.keep Q1.out)) (hV.keep (nZ.keep Q2.out))⟩
   ⟨enters_of Tryz.func56 (by kernel_rfl) rfl,fun V hV=>HH.out V (HS.out.keep ((hn.trans nZ).trans hV)) ((K0.out.keep nZ).keep hV) (hV.keep (nZ.keep Q0.out)) (hV.keep (nZ.keep Q1.out)) (hV.keep (nZ.keep Q2.out))⟩) Z (New.refl _) hat)
  replace hn:=hn.trans nZ
  simp only[List.all_cons,List.all_nil,Bool.and_true]at HA
  obtain⟨b,hb⟩:∃ b,b=(vt&&(vb&&vh)):=⟨_,rfl⟩
  rw[←hb]at HA
  have HVb:Hid (v=if b=true then 0 else 2):=by
   show v=_
   rw[HV.out,hb]
   simp[Bool.and_eq_true]
  clear hat nZ K0 Q0 Q1 Q2 HT HB HH HV HS hb
  refine(HA.out).mono ?_
  rintro e W2 ⟨rfl,n1⟩
  replace hn:=hn.trans n1
  cases b
  ·have HV:Hid (v=2):=HVb.out
   go_wp2_with fail
   go_ret
   rw[HV.out]
   exact⟨rfl,hn⟩
  ·have HV:Hid (v=0):=HVb.out
   go_wp2_with fail
   go_ret
   rw[HV.out]
   exact⟨rfl,hn⟩
end Go.Proofs.YtmhghnbgllaihaaGreatDoor

namespace Go.Proofs.YtmhghnbgllaihaaGreatDoor
open Go.RowKit
theorem outV_iff {wd dp x y z:Int}:outV wd dp x y z=false↔(0≤x∧x≤wd)∧(0≤z∧z≤dp)∧(-2048≤y∧y≤2048):=by
 unfold outV heiB
 simp only[Bool.or_eq_false_iff,decide_eq_false_iff_not,Bool.not_eq_false',decide_eq_true_eq]
 omega
theorem mayTB_may (C:CfgR) (hC:C.fine) (X:TriR):X.may C=(idB X.i&&mayTB C.wd C.dp X):=by
 have hce:checkE C.cl C.cb C.ht C.ri C.ru C.wd C.dp=0:=hC.err
 have w1:=hC.w1
 have w2:=hC.w2
 have d1:=hC.d1
 have d2:=hC.d2
 rw[Bool.eq_iff_iff]
 simp only[TriR.may,TriR.tests,ordB,Bool.and_eq_true,decide_eq_true_eq,beq_iff_eq,Bool.and_true,idB]
 unfold tCheckE
 rw[hce]
 have hn:(X.z1 - X.z0)*(X.x2 - X.x0) - (X.x1 - X.x0)*(X.z2 - X.z0) = -((X.x1 - X.x0)*(X.z2 - X.z0) - (X.z1 - X.z0)*(X.x2 - X.x0)):=by omega
 unfold mayTB okB nyI
 rw[hn]
 generalize (X.x1 - X.x0)*(X.z2 - X.z0) - (X.z1 - X.z0)*(X.x2 - X.x0)=F
 simp only[Bool.and_eq_true,Bool.not_eq_true',outV_iff,bne_iff_ne,ne_eq,stB_iff,StP,StV]
 constructor
 ·rintro⟨h1,h2⟩
  split at h2
  ·omega
  split at h2
  ·omega
  ·exact absurd h2 (by decide)
 ·rintro⟨h1,h2⟩
  refine⟨h1,?_⟩
  rw[if_neg (by simp),if_pos (by omega)]
theorem u_spot (C:CfgR) (x z y:Int) (w:World) :
  Calls Tryz.prog 73 #[.agg #[.int .i64 C.cl,.int .i64 C.cb,.int .i64 C.ht,.int .i64 C.ri,.int .i64 C.ru,.int .i64 C.wd,.int .i64 C.dp],.agg #[.int .i64 x,.int .i64 z,.int .i64 y]] w fun e w'=>e=.returned (.bool (spotB C x z y))∧New w w':=by
 have K:=Lib.hid (fun W=>u_height y W)
 have IF:spotB C x z y=true↔(0≤x∧x<C.wd)∧(0≤z∧z<C.dp)∧heiB y=true:=by
  unfold spotB heiB
  simp only[ordB,Bool.and_eq_true,decide_eq_true_eq,Bool.and_true]
  omega
 have IF':=Lib.hid IF
 generalize spotB C x z y=v at *
 clear IF
 cases hy:heiB y
 ·have hv:Hid (v=false):=Lib.hid (notTrue fun h=>by have:=(IF'.out.1 h).2.2;rw[hy]at this;cases this)
  rw[hy]at K
  clear IF' hy
  go_enter Tryz.func73,Tryz.ntmps73
  go_wp2_with fail
  all_goals
   try (refine(K.out _).mono ?_;rintro e W1 ⟨rfl,n1⟩;replace n1:New w W1:=New.trans (by exact nw) n1;go_wp2_with fail)
   go_ret
   rw[hv.out]
   exact⟨rfl,by exact nw⟩
 ·have hv:Hid (v=true↔(0≤x∧x<C.wd)∧(0≤z∧z<C.dp)):=Lib.hid (by rw[IF'.out,hy];simp)
  rw[hy]at K
  clear IF' hy
  go_enter Tryz.func73,Tryz.ntmps73
  go_wp2_with fail
  all_goals first|(go_ret;rw[notTrue (fun h=>by have:=hv.out.1 h;omega:¬ v=true)];exact⟨rfl,by exact nw⟩)|skip
  have ht:Hid (v=true):=Lib.hid (hv.out.2 (by omega))
  refine(K.out _).mono ?_
  rintro e W1 ⟨rfl,n1⟩
  replace n1:New w W1:=New.trans (by exact nw) n1
  go_wp2_with fail
  go_ret
  rw[ht.out]
  exact⟨rfl,n1⟩
theorem u_mayHop (C:CfgR) (X:HopR) (w:World) :
  Calls Tryz.prog 47 #[.agg #[.int .i64 C.cl,.int .i64 C.cb,.int .i64 C.ht,.int .i64 C.ri,.int .i64 C.ru,.int .i64 C.wd,.int .i64 C.dp],.agg #[.int .i64 X.i,.int .i64 X.fx,.int .i64 X.fz,.int .i64 X.fy,.int .i64 X.tx,.int .i64 X.tz,.int .i64 X.ty,.bool X.bo,.int .i64 X.ar,.int .i64 X.co]] w fun e w'=>e=.returned (.bool (X.tests C))∧New w w':=by
 have K0:=Lib.hid (fun W=>u_spot C X.fx X.fz X.fy W)
 have K1:=Lib.hid (fun W=>u_spot C X.tx X.tz X.ty W)
 have IF:=Lib.hid (show X.tests C=true↔spotB C X.fx X.fz X.fy=true∧spotB C X.tx X.tz X.ty=true∧(1≤X.ar∧X.ar≤7)∧(0≤X.co∧X.co≤1048576) by
  simp only[HopR.tests,ordB,Bool.and_eq_true,decide_eq_true_eq,Bool.and_true]
  exact⟨fun h=>⟨h.1.1.1,h.1.1.2,h.1.2,h.2⟩,fun h=>⟨⟨⟨h.1,h.2.1⟩,h.2.2.1⟩,h.2.2.2⟩⟩)
 generalize X.tests C=v at *
 obtain⟨s0,hs0⟩:∃ b,b=spotB C X.fx X.fz X.fy:=⟨_,rfl⟩
 obtain⟨s1,hs1⟩:∃ b,b=spotB C X.tx X.tz X.ty:=⟨_,rfl⟩
 rw[←hs0,←hs1]at IF
 rw[←hs0]at K0
 rw[←hs1]at K1
 clear hs0 hs1
 go_enter Tryz.func47,Tryz.ntmps47
 go_wp2_with fail
 refine Calls.at (fun W hW=>?_)
 ((have c0:W.cell? ⟨w.heap.size,0,none⟩=some (.int .i64 C.cl):=(by subst hW;go_simp));(have c1:W.cell? ⟨w.heap.size,1,none⟩=some (.int .i64 C.cb):=(by subst hW;go_simp));(have c2:W.cell? ⟨w.heap.size,2,none⟩=some (.int .i64 C.ht):=(by subst hW;go_simp));(have c3:W.cell? ⟨w.heap.size,3,none⟩=some (.int .i64 C.ri):=(by subst hW;go_simp));(have c4:W.cell? ⟨w.heap.size,4,none⟩=some (.int .i64 C.ru):=(by subst hW;go_simp));(have c5:W.cell? ⟨w.heap.size,5,none⟩=some (.int .i64 C.wd):=(by subst hW;go_simp));(have c6:W.cell? ⟨w.heap.size,6,none⟩=some (.int .i64 C.dp):=(by subst hW;go_simp)))
 have e4:W.cell? ⟨w.heap.size+1,4,none⟩=some (.int .i64 X.tx):=by subst hW;go_simp
 have e5:W.cell? ⟨w.heap.size+1,5,none⟩=some (.int .i64 X.tz):=by subst hW;go_simp
 have e6:W.cell? ⟨w.heap.size+1,6,none⟩=some (.int .i64 X.ty):=by subst hW;go_simp
 have e8:W.cell? ⟨w.heap.size+1,8,none⟩=some (.int .i64 X.ar):=by subst hW;go_simp
 have e9:W.cell? ⟨w.heap.size+1,9,none⟩=some (.int .i64 X.co):=by subst hW;go_simp
 have hn:New w W:=by subst hW;exact nw
 clear hW
 refine(K0.out _).mono ?_
 rintro e W1 ⟨rfl,n1⟩
 ((replace c0:=New.keep n1 c0);(replace c1:=New.keep n1 c1);(replace c2:=New.keep n1 c2);(replace c3:=New.keep n1 c3);(replace c4:=New.keep n1 c4);(replace c5:=New.keep n1 c5);(replace c6:=New.keep n1 c6))
 replace e4:=New.keep n1 e4
 replace e5:=New.keep n1 e5
 replace e6:=New.keep n1 e6
 replace e8:=New.keep n1 e8
 replace e9:=New.keep n1 e9
 replace hn:=hn.trans n1
 clear n1 K0
 cases s0
 ·have hv:Hid (v=false):=Lib.hid (notTrue fun h=>by have:=(IF.out.1 h).1;cases this)
  clear IF K1
  go_wp2_with fail
  go_ret
  rw[hv.out]
  exact⟨rfl,hn⟩
 go_wp2_with fail
 refine(K1.out _).mono ?_
 rintro e W2 ⟨rfl,n1⟩
 ((replace c0:=New.keep n1 c0);(replace c1:=New.keep n1 c1);(replace c2:=New.keep n1 c2);(replace c3:=New.keep n1 c3);(replace c4:=New.keep n1 c4);(replace c5:=New.keep n1 c5);(replace c6:=New.keep n1 c6))
 replace e8:=New.keep n1 e8
 replace e9:=New.keep n1 e9
 replace hn:=hn.trans n1
 clear n1 K1 e4 e5 e6
 cases s1
 ·have hv:Hid (v=false):=Lib.hid (notTrue fun h=>by have:=(IF.out.1 h).2.1;cases this)
  clear IF
  go_wp2_with fail
  go_ret
  rw[hv.out]
  exact⟨rfl,hn⟩
 have hv:Hid (v=true↔(1≤X.ar∧X.ar≤7)∧(0≤X.co∧X.co≤1048576)):=Lib.hid (by rw[IF.out];simp)
 clear IF
 go_wp2_with fail
 all_goals
  go_ret
  first
   | (rw[hv.out.2 (by omega)];exact⟨rfl,hn⟩)
   | (rw[notTrue (fun h=>by have:=hv.out.1 h;omega:¬ v=true)];exact⟨rfl,hn⟩)
   | (refine⟨congrArg (fun b=>Ending.returned (.bool b)) ?_,hn⟩;rw[Bool.eq_iff_iff,hv.out];simp only[decide_eq_true_eq,Bool.false_eq_true,false_iff];omega)
theorem TriR.okAt_no (C:CfgR) (l:List TriR) {i:Nat} (hi:i<l.length) (h:TriR.okAt C l i=false):TriR.listB C l=false:=by
 cases hh:TriR.listB C l
 ·rfl
 ·unfold TriR.listB at hh
  rw[Bool.and_eq_true]at hh
  have:=List.all_eq_true.1 hh.2 i (List.mem_range.2 hi)
  rw[h]at this
  cases this
theorem TriR.okAt_all (C:CfgR) (l:List TriR) (hl:l.length≤200) (h:∀ j,j<l.length→TriR.okAt C l j=true):TriR.listB C l=true:=by
 unfold TriR.listB
 rw[Bool.and_eq_true,decide_eq_true_eq]
 exact⟨hl,List.all_eq_true.2 fun i hi=>h i (List.mem_range.1 hi)⟩
theorem BoxR.okAt_no (C:CfgR) (l:List BoxR) {i:Nat} (hi:i<l.length) (h:BoxR.okAt C l i=false):BoxR.listB C l=false:=by
 cases hh:BoxR.listB C l
 ·rfl
 ·unfold BoxR.listB at hh
  rw[Bool.and_eq_true]at hh
  have:=List.all_eq_true.1 hh.2 i (List.mem_range.2 hi)
  rw[h]at this
  cases this
theorem BoxR.okAt_all (C:CfgR) (l:List BoxR) (hl:l.length≤16) (h:∀ j,j<l.length→BoxR.okAt C l j=true):BoxR.listB C l=true:=by
 unfold BoxR.listB
 rw[Bool.and_eq_true,decide_eq_true_eq]
 exact⟨hl,List.all_eq_true.2 fun i hi=>h i (List.mem_range.1 hi)⟩
theorem BoxR.may_id (C:CfgR) (x:BoxR):x.may C=(idB x.i&&x.tests C):=by
 unfold BoxR.may idB
 congr 1
 simp only[ordB,Bool.and_true]
 rw[Bool.eq_iff_iff]
 simp
theorem HopR.okAt_no (C:CfgR) (l:List HopR) {i:Nat} (hi:i<l.length) (h:HopR.okAt C l i=false):HopR.listB C l=false:=by
 cases hh:HopR.listB C l
 ·rfl
 ·unfold HopR.listB at hh
  rw[Bool.and_eq_true]at hh
  have:=List.all_eq_true.1 hh.2 i (List.mem_range.2 hi)
  rw[h]at this
  cases this
theorem HopR.okAt_all (C:CfgR) (l:List HopR) (hl:l.length≤16) (h:∀ j,j<l.length→HopR.okAt C l j=true):HopR.listB C l=true:=by
 unfold HopR.listB
 rw[Bool.and_eq_true,decide_eq_true_eq]
 exact⟨hl,List.all_eq_true.2 fun i hi=>h i (List.mem_range.1 hi)⟩
theorem HopR.may_id (C:CfgR) (x:HopR):x.may C=(idB x.i&&x.tests C):=by
 unfold HopR.may idB
 congr 1
 simp only[ordB,Bool.and_true]
 rw[Bool.eq_iff_iff]
 simp
theorem err_list {C:CfgR} (h0:C.err=0) (S:SoupV) (h:TriR.listB C S.ts=false∨BoxR.listB C S.bs=false∨HopR.listB C S.hs=false):S.err C=2:=by
 unfold SoupV.err
 rw[if_neg (by simp[h0])]
 rcases h with h|h|h <;> simp[h]
theorem u_check_walk (C:CfgR) (hC:C.fine) (S:SoupV) (w:World) (hS:S.ok w) (g1:S.ts.length≤200) (g2:S.bs.length≤16) (g3:S.hs.length≤16) :
  Calls Tryz.prog 25 #[.agg #[.int .i64 C.cl,.int .i64 C.cb,.int .i64 C.ht,.int .i64 C.ri,.int .i64 C.ru,.int .i64 C.wd,.int .i64 C.dp],.agg #[.slice S.a0 S.ts.length S.c0,.slice S.a1 S.bs.length S.c1,.slice S.a2 S.hs.length S.c2]] w fun e w'=>e=.returned (.int .i64 (S.err C))∧New w w':=by
 have HC:=Lib.hid (fun W=>rcheck_any C.cl C.cb C.ht C.ri C.ru C.wd C.dp W)
 rw[show checkE C.cl C.cb C.ht C.ri C.ru C.wd C.dp=0 from hC.err]at HC
 have KI:=Lib.hid (fun y W=>u_id y W)
 have HT:=Lib.hid hS.t.row.2.2.2.2
 have HB:=Lib.hid hS.b.row.2.2.2.2
 have HH:=Lib.hid hS.h.row.2.2.2.2
 have MT:=Lib.hid (fun x W=>u_mayTri C.wd C.dp ⟨hC.w1,hC.w2⟩ ⟨hC.d1,hC.d2⟩ x W)
 have MB:=Lib.hid (fun x W=>u_mayBox C x W)
 have MH:=Lib.hid (fun x W=>u_mayHop C x W)
 have FT:=Lib.hid (mayTB_may C hC)
 have FB:=Lib.hid (BoxR.may_id C)
 have FH:=Lib.hid (HopR.may_id C)
 have NT:=Lib.hid (fun i (h:i<S.ts.length) (e:TriR.okAt C S.ts i=false)=>err_list hC.err S (.inl (TriR.okAt_no C S.ts h e)))
 have NB:=Lib.hid (fun i (h:i<S.bs.length) (e:BoxR.okAt C S.bs i=false)=>err_list hC.err S (.inr (.inl (BoxR.okAt_no C S.bs h e))))
 have NH:=Lib.hid (fun i (h:i<S.hs.length) (e:HopR.okAt C S.hs i=false)=>err_list hC.err S (.inr (.inr (HopR.okAt_no C S.hs h e))))
 have YY:Hid ((∀ j,j<S.ts.length→TriR.okAt C S.ts j=true)→(∀ j,j<S.bs.length→BoxR.okAt C S.bs j=true)→(∀ j,j<S.hs.length→HopR.okAt C S.hs j=true)→S.err C=0):=Lib.hid (fun a b c=>by
  have e1:=TriR.okAt_all C S.ts g1 a
  have e2:=BoxR.okAt_all C S.bs g2 b
  have e3:=HopR.okAt_all C S.hs g3 c
  have h0:C.err=0:=hC.err
  unfold SoupV.err
  rw[if_neg (by rw[h0];decide),if_pos ⟨e1,e2,e3⟩])
 generalize S.err C=v at *
 obtain⟨ts,bs,hs,a0,a1,a2,k0,k1,k2⟩:=S
 dsimp only at *
 clear hS
 have q1:decide ((200:Int)<(ts.length:Int))=false:=decide_eq_false (by omega)
 have q2:decide ((16:Int)<(bs.length:Int))=false:=decide_eq_false (by omega)
 have q3:decide ((16:Int)<(hs.length:Int))=false:=decide_eq_false (by omega)
 go_enter Tryz.func25,Tryz.ntmps25
 go_wp2_with fail
 refine Calls.at (fun W hW=>?_)
 ((have c0:W.cell? ⟨w.heap.size,0,none⟩=some (.int .i64 C.cl):=(by subst hW;go_simp));(have c1:W.cell? ⟨w.heap.size,1,none⟩=some (.int .i64 C.cb):=(by subst hW;go_simp));(have c2:W.cell? ⟨w.heap.size,2,none⟩=some (.int .i64 C.ht):=(by subst hW;go_simp));(have c3:W.cell? ⟨w.heap.size,3,none⟩=some (.int .i64 C.ri):=(by subst hW;go_simp));(have c4:W.cell? ⟨w.heap.size,4,none⟩=some (.int .i64 C.ru):=(by subst hW;go_simp));(have c5:W.cell? ⟨w.heap.size,5,none⟩=some (.int .i64 C.wd):=(by subst hW;go_simp));(have c6:W.cell? ⟨w.heap.size,6,none⟩=some (.int .i64 C.dp):=(by subst hW;go_simp)))
 have e0:W.cell? ⟨w.heap.size+1,0,none⟩=some (.slice a0 ts.length k0):=by subst hW;go_simp
 have e1:W.cell? ⟨w.heap.size+1,1,none⟩=some (.slice a1 bs.length k1):=by subst hW;go_simp
 have e2:W.cell? ⟨w.heap.size+1,2,none⟩=some (.slice a2 hs.length k2):=by subst hW;go_simp
 have hn:New w W:=by subst hW;exact nw
 clear hW
 refine(HC.out _).mono ?_
 rintro e W0 ⟨rfl,n1,-⟩
 ((replace c0:=New.keep n1 c0);(replace c1:=New.keep n1 c1);(replace c2:=New.keep n1 c2);(replace c3:=New.keep n1 c3);(replace c4:=New.keep n1 c4);(replace c5:=New.keep n1 c5);(replace c6:=New.keep n1 c6))
 replace e0:=New.keep n1 e0
 replace e1:=New.keep n1 e1
 replace e2:=New.keep n1 e2
 replace hn:New w W0:=New.trans hn n1
 clear n1 HC q1 q2 q3
 go_wp2_with fail
 go_loopg [5] ts.length (fun k i wr=>∃ m:Nat,i=.int .i64 m∧m+k=ts.length∧(∀ j,j<m→TriR.okAt C ts j=true)∧New W0 wr)
 case atStart=>exact⟨0,rfl,by omega,fun j hj=>absurd hj (by omega),New.refl _⟩
 case round =>
  obtain⟨m,rfl,hmk,hall,nr⟩:=hrel
  have AT:=Lib.hid hall
  clear hall
  ((replace c0:=New.keep nr c0);(replace c1:=New.keep nr c1);(replace c2:=New.keep nr c2);(replace c3:=New.keep nr c3);(replace c4:=New.keep nr c4);(replace c5:=New.keep nr c5);(replace c6:=New.keep nr c6))
  replace e0:=New.keep nr e0
  replace e1:=New.keep nr e1
  replace e2:=New.keep nr e2
  by_cases hlt:m<ts.length
  ·have GO:Hid (∀ {b:Bool},TriR.okAt C ts m=b→(b=true→∀ j,j<m+1→TriR.okAt C ts j=true)):=Lib.hid (fun h hb j hj=>by
    rcases Nat.lt_or_ge j m with h1|h1
    ·exact AT.out j h1
    ·obtain rfl:j=m:=by omega
     rw[h,hb])
   obtain⟨b,off,rfl,hA⟩:=HT.out (by omega)
   have hA':=hA.keep (hn.trans nr)
   obtain⟨f0,f1,f2,f3,f4,f5,f6,f7,f8,f9⟩:=TriR.cells hA' m hlt
   have EO:TriR.okAt C ts m=((idB ts[m].i&&mayTB C.wd C.dp ts[m])&&(m==0||decide ((ts[m - 1]'(by omega)).i<ts[m].i))):=by
    unfold TriR.okAt
    rw[getElem!_pos ts m hlt,getElem!_pos ts (m - 1) (by omega),FT.out]
   have NO:Hid (TriR.okAt C ts m=false→v=2):=Lib.hid (fun h=>NT.out m hlt h)
   have K1:=Lib.hid (fun W=>KI.out ts[m].i W)
   have K2:=Lib.hid (fun W=>MT.out ts[m] W)
   clear hA
   cases hi:idB ts[m].i
   ·have hv:=Lib.hid (NO.out (by rw[EO,hi];rfl))
    rw[hi]at K1
    clear EO hi NO GO hA'
    go_wp2_with fail
    (refine wp_region_hat (by kernel_rfl) (by kernel_rfl) ?_;intro hatc hatf;(repeat(go_big_quiet_step ((first|(go_at_call 44;exact Calls.hat (K1.out _))|(go_at_call 45;exact Calls.hat (K2.out _))))));refine wpQuiet_nil ?_;rintro _ ⟨x,rfl⟩)
    go_wp2_with fail
    go_ret
    rw[hv.out]
    exact⟨rfl,(hn.trans nr).hat x⟩
   rw[hi]at K1
   rcases Nat.eq_zero_or_pos m with rfl|hm
   ·simp only[Nat.zero_mul,Nat.add_zero]at f0 f1 f2 f3 f4 f5 f6 f7 f8 f9
    cases ht:mayTB C.wd C.dp ts[0]
    ·have hv:=Lib.hid (NO.out (by rw[EO,hi,ht];rfl))
     rw[ht]at K2
     clear EO hi NO GO hA' ht
     go_wp2_with fail
     (refine wp_region_hat (by kernel_rfl) (by kernel_rfl) ?_;intro hatc hatf;(repeat(go_big_quiet_step ((first|(go_at_call 44;exact Calls.hat (K1.out _))|(go_at_call 45;exact Calls.hat (K2.out _))))));refine wpQuiet_nil ?_;rintro _ ⟨x,rfl⟩)
     go_wp2_with fail
     go_ret
     rw[hv.out]
     exact⟨rfl,(hn.trans nr).hat x⟩
    ·have hg:=Lib.hid (GO.out (by rw[EO,hi,ht];rfl) rfl)
     rw[ht]at K2
     clear EO hi NO GO hA' ht
     go_wp2_with fail
     (refine wp_region_hat (by kernel_rfl) (by kernel_rfl) ?_;intro hatc hatf;(repeat(go_big_quiet_step ((first|(go_at_call 44;exact Calls.hat (K1.out _))|(go_at_call 45;exact Calls.hat (K2.out _))))));refine wpQuiet_nil ?_;rintro _ ⟨x,rfl⟩)
     go_wp2_with fail
     go_roundg (gk - 1)
     case measure=>omega
     case rel=>exact⟨0+1,by go_num,by omega,hg.out,nr.hat x⟩
   ·obtain⟨p,rfl⟩:∃ p,m=p+1:=⟨m - 1,by omega⟩
    have hp:p<ts.length:=by omega
    have b0:=(TriR.cells hA' p hp).1
    have q0:decide ((0:Int)<((p+1:Nat):Int))=true:=decide_eq_true (by omega)
    have EO2:TriR.okAt C ts (p+1)=((idB ts[p+1].i&&mayTB C.wd C.dp ts[p+1])&&decide (ts[p].i<ts[p+1].i)):=by rw[EO];simp
    clear EO
    by_cases hlo:ts[p+1].i≤ts[p].i
    ·have hv:=Lib.hid (NO.out (by rw[EO2,decide_eq_false (by omega:¬ ts[p].i<ts[p+1].i)];simp))
     have q4:decide (ts[p+1].i≤ts[p].i)=true:=decide_eq_true hlo
     clear EO2 hi NO GO hA' hlo
     go_wp2_with fail
     (refine wp_region_hat (by kernel_rfl) (by kernel_rfl) ?_;intro hatc hatf;(repeat(go_big_quiet_step ((first|(go_at_call 44;exact Calls.hat (K1.out _))|(go_at_call 45;exact Calls.hat (K2.out _))))));refine wpQuiet_nil ?_;rintro _ ⟨x,rfl⟩)
     go_wp2_with fail
     go_ret
     rw[hv.out]
     exact⟨rfl,(hn.trans nr).hat x⟩
    ·have q4:decide (ts[p+1].i≤ts[p].i)=false:=decide_eq_false hlo
     have q5:decide (ts[p].i<ts[p+1].i)=true:=decide_eq_true (by omega)
     cases ht:mayTB C.wd C.dp ts[p+1]
     ·have hv:=Lib.hid (NO.out (by rw[EO2,hi,ht];rfl))
      rw[ht]at K2
      clear EO2 hi NO GO hA' ht q5 hlo
      go_wp2_with fail
      (refine wp_region_hat (by kernel_rfl) (by kernel_rfl) ?_;intro hatc hatf;(repeat(go_big_quiet_step ((first|(go_at_call 44;exact Calls.hat (K1.out _))|(go_at_call 45;exact Calls.hat (K2.out _))))));refine wpQuiet_nil ?_;rintro _ ⟨x,rfl⟩)
      go_wp2_with fail
      go_ret
      rw[hv.out]
      exact⟨rfl,(hn.trans nr).hat x⟩
     ·have hg:=Lib.hid (GO.out (by rw[EO2,hi,ht,q5];rfl) rfl)
      rw[ht]at K2
      clear EO2 hi NO GO hA' ht q5 hlo
      go_wp2_with fail
      (refine wp_region_hat (by kernel_rfl) (by kernel_rfl) ?_;intro hatc hatf;(repeat(go_big_quiet_step ((first|(go_at_call 44;exact Calls.hat (K1.out _))|(go_at_call 45;exact Calls.hat (K2.out _))))));refine wpQuiet_nil ?_;rintro _ ⟨x,rfl⟩)
      go_wp2_with fail
      go_roundg (gk - 1)
      case measure=>omega
      case rel=>exact⟨p+1+1,by go_num,by omega,hg.out,nr.hat x⟩
  ·have AT':Hid (∀ j,j<ts.length→TriR.okAt C ts j=true):=Lib.hid (fun j hj=>AT.out j (by omega))
   clear AT
   replace hn:=hn.trans nr
   obtain rfl:m=ts.length:=by omega
   clear hmk hlt nr
   rename World=>W1
   go_wp2_with fail
   go_loopg [6] bs.length (fun k i wr=>∃ m:Nat,i=.int .i64 m∧m+k=bs.length∧(∀ j,j<m→BoxR.okAt C bs j=true)∧New W1 wr)
   case atStart=>exact⟨0,rfl,by omega,fun j hj=>absurd hj (by omega),New.refl _⟩
   case round =>
    obtain⟨m,rfl,hmk,hall,nr⟩:=hrel
    have AB:=Lib.hid hall
    clear hall
    ((replace c0:=New.keep nr c0);(replace c1:=New.keep nr c1);(replace c2:=New.keep nr c2);(replace c3:=New.keep nr c3);(replace c4:=New.keep nr c4);(replace c5:=New.keep nr c5);(replace c6:=New.keep nr c6))
    replace e0:=New.keep nr e0
    replace e1:=New.keep nr e1
    replace e2:=New.keep nr e2
    by_cases hlt:m<bs.length
    ·have GO:Hid (∀ {b:Bool},BoxR.okAt C bs m=b→(b=true→∀ j,j<m+1→BoxR.okAt C bs j=true)):=Lib.hid (fun h hb j hj=>by
      rcases Nat.lt_or_ge j m with h1|h1
      ·exact AB.out j h1
      ·obtain rfl:j=m:=by omega
       rw[h,hb])
     obtain⟨b,off,rfl,hA⟩:=HB.out (by omega)
     have hA':=hA.keep (hn.trans nr)
     obtain⟨f0,f1,f2,f3,f4,f5,f6,f7⟩:=BoxR.cells hA' m hlt
     have EO:BoxR.okAt C bs m=((idB bs[m].i&&BoxR.tests C bs[m])&&(m==0||decide ((bs[m - 1]'(by omega)).i<bs[m].i))):=by
      unfold BoxR.okAt
      rw[getElem!_pos bs m hlt,getElem!_pos bs (m - 1) (by omega),FB.out]
     have NO:Hid (BoxR.okAt C bs m=false→v=2):=Lib.hid (fun h=>NB.out m hlt h)
     have K1:=Lib.hid (fun W=>KI.out bs[m].i W)
     have K2:=Lib.hid (fun W=>MB.out bs[m] W)
     clear hA
     cases hi:idB bs[m].i
     ·have hv:=Lib.hid (NO.out (by rw[EO,hi];rfl))
      rw[hi]at K1
      clear EO hi NO GO hA'
      go_wp2_with fail
      (refine wp_region_hat (by kernel_rfl) (by kernel_rfl) ?_;intro hatc hatf;(repeat(go_big_quiet_step ((first|(go_at_call 44;exact Calls.hat (K1.out _))|(go_at_call 46;exact Calls.hat (K2.out _))))));refine wpQuiet_nil ?_;rintro _ ⟨x,rfl⟩)
      go_wp2_with fail
      go_ret
      rw[hv.out]
      exact⟨rfl,(hn.trans nr).hat x⟩
     rw[hi]at K1
     rcases Nat.eq_zero_or_pos m with rfl|hm
     ·simp only[Nat.zero_mul,Nat.add_zero]at f0 f1 f2 f3 f4 f5 f6 f7
      cases ht:BoxR.tests C bs[0]
      ·have hv:=Lib.hid (NO.out (by rw[EO,hi,ht];rfl))
       rw[ht]at K2
       clear EO hi NO GO hA' ht
       go_wp2_with fail
       (refine wp_region_hat (by kernel_rfl) (by kernel_rfl) ?_;intro hatc hatf;(repeat(go_big_quiet_step ((first|(go_at_call 44;exact Calls.hat (K1.out _))|(go_at_call 46;exact Calls.hat (K2.out _))))));refine wpQuiet_nil ?_;rintro _ ⟨x,rfl⟩)
       go_wp2_with fail
       go_ret
       rw[hv.out]
       exact⟨rfl,(hn.trans nr).hat x⟩
      ·have hg:=Lib.hid (GO.out (by rw[EO,hi,ht];rfl) rfl)
       rw[ht]at K2
       clear EO hi NO GO hA' ht
       go_wp2_with fail
       (refine wp_region_hat (by kernel_rfl) (by kernel_rfl) ?_;intro hatc hatf;(repeat(go_big_quiet_step ((first|(go_at_call 44;exact Calls.hat (K1.out _))|(go_at_call 46;exact Calls.hat (K2.out _))))));refine wpQuiet_nil ?_;rintro _ ⟨x,rfl⟩)
       go_wp2_with fail
       go_roundg (gk - 1)
       case measure=>omega
       case rel=>exact⟨0+1,by go_num,by omega,hg.out,nr.hat x⟩
     ·obtain⟨p,rfl⟩:∃ p,m=p+1:=⟨m - 1,by omega⟩
      have hp:p<bs.length:=by omega
      have b0:=(BoxR.cells hA' p hp).1
      have q0:decide ((0:Int)<((p+1:Nat):Int))=true:=decide_eq_true (by omega)
      have EO2:BoxR.okAt C bs (p+1)=((idB bs[p+1].i&&BoxR.tests C bs[p+1])&&decide (bs[p].i<bs[p+1].i)):=by rw[EO];simp
      clear EO
      by_cases hlo:bs[p+1].i≤bs[p].i
      ·have hv:=Lib.hid (NO.out (by rw[EO2,decide_eq_false (by omega:¬ bs[p].i<bs[p+1].i)];simp))
       have q4:decide (bs[p+1].i≤bs[p].i)=true:=decide_eq_true hlo
       clear EO2 hi NO GO hA' hlo
       go_wp2_with fail
       (refine wp_region_hat (by kernel_rfl) (by kernel_rfl) ?_;intro hatc hatf;(repeat(go_big_quiet_step ((first|(go_at_call 44;exact Calls.hat (K1.out _))|(go_at_call 46;exact Calls.hat (K2.out _))))));refine wpQuiet_nil ?_;rintro _ ⟨x,rfl⟩)
       go_wp2_with fail
       go_ret
       rw[hv.out]
       exact⟨rfl,(hn.trans nr).hat x⟩
      ·have q4:decide (bs[p+1].i≤bs[p].i)=false:=decide_eq_false hlo
       have q5:decide (bs[p].i<bs[p+1].i)=true:=decide_eq_true (by omega)
       cases ht:BoxR.tests C bs[p+1]
       ·have hv:=Lib.hid (NO.out (by rw[EO2,hi,ht];rfl))
        rw[ht]at K2
        clear EO2 hi NO GO hA' ht q5 hlo
        go_wp2_with fail
        (refine wp_region_hat (by kernel_rfl) (by kernel_rfl) ?_;intro hatc hatf;(repeat(go_big_quiet_step ((first|(go_at_call 44;exact Calls.hat (K1.out _))|(go_at_call 46;exact Calls.hat (K2.out _))))));refine wpQuiet_nil ?_;rintro _ ⟨x,rfl⟩)
        go_wp2_with fail
        go_ret
        rw[hv.out]
        exact⟨rfl,(hn.trans nr).hat x⟩
       ·have hg:=Lib.hid (GO.out (by rw[EO2,hi,ht,q5];rfl) rfl)
        rw[ht]at K2
        clear EO2 hi NO GO hA' ht q5 hlo
        go_wp2_with fail
        (refine wp_region_hat (by kernel_rfl) (by kernel_rfl) ?_;intro hatc hatf;(repeat(go_big_quiet_step ((first|(go_at_call 44;exact Calls.hat (K1.out _))|(go_at_call 46;exact Calls.hat (K2.out _))))));refine wpQuiet_nil ?_;rintro _ ⟨x,rfl⟩)
        go_wp2_with fail
        go_roundg (gk - 1)
        case measure=>omega
        case rel=>exact⟨p+1+1,by go_num,by omega,hg.out,nr.hat x⟩
    ·have AB':Hid (∀ j,j<bs.length→BoxR.okAt C bs j=true):=Lib.hid (fun j hj=>AB.out j (by omega))
     clear AB
     replace hn:=hn.trans nr
     obtain rfl:m=bs.length:=by omega
     clear hmk hlt nr
     rename World=>W2
     go_wp2_with fail
     go_loopg [7] hs.length (fun k i wr=>∃ m:Nat,i=.int .i64 m∧m+k=hs.length∧(∀ j,j<m→HopR.okAt C hs j=true)∧New W2 wr)
     case atStart=>exact⟨0,rfl,by omega,fun j hj=>absurd hj (by omega),New.refl _⟩
     case round =>
      obtain⟨m,rfl,hmk,hall,nr⟩:=hrel
      have AH:=Lib.hid hall
      clear hall
      ((replace c0:=New.keep nr c0);(replace c1:=New.keep nr c1);(replace c2:=New.keep nr c2);(replace c3:=New.keep nr c3);(replace c4:=New.keep nr c4);(replace c5:=New.keep nr c5);(replace c6:=New.keep nr c6))
      replace e0:=New.keep nr e0
      replace e1:=New.keep nr e1
      replace e2:=New.keep nr e2
      by_cases hlt:m<hs.length
      ·have GO:Hid (∀ {b:Bool},HopR.okAt C hs m=b→(b=true→∀ j,j<m+1→HopR.okAt C hs j=true)):=Lib.hid (fun h hb j hj=>by
        rcases Nat.lt_or_ge j m with h1|h1
        ·exact AH.out j h1
        ·obtain rfl:j=m:=by omega
         rw[h,hb])
       obtain⟨b,off,rfl,hA⟩:=HH.out (by omega)
       have hA':=hA.keep (hn.trans nr)
       obtain⟨f0,f1,f2,f3,f4,f5,f6,f7,f8,f9⟩:=HopR.cells hA' m hlt
       have EO:HopR.okAt C hs m=((idB hs[m].i&&HopR.tests C hs[m])&&(m==0||decide ((hs[m - 1]'(by omega)).i<hs[m].i))):=by
        unfold HopR.okAt
        rw[getElem!_pos hs m hlt,getElem!_pos hs (m - 1) (by omega),FH.out]
       have NO:Hid (HopR.okAt C hs m=false→v=2):=Lib.hid (fun h=>NH.out m hlt h)
       have K1:=Lib.hid (fun W=>KI.out hs[m].i W)
       have K2:=Lib.hid (fun W=>MH.out hs[m] W)
       clear hA
       cases hi:idB hs[m].i
       ·have hv:=Lib.hid (NO.out (by rw[EO,hi];rfl))
        rw[hi]at K1
        clear EO hi NO GO hA'
        go_wp2_with fail
        (refine wp_region_hat (by kernel_rfl) (by kernel_rfl) ?_;intro hatc hatf;(repeat(go_big_quiet_step ((first|(go_at_call 44;exact Calls.hat (K1.out _))|(go_at_call 47;exact Calls.hat (K2.out _))))));refine wpQuiet_nil ?_;rintro _ ⟨x,rfl⟩)
        go_wp2_with fail
        go_ret
        rw[hv.out]
        exact⟨rfl,(hn.trans nr).hat x⟩
       rw[hi]at K1
       rcases Nat.eq_zero_or_pos m with rfl|hm
       ·simp only[Nat.zero_mul,Nat.add_zero]at f0 f1 f2 f3 f4 f5 f6 f7 f8 f9
        cases ht:HopR.tests C hs[0]
        ·have hv:=Lib.hid (NO.out (by rw[EO,hi,ht];rfl))
         rw[ht]at K2
         clear EO hi NO GO hA' ht
         go_wp2_with fail
         (refine wp_region_hat (by kernel_rfl) (by kernel_rfl) ?_;intro hatc hatf;(repeat(go_big_quiet_step ((first|(go_at_call 44;exact Calls.hat (K1.out _))|(go_at_call 47;exact Calls.hat (K2.out _))))));refine wpQuiet_nil ?_;rintro _ ⟨x,rfl⟩)
         go_wp2_with fail
         go_ret
         rw[hv.out]
         exact⟨rfl,(hn.trans nr).hat x⟩
        ·have hg:=Lib.hid (GO.out (by rw[EO,hi,ht];rfl) rfl)
         rw[ht]at K2
         clear EO hi NO GO hA' ht
         go_wp2_with fail
         (refine wp_region_hat (by kernel_rfl) (by kernel_rfl) ?_;intro hatc hatf;(repeat(go_big_quiet_step ((first|(go_at_call 44;exact Calls.hat (K1.out _))|(go_at_call 47;exact Calls.hat (K2.out _))))));refine wpQuiet_nil ?_;rintro _ ⟨x,rfl⟩)
         go_wp2_with fail
         go_roundg (gk - 1)
         case measure=>omega
         case rel=>exact⟨0+1,by go_num,by omega,hg.out,nr.hat x⟩
       ·obtain⟨p,rfl⟩:∃ p,m=p+1:=⟨m - 1,by omega⟩
        have hp:p<hs.length:=by omega
        have b0:=(HopR.cells hA' p hp).1
        have q0:decide ((0:Int)<((p+1:Nat):Int))=true:=decide_eq_true (by omega)
        have EO2:HopR.okAt C hs (p+1)=((idB hs[p+1].i&&HopR.tests C hs[p+1])&&decide (hs[p].i<hs[p+1].i)):=by rw[EO];simp
        clear EO
        by_cases hlo:hs[p+1].i≤hs[p].i
        ·have hv:=Lib.hid (NO.out (by rw[EO2,decide_eq_false (by omega:¬ hs[p].i<hs[p+1].i)];simp))
         have q4:decide (hs[p+1].i≤hs[p].i)=true:=decide_eq_true hlo
         clear EO2 hi NO GO hA' hlo
         go_wp2_with fail
         (refine wp_region_hat (by kernel_rfl) (by kernel_rfl) ?_;intro hatc hatf;(repeat(go_big_quiet_step ((first|(go_at_call 44;exact Calls.hat (K1.out _))|(go_at_call 47;exact Calls.hat (K2.out _))))));refine wpQuiet_nil ?_;rintro _ ⟨x,rfl⟩)
         go_wp2_with fail
         go_ret
         rw[hv.out]
         exact⟨rfl,(hn.trans nr).hat x⟩
        ·have q4:decide (hs[p+1].i≤hs[p].i)=false:=decide_eq_false hlo
         have q5:decide (hs[p].i<hs[p+1].i)=true:=decide_eq_true (by omega)
         cases ht:HopR.tests C hs[p+1]
         ·have hv:=Lib.hid (NO.out (by rw[EO2,hi,ht];rfl))
          rw[ht]at K2
          clear EO2 hi NO GO hA' ht q5 hlo
          go_wp2_with fail
          (refine wp_region_hat (by kernel_rfl) (by kernel_rfl) ?_;intro hatc hatf;(repeat(go_big_quiet_step ((first|(go_at_call 44;exact Calls.hat (K1.out _))|(go_at_call 47;exact Calls.hat (K2.out _))))));refine wpQuiet_nil ?_;rintro _ ⟨x,rfl⟩)
          go_wp2_with fail
          go_ret
          rw[hv.out]
          exact⟨rfl,(hn.trans nr).hat x⟩
         ·have hg:=Lib.hid (GO.out (by rw[EO2,hi,ht,q5];rfl) rfl)
          rw[ht]at K2
          clear EO2 hi NO GO hA' ht q5 hlo
          go_wp2_with fail
          (refine wp_region_hat (by kernel_rfl) (by kernel_rfl) ?_;intro hatc hatf;(repeat(go_big_quiet_step ((first|(go_at_call 44;exact Calls.hat (K1.out _))|(go_at_call 47;exact Calls.hat (K2.out _))))));refine wpQuiet_nil ?_;rintro _ ⟨x,rfl⟩)
          go_wp2_with fail
          go_roundg (gk - 1)
          case measure=>omega
          case rel=>exact⟨p+1+1,by go_num,by omega,hg.out,nr.hat x⟩
      ·have AH':Hid (∀ j,j<hs.length→HopR.okAt C hs j=true):=Lib.hid (fun j hj=>AH.out j (by omega))
       clear AH
       replace hn:=hn.trans nr
       obtain rfl:m=hs.length:=by omega
       clear hmk hlt nr
       rename World=>W3
       go_wp2_with fail
       go_ret
       rw[YY.out AT'.out AB'.out AH'.out]
       exact⟨rfl,hn⟩
theorem a_within (n lo hi:Int) (w:World) :
  Calls Tryz.prog 156 #[.int .i64 n,.int .i64 lo,.int .i64 hi] w fun e w'=>e=.returned (.bool (decide (lo≤n∧n≤hi)))∧w=w':=by
 go_enter Tryz.func156,Tryz.ntmps156
 go_wp2
 all_goals
  go_ret
  refine⟨retB ?_,rfl⟩
  simp[*] <;> omega
theorem box4 (x z w d:Int):boxB x z w d=(decide (-64≤x∧x≤64)&&decide (-64≤z∧z≤64)&&decide (0≤w∧w≤64)&&decide (0≤d∧d≤64)):=by
 rw[Bool.eq_iff_iff,boxB_iff]
 simp only[Bool.and_eq_true,decide_eq_true_eq,and_assoc]
theorem a_may (x z w d:Int) (W:World) :
  Calls Tryz.prog 131 #[.agg #[.int .i64 x,.int .i64 z,.int .i64 w,.int .i64 d]] W fun e W'=>e=.returned (.bool (boxB x z w d))∧New W W':=by
 rw[box4]
 have k1:=fun V=>a_within x (-64) 64 V
 have k2:=fun V=>a_within z (-64) 64 V
 have k3:=fun V=>a_within w 0 64 V
 have k4:=fun V=>a_within d 0 64 V
 generalize decide (-64≤x∧x≤64)=b1 at *
 generalize decide (-64≤z∧z≤64)=b2 at *
 generalize decide (0≤w∧w≤64)=b3 at *
 generalize decide (0≤d∧d≤64)=b4 at *
 go_enter Tryz.func131,Tryz.ntmps131
 go_wp2_with fail
 refine(k1 _).mono ?_
 rintro e V ⟨rfl,rfl⟩
 cases b1
 ·go_wp2_with fail
  go_ret
  exact⟨rfl,by exact nw⟩
 go_wp2_with fail
 refine(k2 _).mono ?_
 rintro e V ⟨rfl,rfl⟩
 cases b2
 ·go_wp2_with fail
  go_ret
  exact⟨rfl,by exact nw⟩
 go_wp2_with fail
 refine(k3 _).mono ?_
 rintro e V ⟨rfl,rfl⟩
 cases b3
 ·go_wp2_with fail
  go_ret
  exact⟨rfl,by exact nw⟩
 go_wp2_with fail
 refine(k4 _).mono ?_
 rintro e V ⟨rfl,rfl⟩
 go_wp2_with fail
 go_ret
 exact⟨rfl,by exact nw⟩
theorem a_last (b:Bx) (hb:b.ok) (W:World) :
  Calls Tryz.prog 195 #[.agg #[.int .i64 b.x,.int .i64 b.z,.int .i64 b.w,.int .i64 b.d]] W fun e W'=>e=.returned (.tuple #[.int .i64 (b.x+(b.w - 1)),.int .i64 (b.z+(b.d - 1))])∧New W W':=by
 obtain⟨h1,h2,h3,h4,h5,h6,h7,h8⟩:=hb
 unfold i64B at h7 h8
 have w1:IntKind.i64.wrap (b.w - 1)=b.w - 1:=IntWalk.i64_in _ (by omega)
 have w2:IntKind.i64.wrap (b.d - 1)=b.d - 1:=IntWalk.i64_in _ (by omega)
 have w3:IntKind.i64.wrap (b.x+(b.w - 1))=b.x+(b.w - 1):=IntWalk.i64_in _ (by omega)
 have w4:IntKind.i64.wrap (b.z+(b.d - 1))=b.z+(b.d - 1):=IntWalk.i64_in _ (by omega)
 obtain⟨x,z,w,d⟩:=b
 dsimp only at *
 go_enter Tryz.func195,Tryz.ntmps195
 go_wp2_with fail
 go_quiet (fail)
 go_wp2_with fail
 go_ret2
 exact⟨rfl,by exact nw⟩
theorem a_place (b:Bx) (hb:b.ok) (x z:Int) (hi:b.inside x z) (W:World) :
  Calls Tryz.prog 197 #[.agg #[.int .i64 b.x,.int .i64 b.z,.int .i64 b.w,.int .i64 b.d],.int .i64 x,.int .i64 z] W fun e W'=>e=.returned (.int .i64 (b.pl x z))∧New W W':=by
 obtain⟨k1,k2,k3⟩:=Bx.pl_lt hi
 have hn:=Bx.n_le hb
 obtain⟨h1,h2,h3,h4,h5,h6,h7,h8⟩:=hb
 obtain⟨⟨i1,i2⟩,i3,i4⟩:=hi
 unfold i64B at h5 h6 h7 h8
 have q0:0≤(z - b.z)*b.w:=Int.mul_nonneg (by omega) (by omega)
 have q1:(z - b.z)*b.w≤64*64:=Int.mul_le_mul (by omega) h2 (by omega) (by omega)
 have e:b.pl x z=(z - b.z)*b.w+x - b.x:=rfl
 rw[e]
 clear e k1 k2 k3 hn
 obtain⟨bx,bz,bw,bd⟩:=b
 dsimp only at *
 generalize hq:(z - bz)*bw=q at *
 have w1:IntKind.i64.wrap (z - bz)=z - bz:=IntWalk.i64_in _ (by omega)
 have w2:IntKind.i64.wrap q=q:=IntWalk.i64_in _ (by omega)
 have w4:wrap64 (wrap64 (q+x) - bx)=q+x - bx:=by
  unfold wrap64
  omega
 go_enter Tryz.func197,Tryz.ntmps197
 go_wp2_with fail
 go_ret
 exact⟨by show Ending.returned (.int .i64 (wrap64 (wrap64 (q+x) - bx)))=_;rw[w4],by exact nw⟩
theorem SoupV.err_long {C:CfgR} {S:SoupV} (h0:C.err=0) (h:200<S.ts.length∨16<S.bs.length∨16<S.hs.length):S.err C=2:=by
 refine err_list h0 S ?_
 rcases h with h|h|h
 ·refine .inl ?_
  unfold TriR.listB
  rw[decide_eq_false (by omega)]
  rfl
 ·refine .inr (.inl ?_)
  unfold BoxR.listB
  rw[decide_eq_false (by omega)]
  rfl
 ·refine .inr (.inr ?_)
  unfold HopR.listB
  rw[decide_eq_false (by omega)]
  rfl
theorem u_check (C:CfgR) (S:SoupV) (w:World) (hS:S.ok w) :
  Calls Tryz.prog 25 #[.agg #[.int .i64 C.cl,.int .i64 C.cb,.int .i64 C.ht,.int .i64 C.ri,.int .i64 C.ru,.int .i64 C.wd,.int .i64 C.dp],.agg #[.slice S.a0 S.ts.length S.c0,.slice S.a1 S.bs.length S.c1,.slice S.a2 S.hs.length S.c2]] w fun e w'=>e=.returned (.int .i64 (S.err C))∧New w w':=by
 by_cases h0:C.err=0
 ·by_cases hl:S.ts.length≤200∧S.bs.length≤16∧S.hs.length≤16
  ·exact u_check_walk C (CfgR.fine_of h0) S w hS hl.1 hl.2.1 hl.2.2
  have HV:=Lib.hid (SoupV.err_long (S:=S) h0 (by omega))
  have HC:=Lib.hid (fun W=>rcheck_any C.cl C.cb C.ht C.ri C.ru C.wd C.dp W)
  rw[show checkE C.cl C.cb C.ht C.ri C.ru C.wd C.dp=0 from h0]at HC
  generalize S.err C=v at *
  clear hS h0
  have hl':¬ ((S.ts.length:Int)≤200∧(S.bs.length:Int)≤16∧(S.hs.length:Int)≤16):=by omega
  clear hl
  go_enter Tryz.func25,Tryz.ntmps25
  go_wp2_with fail
  refine Calls.at (fun W hW=>?_)
  have e0:W.cell? ⟨w.heap.size+1,0,none⟩=some (.slice S.a0 S.ts.length S.c0):=by subst hW;go_simp
  have e1:W.cell? ⟨w.heap.size+1,1,none⟩=some (.slice S.a1 S.bs.length S.c1):=by subst hW;go_simp
  have e2:W.cell? ⟨w.heap.size+1,2,none⟩=some (.slice S.a2 S.hs.length S.c2):=by subst hW;go_simp
  have hn:New w W:=by subst hW;exact nw
  clear hW
  refine(HC.out _).mono ?_
  rintro e W0 ⟨rfl,n1,-⟩
  replace e0:=New.keep n1 e0
  replace e1:=New.keep n1 e1
  replace e2:=New.keep n1 e2
  replace hn:New w W0:=New.trans hn n1
  clear n1 HC
  go_wp2_with fail
  all_goals first
   | (exfalso;omega)
   | (go_ret;rw[HV.out];exact⟨rfl,hn⟩)
 ·have HV:Hid (S.err C=20):=Lib.hid (by unfold SoupV.err;rw[if_pos h0])
  have HC:=Lib.hid (fun W=>rcheck_any C.cl C.cb C.ht C.ri C.ru C.wd C.dp W)
  rcases checkE_two C.cl C.cb C.ht C.ri C.ru C.wd C.dp with h1|h1
  ·exact absurd h1 h0
  rw[h1]at HC
  generalize S.err C=v at *
  clear hS h0 h1
  go_enter Tryz.func25,Tryz.ntmps25
  go_wp2_with fail
  refine Calls.at (fun W hW=>?_)
  have hn:New w W:=by subst hW;exact nw
  clear hW
  refine(HC.out _).mono ?_
  rintro e W0 ⟨rfl,n1,-⟩
  replace hn:New w W0:=New.trans hn n1
  clear n1 HC
  go_wp2_with fail
  go_ret
  rw[HV.out]
  exact⟨rfl,hn⟩
end Go.Proofs.YtmhghnbgllaihaaGreatDoor
