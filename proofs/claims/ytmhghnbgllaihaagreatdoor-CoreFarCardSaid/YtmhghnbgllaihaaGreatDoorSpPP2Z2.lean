import Derived.Test.YtmhghnbgllaihaaGreatDoorSoXFP2Z2
import Derived.Test.YtmhghnbgllaihaaGreatDoorSoLSP2Z2
import Derived.Deep.LoopGhost
import Derived.Deep.DeepCutAuto
import Derived.Test.YtmhghnbgllaihaaGreatDoorWholeMP2Z2
set_option linter.unusedVariables false
set_option maxHeartbeats 16000000
set_option maxRecDepth 100000

namespace Go.Proofs.YtmhghnbgllaihaaGreatDoor
open Go.RowKit
theorem l_len64 (w:World):Calls Tryz.prog 264 #[.int .u64 0] w fun e w'=>e=.returned (.int .i64 0)∧w=w':=by
 go_enter Tryz.func264,Tryz.ntmps264
 go_wp2_with fail
 go_ret
 exact⟨by kernel_rfl,rfl⟩
theorem l_len (w:World):Calls Tryz.prog 235 #[.int .u64 0] w fun e w'=>e=.returned (.int .i64 0)∧w=w':=by
 have K:=Lib.hid (fun W=>l_len64 W)
 go_enter Tryz.func235,Tryz.ntmps235
 go_wp2_with fail
 refine(K.out _).mono ?_
 rintro e w' ⟨rfl,rfl⟩
 go_wp2_with fail
 go_ret
 exact⟨rfl,rfl⟩
theorem s_ins_nil (w:World) (v f:Value):Calls Tryz.prog 255 #[v,.int .i64 0,.int .i64 0,f] w fun e w'=>e=.returned (.tuple #[])∧New w w':=by
 go_enter Tryz.func255,Tryz.ntmps255
 go_wp2_with fail
 refine wp_loop_rounds 1 ?_
 repeat(rw[rounds_succ];go_wp2_with fail)
 refine bodyPost_end (v:=.tuple #[]) (by simp[results,Tryz.results255,go_sem, *]) rfl ?_
 exact⟨rfl,New.refl _⟩
theorem s_pdq_nil (w:World) (v f:Value):Calls Tryz.prog 234 #[v,.int .i64 0,.int .i64 0,.int .i64 0,f] w fun e w'=>e=.returned (.tuple #[])∧New w w':=by
 have K:=Lib.hid (fun W=>s_ins_nil W v f)
 go_enter Tryz.func234,Tryz.ntmps234
 go_wp2_with fail
 refine wp_loop_rounds 1 ?_
 rw[rounds_succ]
 go_wp2_with fail
 refine(K.out _).mono ?_
 rintro e w1 ⟨rfl,n1⟩
 go_wp2_with fail
 refine bodyPost_ret (v:=.tuple #[]) (by simp[results,Tryz.results234,go_sem, *]) rfl ?_
 exact⟨rfl,n1⟩
theorem k_sort_nil (w:World) (f:Value):Calls Tryz.prog 200 #[.slice none 0 0,f] w fun e w'=>e=.returned (.tuple #[])∧New w w':=by
 have K:=Lib.hid (fun W=>s_pdq_nil W (.slice none 0 0) f)
 have L:=Lib.hid (fun W=>l_len W)
 go_enter Tryz.func200,Tryz.ntmps200
 go_wp2_with fail
 refine(L.out _).mono ?_
 rintro e w1 ⟨rfl,rfl⟩
 go_wp2_with fail
 refine(K.out _).mono ?_
 rintro e w1 ⟨rfl,n1⟩
 go_wp2_with fail
 refine bodyPost_end (v:=.tuple #[]) (by simp[results,Tryz.results200,go_sem, *]) rfl ?_
 exact⟨rfl,n1⟩
theorem k_joined_nil (w:World):Calls Tryz.prog 203 #[.slice none 0 0] w fun e w'=>e=.returned (.slice none 0 0)∧w=w':=by
 go_enter Tryz.func203,Tryz.ntmps203
 go_wp2_with fail
 refine wp_loop_rounds 1 ?_
 repeat(rw[rounds_succ];go_wp2_with fail)
 go_ret
 exact⟨rfl,rfl⟩
def sepB (l:List Sn):Bool:=(List.range (l.length - 1)).all fun i=>decide ((l[i]!).hi<(l[i+1]!).lo)
theorem sepB_iff (l:List Sn):sepB l=true↔∀ i (h:i+1<l.length),l[i].hi<l[i+1].lo:=by
 unfold sepB
 rw[List.all_eq_true]
 constructor
 ·intro h i hi
  have:=h i (List.mem_range.2 (by omega))
  rw[getElem!_pos l i (by omega),getElem!_pos l (i+1) hi]at this
  exact of_decide_eq_true this
 ·intro h i hi
  have hi':=List.mem_range.1 hi
  rw[getElem!_pos l i (by omega),getElem!_pos l (i+1) (by omega)]
  exact decide_eq_true (h i (by omega))
def chkB (l:List Sn):Bool:=decide (l.length≤8) && !fstB badS l&&sepB l
def spE (l:List Sn):Int:=if chkB l=true then 0 else 2
theorem chkE_long {l:List Sn} (h:8<l.length):spE l=2:=by
 have:decide (l.length≤8)=false:=decide_eq_false (by omega)
 unfold spE chkB;simp[this]
theorem chkE_bad {l:List Sn} (h:fstB badS l=true):spE l=2:=by unfold spE chkB;simp[h]
theorem chkE_meet {l:List Sn} (i:Nat) (h:i+1<l.length) (hm:l[i+1].lo≤l[i].hi):spE l=2:=by
 have:sepB l=false:=by
  cases hs:sepB l
  ·rfl
  ·have:=(sepB_iff l).1 hs i h;omega
 unfold spE chkB;simp[this]
theorem chkE_fine {l:List Sn} (h:l.length≤8) (hb:fstB badS l=false) (hs:∀ i (h:i+1<l.length),l[i].hi<l[i+1].lo):spE l=0:=by
 have h1:decide (l.length≤8)=true:=decide_eq_true h
 unfold spE chkB;simp[h1,hb,(sepB_iff l).2 hs]
theorem chkE_two (l:List Sn):spE l=0∨spE l=2:=by unfold spE;split <;> simp
theorem chkE_zero {l:List Sn} (h:spE l=0):l.length≤8∧(∀ p∈l,-2048≤p.lo∧p.lo≤p.hi∧p.hi≤2048)∧Sep l:=by
 unfold spE at h
 split at h
 ·rename_i hc
  unfold chkB at hc
  simp only[Bool.and_eq_true,decide_eq_true_eq,Bool.not_eq_true']at hc
  obtain⟨⟨h1,h2⟩,h3⟩:=hc
  have hp:∀ p∈l,-2048≤p.lo∧p.lo≤p.hi∧p.hi≤2048:=fun p hp=>by
   unfold fstB at h2
   rw[List.any_eq_false]at h2
   have:=h2 p hp
   exact(badS_not p).1 (by cases hb:badS p;rfl;exact absurd hb this)
  refine⟨h1,hp,?_⟩
  have hs:=(sepB_iff l).1 h3
  unfold Sep
  rw[List.pairwise_iff_getElem]
  intro i j hi hj hij
  have key:∀ n:Nat,(hn:i+1+n<l.length)→l[i].hi<l[i+1+n].lo:=by
   intro n
   induction n with
   | zero=>intro hn;exact hs i hn
   | succ n ih =>
    intro hn
    have h1:=ih (by omega)
    have h2:=hs (i+1+n) hn
    have h3:=(hp l[i+1+n] (List.getElem_mem _)).2.1
    have e:i+1+(n+1)=i+1+n+1:=by omega
    simp only[e]
    omega
  have:=key (j - i - 1) (by omega)
  have e:i+1+(j - i - 1)=j:=by omega
  simp only[e]at this
  exact this
 ·omega
theorem sp_check (at0:Option Addr) (l:List Sn) (c:Nat) (hl:l.length≤maxLen) (w:World) (H:RowIn Sn.enc 3 w at0 l) :
  Calls Tryz.prog 204 #[.slice at0 l.length c] w fun e w'=>e=.returned (.int .i64 (spE l))∧New w w':=by
 have KP:=Lib.hid (fun W n=>k_pieces at0 l c hl W (H.keep (n:New w W)))
 have HH:=Lib.hid H
 unfold maxLen at hl
 clear H
 obtain⟨r,hr⟩:∃ r,r=spE l:=⟨_,rfl⟩
 rw[←hr]
 have HR:=Lib.hid hr
 obtain⟨b,hb⟩:∃ b,b=fstB badS l:=⟨_,rfl⟩
 rw[←hb]at KP
 have HB:=Lib.hid hb
 obtain⟨n,hn⟩:∃ n,n=l.length:=⟨_,rfl⟩
 rw[←hn]at KP hl ⊢
 have HN:=Lib.hid hn
 clear hn hr hb
 by_cases h8:8<n
 ·have hd:decide (8<n)=true:=decide_eq_true (by omega)
  have HE:Hid (r=2):=Lib.hid (by rw[HR.out];exact chkE_long (by rw[←HN.out];exact h8))
  go_enter Tryz.func204,Tryz.ntmps204
  go_wp2_with fail
  go_ret
  exact⟨by rw[HE.out];rfl,by exact nw⟩
 ·have hd:decide (8<n)=false:=decide_eq_false (by omega)
  go_enter Tryz.func204,Tryz.ntmps204
  go_wp2_with fail
  refine(KP.out _ (by exact nw)).mono ?_
  rintro e w1 ⟨rfl,n1⟩
  have hn1:New w w1:=New.trans (by exact nw) n1
  clear n1
  cases b
  rotate_left
  ·have HE:Hid (r=2):=Lib.hid (by rw[HR.out];exact chkE_bad HB.out.symm)
   go_wp2_with fail
   go_ret
   exact⟨by rw[HE.out];rfl,hn1⟩
  ·go_wp2_with fail
   go_loopg [3] n (fun gk s3 wr=>∃ i:Nat,s3=.int .i64 i∧1≤i∧(i≤n∨n=0)∧n - i≤gk∧Hid (∀ j (h:j+1<l.length),j+1<i→l[j].hi<l[j+1].lo)∧Hid (New w wr))
   case atStart=>exact⟨1,rfl,by omega,by omega,by omega,Lib.hid (fun j h hj=>by omega),Lib.hid hn1⟩
   case round =>
    obtain⟨i,rfl,hi1,hi,hgk,HS,hnr⟩:=hrel
    by_cases hlt:i<n
    ·have hil:i<l.length:=by rw[←HN.out];exact hlt
     obtain⟨b0,off,rfl,hA⟩:=HH.out (by omega)
     have hA':=hA.keep hnr.out
     obtain⟨c0,c1,c2⟩:=Sn.cells hA' i hil
     obtain⟨d0,d1,d2⟩:=Sn.cells hA' (i - 1) (by omega)
     clear hA hA'
     have hz:IntKind.i64.wrap ((i:Int) - 1)=((i - 1:Nat):Int):=by rw[IntWalk.i64_in _ (by omega)];omega
     have hlt2:i - 1<n:=by omega
     obtain⟨x,hx⟩:∃ x,x=l[i].lo:=⟨_,rfl⟩
     obtain⟨y,hy⟩:∃ y,y=l[i - 1].hi:=⟨_,rfl⟩
     rw[←hx]at c0
     rw[←hy]at d1
     have HX:=Lib.hid (And.intro hx hy)
     clear hx hy c1 c2 d0 d2
     by_cases hm:x≤y
     ·have hm':decide (x≤y)=true:=decide_eq_true hm
      have HE:Hid (r=2):=Lib.hid (by
       rw[HR.out]
       refine chkE_meet (i - 1) (by omega) ?_
       have e:i - 1+1=i:=by omega
       simp only[e]
       rw[←HX.out.1,←HX.out.2];exact hm)
      go_upto_region 6 with fail
      (refine wp_region_hat (by kernel_rfl) (by kernel_rfl) ?_;intro hatc hatf;(repeat(go_big_quiet_step ((fail))));refine wpQuiet_nil ?_;rintro _ ⟨X,rfl⟩)
      clear hatc hatf
      have n2:=hnr.out.trans X.h
      generalize X.w=W2 at *
      go_wp2_with fail
      go_ret
      exact⟨by rw[HE.out];rfl,n2⟩
     ·have hm':decide (x≤y)=false:=decide_eq_false hm
      have HM:=Lib.hid hm
      clear hm
      go_upto_region 6 with fail
      (refine wp_region_hat (by kernel_rfl) (by kernel_rfl) ?_;intro hatc hatf;(repeat(go_big_quiet_step ((fail))));refine wpQuiet_nil ?_;rintro _ ⟨X,rfl⟩)
      clear hatc hatf
      have n2:=Lib.hid (hnr.out.trans X.h)
      generalize X.w=W2 at *
      go_wp2_with fail
      go_roundg (n - (i+1))
      case measure=>omega
      case rel =>
       refine⟨i+1,by go_num,by omega,by omega,by omega,Lib.hid (fun j h hj=>?_),n2⟩
       by_cases e:j+1<i
       ·exact HS.out j h e
       ·have e2:j+1=i:=by omega
        subst e2
        have:=HM.out
        rw[HX.out.1,HX.out.2]at this
        simpa using this
    ·have HE:Hid (r=0):=Lib.hid (by
      rw[HR.out]
      exact chkE_fine (by rw[←HN.out];omega) HB.out.symm (fun j h=>HS.out j h (by have:=HN.out;omega)))
     go_wp2_with fail
     go_ret
     exact⟨by rw[HE.out];rfl,hnr.out⟩
end Go.Proofs.YtmhghnbgllaihaaGreatDoor
