import Derived.Test.YtmhghnbgllaihaaGreatDoorLooseEP2Z2
import Derived.Test.YtmhghnbgllaihaaGreatDoorWholeCP2Z2
import Derived.Test.YtmhghnbgllaihaaGreatDoorSoXFP2Z2
import Derived.Deep.LoopGhost
set_option linter.unusedVariables false
set_option maxHeartbeats 16000000
set_option maxRecDepth 100000

namespace Go.Proofs.YtmhghnbgllaihaaGreatDoor
open Go.RowKit
def lowN (n d:Int):Int:=d.sign*n / (Int.gcd d n:Int)
def lowD (n d:Int):Int:=(d.natAbs:Int) / (Int.gcd d n:Int)
theorem igcd_step (c r:Int) (h:r≠0):Int.gcd r (c.tmod r)=Int.gcd c r:=by
 unfold Int.gcd
 rw[Int.natAbs_tmod,Nat.gcd_comm r.natAbs,←Nat.gcd_rec,Nat.gcd_comm]
theorem abs_sign {d:Int} (hd:d≠0):(d.natAbs:Int)=d.sign*d:=by
 rcases Int.lt_trichotomy d 0 with h|h|h
 ·rw[Int.sign_eq_neg_one_of_neg h];omega
 ·exact absurd h hd
 ·rw[Int.sign_eq_one_of_pos h];omega
theorem low_div {n d q:Int} (hd:d≠0) (hq:q=d.sign*(Int.gcd d n:Int)):q≠0∧n.tdiv q=lowN n d∧d.tdiv q=lowD n d:=by
 have hg:0<Int.gcd d n:=Int.gcd_pos_of_ne_zero_left n hd
 obtain⟨a,ha⟩:=Int.gcd_dvd_left (a:=d) (b:=n)
 obtain⟨b,hb⟩:=Int.gcd_dvd_right (a:=d) (b:=n)
 unfold lowN lowD
 generalize hG:Int.gcd d n=g at *
 have hg':(0:Int)<(g:Int):=by omega
 subst hq
 have e1:(d.natAbs:Int)=d.sign*d:=abs_sign hd
 rcases Int.lt_trichotomy d 0 with h|h|h
 ·rw[Int.sign_eq_neg_one_of_neg h]at *
  refine⟨by omega,?_,?_⟩
  ·rw[hb,show(-1:Int)*(g:Int) = -(g:Int) by omega,Int.tdiv_neg,Int.mul_tdiv_cancel_left _ (by omega),show(-1:Int)*((g:Int)*b)=(g:Int)*(-b) by grind,Int.mul_ediv_cancel_left _ (by omega)]
  ·rw[e1]
   rw[show(-1:Int)*d=(g:Int)*(-a) by rw[ha];grind,show(-1:Int)*(g:Int) = -(g:Int) by omega,Int.tdiv_neg,Int.mul_ediv_cancel_left _ (by omega)]
   rw[ha,Int.mul_tdiv_cancel_left _ (by omega)]
 ·exact absurd h hd
 ·rw[Int.sign_eq_one_of_pos h]at *
  refine⟨by omega,?_,?_⟩
  ·rw[Int.one_mul,Int.one_mul,hb,Int.mul_tdiv_cancel_left _ (by omega),Int.mul_ediv_cancel_left _ (by omega)]
  ·rw[e1,Int.one_mul,Int.one_mul,ha,Int.mul_tdiv_cancel_left _ (by omega),Int.mul_ediv_cancel_left _ (by omega)]
theorem low_spec {n d:Int} (hd:d≠0):0<lowD n d∧lowN n d*d=n*lowD n d∧(lowD n d≤d.natAbs)∧(lowN n d).natAbs≤n.natAbs:=by
  have hg:0<Int.gcd d n:=Int.gcd_pos_of_ne_zero_left n hd
  obtain⟨a,ha⟩:=Int.gcd_dvd_left (a:=d) (b:=n)
  obtain⟨b,hb⟩:=Int.gcd_dvd_right (a:=d) (b:=n)
  unfold lowN lowD
  generalize hG:Int.gcd d n=g at *
  have hg':(0:Int)<(g:Int):=by omega
  have e1:(d.natAbs:Int)=d.sign*d:=abs_sign hd
  have hs:d.sign=1∧0<d∨d.sign = -1∧d<0:=by
    rcases Int.lt_trichotomy d 0 with h|h|h
    · exact .inr ⟨Int.sign_eq_neg_one_of_neg h,h⟩
    · exact absurd h hd
    · exact .inl ⟨Int.sign_eq_one_of_pos h,h⟩
  have q1:d.sign*n / (g:Int)=d.sign*b:=by rw[hb,show d.sign*((g:Int)*b)=(g:Int)*(d.sign*b) by grind,Int.mul_ediv_cancel_left _ (by omega)]
  have q2 : (d.natAbs : Int) / (g : Int) = d.sign * a := by rw [e1]; conv => lhs; rw [ha];
                                                            rw[←ha,show d.sign*d=(g:Int)*(d.sign*a) by conv=>{ lhs;arg 2;rw[ha] };grind,Int.mul_ediv_cancel_left _ (by omega)]
  rw[q1,q2]
  have ab:(b.natAbs:Int)≤n.natAbs:=by
    rw[hb,Int.natAbs_mul]
    have:=Nat.le_mul_of_pos_left b.natAbs hg
    simp only[Int.natAbs_natCast];omega
  have pa:0<d.sign*a∧d.sign*a≤d.natAbs:=by
    have h1:(d.natAbs:Int)=(g:Int)*(d.sign*a):=by rw[e1];conv=>{ lhs;arg 2;rw[ha] };grind
    have h2:0<(g:Int)*(d.sign*a):=by rw[←h1];omega
    have h3:0<d.sign*a:=by
      rcases(by omega:0<d.sign*a∨d.sign*a≤0)with k|k
      · exact k
      · have:=Int.mul_nonpos_of_nonneg_of_nonpos (Int.le_of_lt hg') k;omega
    refine⟨h3,?_⟩
    rw[h1]
    have:=Int.mul_le_mul_of_nonneg_right (show(1:Int)≤(g:Int) by omega) (Int.le_of_lt h3)
    omega
  refine⟨pa.1,?_,pa.2,?_⟩
  · conv=>{ lhs;rw[ha] }
    conv=>{ rhs;rw[hb] }
    grind
  · rcases hs with ⟨h,-⟩|⟨h,-⟩ <;> rw[h] <;> omega
theorem clamp_sign (n:Int):clampI n (-1) 1=n.sign:=by
 unfold clampI
 rcases Int.lt_trichotomy n 0 with h|h|h
 ·rw[Int.sign_eq_neg_one_of_neg h];omega
 ·subst h;rfl
 ·rw[Int.sign_eq_one_of_pos h];omega
theorem t_lowest (n d:Int) (w:World) (hd:d≠0) (bn : -1099511627776≤n∧n≤1099511627776) (bd : -1099511627776≤d∧d≤1099511627776) :
  Calls Tryz.prog 297 #[.int .i64 n,.int .i64 d] w fun e w'=>e=.returned (.tuple #[.int .i64 (lowN n d),.int .i64 (lowD n d)])∧New w w':=by
 obtain⟨A,hA⟩:∃ A,A=lowN n d:=⟨_,rfl⟩
 obtain⟨B,hB⟩:∃ B,B=lowD n d:=⟨_,rfl⟩
 rw[←hA,←hB]
 have HA:Hid _:=hA
 have HB:Hid _:=hB
 have HD:Hid (d≠0):=hd
 clear hA hB hd
 go_enter Tryz.func297,Tryz.ntmps297
 go_wp2_with fail
 go_loopg [6,7] n.natAbs (fun kx s6 s7 wr=>∃ c r:Int,s6=.int .i64 c∧s7=.int .i64 r∧r.natAbs≤kx∧Hid (c≠0)∧(-1099511627776≤c∧c≤1099511627776)∧(-1099511627776≤r∧r≤1099511627776)∧Hid (Int.gcd c r=Int.gcd d n)∧New w wr)
 case atStart=>exact⟨d,n,rfl,rfl,Nat.le_refl _,HD,bd,bn,rfl,New.refl _⟩
 case round =>
  obtain⟨c,r,rfl,rfl,hkr,hc0,hc,hr,hg,hn1⟩:=hrel
  by_cases h0:r=0
  ·subst h0
   have hgc:(Int.gcd d n:Int)=c.natAbs:=by rw[←hg.out,Int.gcd_zero_right]
   obtain⟨q,hq⟩:∃ q,q=c*(clampI c (-1) 1*clampI d (-1) 1):=⟨_,rfl⟩
   have hq':q=d.sign*(Int.gcd d n:Int):=by
    rw[hq,clamp_sign,clamp_sign,hgc,abs_sign hc0.out];grind
   obtain⟨q0,t1,t2⟩:=low_div HD.out hq'
   rw[←HA.out]at t1
   rw[←HB.out]at t2
   obtain⟨-,-,b1,b2⟩:=low_spec (n:=n) HD.out
   rw[←HA.out]at b2
   rw[←HB.out]at b1
   have b3:0<B:=by have:=(low_spec (n:=n) HD.out).1;rw[←HB.out]at this;exact this
   obtain⟨m,hm⟩:∃ m,m=clampI c (-1) 1*clampI d (-1) 1:=⟨_,rfl⟩
   have bm : -1≤m∧m≤1:=by
    have:=mul_bd (a:=clampI c (-1) 1) (b:=clampI d (-1) 1) (A:=1) (B:=1) (by unfold clampI;omega) (by unfold clampI;omega)
    omega
   rw[←hm]at hq
   have bq : -1099511627776≤q∧q≤1099511627776:=by
    have:=mul_bd (a:=c) (b:=m) (A:=1099511627776) (B:=1) hc (by omega)
    omega
   have hz:(q==0)=false:=by rw[beq_eq_false_iff_ne];exact q0
   obtain⟨s1,hs1⟩:∃ s,s=clampI c (-1) 1:=⟨_,rfl⟩
   obtain⟨s2,hs2⟩:∃ s,s=clampI d (-1) 1:=⟨_,rfl⟩
   have T1:∀ w,Calls Tryz.prog 284 #[.int .i64 c] w fun e w'=>e=.returned (.int .i64 s1)∧w=w':=fun w=>by rw[hs1];exact sign_any c w
   have T2:∀ w,Calls Tryz.prog 284 #[.int .i64 d] w fun e w'=>e=.returned (.int .i64 s2)∧w=w':=fun w=>by rw[hs2];exact sign_any d w
   have b4 : -1≤s1∧s1≤1:=by rw[hs1];unfold clampI;omega
   have b5 : -1≤s2∧s2≤1:=by rw[hs2];unfold clampI;omega
   have hm':s1*s2=m:=by rw[hm,hs1,hs2]
   have hq2:c*m=q:=hq.symm
   clear hs1 hs2 hm hq hq' hgc hg
   replace T1:=Lib.hid T1
   replace T2:=Lib.hid T2
   go_wp2_with fail
   refine(T1.out _).mono ?_
   rintro e w' ⟨rfl,rfl⟩
   go_wp2_with fail
   refine(T2.out _).mono ?_
   rintro e w' ⟨rfl,rfl⟩
   go_wp2_with fail
   go_region
   all_goals
    go_wp2_with fail
    go_ret2
    exact⟨rfl,by exact nw⟩
  ·have hz:(r==0)=false:=by rw[beq_eq_false_iff_ne];omega
   obtain⟨q,hq⟩:∃ q,c.tmod r=q:=⟨_,rfl⟩
   have hlt:q.natAbs<r.natAbs:=by rw[←hq,Int.natAbs_tmod];exact Nat.mod_lt _ (by omega)
   have hg':Hid (Int.gcd r q=Int.gcd d n):=by
    show Int.gcd r q=_
    rw[←hq,igcd_step c r h0];exact hg.out
   have h1:Hid (r≠0):=h0
   clear hg hc0
   go_wp2_with fail
   go_quiet (fail)
   go_wp2_with fail
   go_roundg q.natAbs
   case measure=>omega
   case rel=>exact⟨r,q,rfl,rfl,Nat.le_refl _,h1,hr,by omega,hg',by exact nw⟩
end Go.Proofs.YtmhghnbgllaihaaGreatDoor
