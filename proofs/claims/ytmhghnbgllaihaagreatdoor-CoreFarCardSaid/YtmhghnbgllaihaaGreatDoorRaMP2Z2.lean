import Derived.Test.YtmhghnbgllaihaaGreatDoorTriFP2Z2
import Derived.Test.YtmhghnbgllaihaaGreatDoorSoLSP2Z2
import Derived.Test.YtmhghnbgllaihaaGreatDoorSpEP2Z2
import Derived.Test.YtmhghnbgllaihaaGreatDoorSpJP2Z2
import Derived.Test.YtmhghnbgllaihaaGreatDoorSpPP2Z2
import Derived.Test.YtmhghnbgllaihaaGreatDoorLooseEP2Z2
import Derived.Deep.DeepCutAuto
set_option linter.unusedVariables false
set_option maxHeartbeats 16000000

namespace Go.Proofs.YtmhghnbgllaihaaGreatDoor
open Go.RowKit
structure Co where
 (x z y d:Int)
instance:Inhabited Co:=⟨⟨0,0,0,1⟩⟩
theorem Co.ext' {a b:Co} (h1:a.x=b.x) (h2:a.z=b.z) (h3:a.y=b.y) (h4:a.d=b.d):a=b:=by
 cases a;cases b;simp_all
def Co.enc (c:Co):List Value:=#[.int .i64 c.x,.int .i64 c.z,.int .i64 c.y,.int .i64 c.d].toList
theorem Co.enc_len (c:Co):c.enc.length=4:=rfl
theorem Co.enc_one (c:Co):∀ u∈c.enc,u.oneCell'=true:=by
 intro u hu
 simp[Co.enc]at hu
 rcases hu with rfl|rfl|rfl|rfl <;> rfl
def Co.eqB (a b:Co):Bool:=a.x==b.x&&a.z==b.z&&a.y==b.y&&a.d==b.d
theorem Co.eqB_iff (a b:Co):a.eqB b=true↔a=b:=by
 obtain⟨a0,a1,a2,a3⟩:=a
 obtain⟨b0,b1,b2,b3⟩:=b
 simp[Co.eqB,and_assoc]
instance:DecidableEq Co:=fun a b=>decidable_of_iff _ (Co.eqB_iff a b)
def cg (x z y d:Int):Nat:=Nat.gcd (Nat.gcd (Nat.gcd d.natAbs x.natAbs) z.natAbs) y.natAbs
def Prim (c:Co):Prop:=0<c.d∧cg c.x c.z c.y c.d=1
def low (x z y d:Int):Co:=⟨x.tdiv (d.sign*(cg x z y d:Int)),z.tdiv (d.sign*(cg x z y d:Int)),y.tdiv (d.sign*(cg x z y d:Int)),d.tdiv (d.sign*(cg x z y d:Int))⟩
theorem cg_mul (g:Nat) (x z y d:Int):cg ((g:Int)*x) ((g:Int)*z) ((g:Int)*y) ((g:Int)*d)=g*cg x z y d:=by
 unfold cg
 simp only[Int.natAbs_mul,Int.natAbs_natCast,Nat.gcd_mul_left]
theorem cg_sign (s x z y d:Int) (h:s=1∨s = -1):cg (s*x) (s*z) (s*y) (s*d)=cg x z y d:=by
 unfold cg
 rcases h with rfl|rfl <;> simp
theorem sign_two {d:Int} (h:d≠0):(d.sign=1∧0<d)∨(d.sign = -1∧d<0):=by
 rcases Int.lt_trichotomy d 0 with k|k|k
 ·exact .inr ⟨Int.sign_eq_neg_one_of_neg k,k⟩
 ·exact absurd k h
 ·exact .inl ⟨Int.sign_eq_one_of_pos k,k⟩
theorem cg_pos {x z y d:Int} (h:d≠0):0<cg x z y d:=by
 unfold cg
 exact Nat.gcd_pos_of_pos_left _ (Nat.gcd_pos_of_pos_left _ (Nat.gcd_pos_of_pos_left _ (by omega)))
theorem cg_dvd (x z y d:Int):((cg x z y d:Nat):Int) ∣ x∧((cg x z y d:Nat):Int) ∣ z∧((cg x z y d:Nat):Int) ∣ y∧((cg x z y d:Nat):Int) ∣ d:=by
 unfold cg
 refine⟨?_,?_,?_,?_⟩ <;> refine Int.ofNat_dvd_left.2 ?_
 ·exact Nat.dvd_trans (Nat.gcd_dvd_left _ _) (Nat.dvd_trans (Nat.gcd_dvd_left _ _) (Nat.gcd_dvd_right _ _))
 ·exact Nat.dvd_trans (Nat.gcd_dvd_left _ _) (Nat.gcd_dvd_right _ _)
 ·exact Nat.gcd_dvd_right _ _
 ·exact Nat.dvd_trans (Nat.gcd_dvd_left _ _) (Nat.dvd_trans (Nat.gcd_dvd_left _ _) (Nat.gcd_dvd_left _ _))
theorem tdiv_sg {s:Int} {g:Nat} (hs:s=1∨s = -1) (hg:0<g) (a:Int):((g:Int)*a).tdiv (s*(g:Int))=s*a:=by
 rcases hs with rfl|rfl
 ·rw[Int.one_mul,Int.one_mul,Int.mul_tdiv_cancel_left _ (by omega)]
 ·rw[show(-1:Int)*(g:Int) = -(g:Int) by omega,Int.tdiv_neg,Int.mul_tdiv_cancel_left _ (by omega)];omega
theorem low_eq {x z y d:Int} (hd:d≠0):∃ (g:Nat) (s a b c e:Int),(s=1∨s = -1)∧0<g∧x=g*a∧z=g*b∧y=g*c∧d=g*e∧0<s*e∧cg a b c e=1∧low x z y d=⟨s*a,s*b,s*c,s*e⟩:=by
 have hg:=cg_pos (x:=x) (z:=z) (y:=y) hd
 obtain⟨⟨a,ha⟩,⟨b,hb⟩,⟨c,hc⟩,⟨e,he⟩⟩:=cg_dvd x z y d
 have h1:cg x z y d=cg x z y d*cg a b c e:=by
  rw[←cg_mul,←ha,←hb,←hc,←he]
 have h2:cg a b c e=1:=by
  have:=Nat.eq_of_mul_eq_mul_left hg (show cg x z y d*1=cg x z y d*cg a b c e by omega)
  omega
 obtain⟨s,hs⟩:∃ s,s=d.sign:=⟨_,rfl⟩
 have s2:s=1∨s = -1:=by rw[hs];rcases sign_two hd with h|h <;> simp[h.1]
 have hl:low x z y d=⟨x.tdiv (s*(cg x z y d:Int)),z.tdiv (s*(cg x z y d:Int)),y.tdiv (s*(cg x z y d:Int)),d.tdiv (s*(cg x z y d:Int))⟩:=by unfold low;rw[hs]
 have pe:0<s*e:=by
  have hgz:(0:Int)<(cg x z y d:Int):=by omega
  rcases sign_two hd with h|h
  ·rw[hs,h.1,Int.one_mul]
   rcases Int.lt_trichotomy e 0 with k|k|k
   ·have:=Int.mul_neg_of_pos_of_neg hgz k;omega
   ·rw[k,Int.mul_zero]at he;omega
   ·exact k
  ·rw[hs,h.1]
   rcases Int.lt_trichotomy e 0 with k|k|k
   ·omega
   ·rw[k,Int.mul_zero]at he;omega
   ·have:=Int.mul_pos hgz k;omega
 generalize cg x z y d=g at *
 refine⟨g,s,a,b,c,e,s2,hg,ha,hb,hc,he,pe,h2,?_⟩
 rw[hl,ha,hb,hc,he,tdiv_sg s2 hg,tdiv_sg s2 hg,tdiv_sg s2 hg,tdiv_sg s2 hg]
theorem low_prim {x z y d:Int} (hd:d≠0):Prim (low x z y d):=by
 obtain⟨g,s,a,b,c,e,s2,hg,ha,hb,hc,he,pe,h2,h⟩:=low_eq (x:=x) (z:=z) (y:=y) hd
 rw[h]
 exact⟨pe,by show cg (s*a) (s*b) (s*c) (s*e)=1;rw[cg_sign _ _ _ _ _ s2,h2]⟩
theorem low_at {x z y d:Int} (hd:d≠0):(low x z y d).x*d=x*(low x z y d).d∧(low x z y d).z*d=z*(low x z y d).d∧(low x z y d).y*d=y*(low x z y d).d:=by
 obtain⟨g,s,a,b,c,e,s2,hg,ha,hb,hc,he,pe,h2,h⟩:=low_eq (x:=x) (z:=z) (y:=y) hd
 rw[h,ha,hb,hc,he]
 refine⟨?_,?_,?_⟩ <;> grind
theorem abs_mul_le {g:Nat} (hg:0<g) {a x s:Int} (hs:s=1∨s = -1) (h:x=g*a):(s*a).natAbs≤x.natAbs:=by
 rw[h,Int.natAbs_mul,Int.natAbs_mul,Int.natAbs_natCast]
 have e:s.natAbs=1:=by rcases hs with rfl|rfl <;> rfl
 rw[e,Nat.one_mul]
 exact Nat.le_mul_of_pos_left _ hg
theorem low_bd {x z y d:Int} (hd:d≠0):(low x z y d).x.natAbs≤x.natAbs∧(low x z y d).z.natAbs≤z.natAbs∧(low x z y d).y.natAbs≤y.natAbs∧(low x z y d).d.natAbs≤d.natAbs:=by
 obtain⟨g,s,a,b,c,e,s2,hg,ha,hb,hc,he,pe,h2,h⟩:=low_eq (x:=x) (z:=z) (y:=y) hd
 rw[h]
 exact⟨abs_mul_le hg s2 ha,abs_mul_le hg s2 hb,abs_mul_le hg s2 hc,abs_mul_le hg s2 he⟩
theorem dvd_of_cross {a b p q:Int} (h:a*q=p*b):b.natAbs ∣ a.natAbs*q.natAbs:=by
 rw[←Int.natAbs_mul,h,Int.natAbs_mul]
 exact Nat.dvd_mul_left _ _
theorem prim_dvd {a b:Co} (ha:cg a.x a.z a.y a.d=1) (hx:a.x*b.d=b.x*a.d) (hz:a.z*b.d=b.z*a.d) (hy:a.y*b.d=b.y*a.d):a.d.natAbs ∣ b.d.natAbs:=by
 have h:a.d.natAbs ∣ cg a.x a.z a.y a.d*b.d.natAbs:=by
  unfold cg
  rw[←Nat.gcd_mul_right,←Nat.gcd_mul_right,←Nat.gcd_mul_right]
  exact Nat.dvd_gcd (Nat.dvd_gcd (Nat.dvd_gcd (Nat.dvd_mul_right _ _) (dvd_of_cross hx)) (dvd_of_cross hz)) (dvd_of_cross hy)
 rwa [ha,Nat.one_mul]at h
theorem prim_one {a b:Co} (ha:Prim a) (hb:Prim b) (hx:a.x*b.d=b.x*a.d) (hz:a.z*b.d=b.z*a.d) (hy:a.y*b.d=b.y*a.d):a=b:=by
 have h1:=prim_dvd ha.2 hx hz hy
 have h2:=prim_dvd hb.2 hx.symm hz.symm hy.symm
 have hd:a.d=b.d:=by
  have:=Nat.dvd_antisymm h1 h2
  have:=ha.1
  have:=hb.1
  omega
 have h0:b.d≠0:=by have:=hb.1;omega
 rw[hd]at hx hz hy
 exact Co.ext' (Int.eq_of_mul_eq_mul_right h0 hx) (Int.eq_of_mul_eq_mul_right h0 hz) (Int.eq_of_mul_eq_mul_right h0 hy) hd
def Okc (c:Co):Prop:=(1≤c.d∧c.d≤1048576)∧(-1073741824≤c.x∧c.x≤1073741824)∧(-1073741824≤c.z∧c.z≤1073741824)∧(-1073741824≤c.y∧c.y≤1073741824)
def ltC (a b:Co):Prop:=a.x*b.d<b.x*a.d∨(a.x*b.d=b.x*a.d∧a.z*b.d<b.z*a.d)
theorem frac_lt {a b c p q r:Int} (hp:0<p) (hq:0<q) (hr:0<r) (h1:a*q<b*p) (h2:b*r<c*q):a*r<c*p:=by
 have k1:=Int.mul_lt_mul_of_pos_right h1 hr
 have k2:=Int.mul_lt_mul_of_pos_right h2 hp
 have k3:a*r*q<c*p*q:=by grind
 exact Int.lt_of_mul_lt_mul_right k3 (Int.le_of_lt hq)
theorem frac_le {a b c p q r:Int} (hp:0<p) (hq:0<q) (hr:0<r) (h1:a*q≤b*p) (h2:b*r≤c*q):a*r≤c*p:=by
 have k1:=Int.mul_le_mul_of_nonneg_right h1 (Int.le_of_lt hr)
 have k2:=Int.mul_le_mul_of_nonneg_right h2 (Int.le_of_lt hp)
 have k3:a*r*q≤c*p*q:=by grind
 exact Int.le_of_mul_le_mul_right k3 hq
theorem frac_eq {a b c p q r:Int} (hq:0<q) (h1:a*q=b*p) (h2:b*r=c*q):a*r=c*p:=by
 have k3:a*r*q=c*p*q:=by grind
 exact Int.eq_of_mul_eq_mul_right (by omega) k3
theorem frac_lt_le {a b c p q r:Int} (hp:0<p) (hq:0<q) (hr:0<r) (h1:a*q<b*p) (h2:b*r≤c*q):a*r<c*p:=by
 have k1:=Int.mul_lt_mul_of_pos_right h1 hr
 have k2:=Int.mul_le_mul_of_nonneg_right h2 (Int.le_of_lt hp)
 have k3:a*r*q<c*p*q:=by grind
 exact Int.lt_of_mul_lt_mul_right k3 (Int.le_of_lt hq)
theorem frac_le_lt {a b c p q r:Int} (hp:0<p) (hq:0<q) (hr:0<r) (h1:a*q≤b*p) (h2:b*r<c*q):a*r<c*p:=by
 have k1:=Int.mul_le_mul_of_nonneg_right h1 (Int.le_of_lt hr)
 have k2:=Int.mul_lt_mul_of_pos_right h2 hp
 have k3:a*r*q<c*p*q:=by grind
 exact Int.lt_of_mul_lt_mul_right k3 (Int.le_of_lt hq)
theorem ltC_trans {a b c:Co} (ha:0<a.d) (hb:0<b.d) (hc:0<c.d) (h1:ltC a b) (h2:ltC b c):ltC a c:=by
 rcases h1 with h1|⟨h1,k1⟩ <;> rcases h2 with h2|⟨h2,k2⟩
 ·exact .inl (frac_lt ha hb hc h1 h2)
 ·exact .inl (frac_lt_le ha hb hc h1 (by omega))
 ·exact .inl (frac_le_lt ha hb hc (by omega) h2)
 ·exact .inr ⟨frac_eq hb h1 h2,frac_lt ha hb hc k1 k2⟩
theorem ltC_irrefl (a:Co):¬ ltC a a:=by unfold ltC;omega
theorem ltC_tri (a b:Co):ltC a b∨ltC b a∨(a.x*b.d=b.x*a.d∧a.z*b.d=b.z*a.d):=by unfold ltC;omega
theorem nlt_trans {a b c:Co} (ha:0<a.d) (hb:0<b.d) (hc:0<c.d) (h1:¬ ltC a b) (h2:¬ ltC b c):¬ ltC a c:=by
 have k1:b.x*a.d≤a.x*b.d:=by unfold ltC at h1;omega
 have k2:c.x*b.d≤b.x*c.d:=by unfold ltC at h2;omega
 intro h
 rcases h with h|⟨h,k⟩
 ·have:=frac_le hc hb ha k2 k1;omega
 ·have e1:a.x*b.d=b.x*a.d:=by
   rcases Int.lt_or_eq_of_le k1 with q|q
   ·have:=frac_le_lt hc hb ha k2 q;omega
   ·exact q.symm
  have e2:b.x*c.d=c.x*b.d:=by
   rcases Int.lt_or_eq_of_le k2 with q|q
   ·have:=frac_lt_le hc hb ha q k1;omega
   ·exact q.symm
  have k3:b.z*a.d≤a.z*b.d:=by unfold ltC at h1;omega
  have k4:c.z*b.d≤b.z*c.d:=by unfold ltC at h2;omega
  have:=frac_le hc hb ha k4 k3
  omega
theorem sn_part {w:World} {B c:Nat} {a:Option Addr} {l:List Sn} (h:w.cell? ⟨B,0,none⟩=some (.slice a l.length c)) (hs:Sl Sn.enc 3 w (.slice a l.length c) l):PartsAt Sn.enc 3 w B [⟨a,l,c⟩]:=fun j hj=>by
 have e:j=0:=by simp at hj;omega
 subst e
 exact⟨h,hs⟩
theorem k_row_own (l:List Sn) (hl:l.length≤1000) (hf:Proper l) (base:Nat) (w:World) (v:Value) (h:w.ownsRow base 180 3 v l.length (l.flatMap Sn.enc)) :
  Calls Tryz.prog 200 #[v,.func (.func 201) #[] #[]] w fun e w1=>e=.returned (.tuple #[])∧(∀ a,New a w→a.heap.size≤base→New a w1) ∧
   Calls Tryz.prog 203 #[v] w1 fun e w2=>∃ (R:List Sn) (a:Option Addr) (c:Nat),IsM l R∧R.length≤l.length∧e=.returned (.slice a R.length c)∧Sl Sn.enc 3 w2 (.slice a R.length c) R∧(∀ x,a=some x→base≤x.block)∧(∀ a,New a w→a.heap.size≤base→New a w2):=by
 rcases h.2 with ⟨rfl,h0⟩|⟨g,cap,cur,rfl,hbg,hg,hc,hm,_⟩
 ·obtain rfl:=List.eq_nil_of_length_eq_zero h0
  refine(k_sort_nil w _).mono ?_
  rintro e w1 ⟨rfl,n1⟩
  refine⟨rfl,fun a ha _=>ha.trans n1,?_⟩
  refine(k_joined_nil w1).mono ?_
  rintro e w2 ⟨rfl,rfl⟩
  exact⟨[],none,0,IsM.nil,Nat.le_refl _,rfl,Sl.nil,fun x h=>(by cases h),fun a ha _=>ha.trans n1⟩
 ·have hW:=WRowS.of_own h
  have hlt:g<w.heap.size:=by
   rcases Nat.lt_or_ge g w.heap.size with q|q
   ·exact q
   ·rw[Array.getElem?_eq_none q]at hg;cases hg
  refine(sp_sort g cap l (by omega) w hW hlt).mono ?_
  rintro e w1 ⟨rfl,m,hp,hs,hW1,hn1⟩
  have hn2:∀ a,New a w→a.heap.size≤base→New a w1:=fun a ha hb=>hn1 a ha (by omega)
  refine⟨rfl,hn2,?_⟩
  have hml:=hp.length_eq
  have hjo:=k_joined g cap m w1 hW1 (by omega) hm hs (fun p hp'=>hf p (hp.mem_iff.1 hp'))
  rw[hml]at hjo
  refine hjo.mono ?_
  rintro e w2 ⟨K,rfl,hK,hrow,hu,hkl⟩
  have hkl2:K.length≤maxLen:=by omega
  exact⟨K,_,_,hK.congr (fun p=>(hp.mem_iff).symm),by omega,rfl,⟨_,_,rfl,Nat.le_refl _,hkl2,fun h=>(by cases h),fun _=>⟨g,0,rfl,hrow⟩⟩,fun x h=>(by cases h;exact hbg),fun a ha hb=>hu a (hn2 a ha hb) (by omega)⟩
theorem k_merge_own (at0:Option Addr) (l:List Sn) (c:Nat) (hl:l.length≤1000) (w:World) (h:Sl Sn.enc 3 w (.slice at0 l.length c) l) (hbad:fstB badS l=false) :
  Calls Tryz.prog 160 #[.slice at0 l.length c] w fun e w'=>New w w'∧∃ (R:List Sn) (a:Option Addr) (c:Nat),IsM l R∧R.length≤l.length∧e=.returned (.tuple #[.slice a R.length c,.int .i64 0])∧Sl Sn.enc 3 w' (.slice a R.length c) R∧(∀ x,a=some x→w.heap.size≤x.block):=by
 have KP:=Lib.hid (fun W n=>k_pieces at0 l c (by unfold maxLen;omega) W ((h.keep (n:New w W)).row'.2.2.2.2))
 have HS:=Lib.hid (fun W n=>h.keep (n:New w W))
 clear h
 rw[hbad]at KP
 have HB:=Lib.hid hbad.symm
 clear hbad
 go_enter Tryz.func160,Tryz.ntmps160
 go_wp2_with fail
 refine(KP.out _ (by exact nw)).mono ?_
 rintro e w1 ⟨rfl,n1⟩
 have hn1:New w w1:=New.trans (by exact nw) n1
 clear n1
 have HF:=Lib.hid (not_bad HB.out.symm)
 have HPT:=Lib.hid (fun W n h0=>sn_part (B:=w1.heap.size) (h0:W.cell? ⟨w1.heap.size,0,none⟩=some (.slice at0 l.length c)) (HS.out W (hn1.trans n)))
 have hz1:=hn1.size
 go_upto_region 4 with fail
 refine(sn_concat w1.heap.size 1 [⟨at0,l,c⟩] (by simp) (by simpa using hl) _ (HPT.out _ (by exact nw) (by go_simp))).mono ?_
 rintro e w2 ⟨v,rfl,hown,n2⟩
 simp only[List.flatMap_cons,List.flatMap_nil,List.append_nil]at hown
 have hb0:w.heap.size≤(w1.alloc (.cells #[.slice at0 l.length c] 147)).heap.size:=by simp;omega
 have hn2:New w w2:=hn1.trans (New.trans (by exact nw) n2)
 have KR:=Lib.hid (k_row_own l hl (fun p hp=>(HF.out p hp).2.1) _ w2 v hown)
 generalize (w1.alloc (.cells #[.slice at0 l.length c] 147)).heap.size=base at *
 clear hown n2
 go_wp2_with fail
 refine KR.out.mono ?_
 rintro e w3 ⟨rfl,hn3,hj⟩
 have KJ:=Lib.hid hj
 clear hj
 go_wp2_with fail
 refine KJ.out.mono ?_
 rintro e w4 ⟨R,a,c',hR,hRl,rfl,hSl,hbl,hn4⟩
 have HE:=Lib.hid (And.intro hR (And.intro hRl (And.intro hSl (And.intro (hn4 w hn2 hb0) (fun x h=>Nat.le_trans hb0 (hbl x h):∀ x,a=some x→w.heap.size≤x.block)))))
 clear hR hRl hSl hn4 hbl
 go_wp2_with fail
 refine bodyPost_ret (v:=.tuple #[.slice a R.length c',.int .i64 0]) (by simp[results,Tryz.results160,go_sem, *]) rfl ?_
 exact⟨HE.out.2.2.2.1,R,a,c',HE.out.1,HE.out.2.1,rfl,HE.out.2.2.1,HE.out.2.2.2.2⟩
end Go.Proofs.YtmhghnbgllaihaaGreatDoor
