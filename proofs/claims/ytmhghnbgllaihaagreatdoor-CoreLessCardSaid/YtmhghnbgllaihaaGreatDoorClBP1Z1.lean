import Derived.Test.YtmhghnbgllaihaaGreatDoorTriFP1Z1
import Derived.Test.YtmhghnbgllaihaaGreatDoorSoSP1Z1
import Derived.Test.YtmhghnbgllaihaaGreatDoorWholeMP1Z1
import Derived.ChangeKeysEq
import Derived.OwnWalk
import Derived.Deep.LoopGhost
import Derived.Test.YtmhghnbgllaihaaGreatDoorSoDP1Z1
import Derived.Test.YtmhghnbgllaihaaGreatDoorSpPP1Z1
import Derived.Test.YtmhghnbgllaihaaGreatDoorTriGP1Z1
import Derived.Test.YtmhghnbgllaihaaGreatDoorSoLSP1Z1

namespace Go.Proofs.YtmhghnbgllaihaaGreatDoor
open Go.RowKit
set_option linter.unusedVariables false
structure Co where
  (x z y d:Int)
instance:Inhabited Co:=⟨⟨0,0,0,1⟩⟩
theorem Co.ext' {a b:Co} (h1:a.x=b.x) (h2:a.z=b.z) (h3:a.y=b.y) (h4:a.d=b.d):a=b:=by
  cases a;cases b;simp_all
def Co.enc (c:Co):List Value:=#[.int .i64 c.x,.int .i64 c.z,.int .i64 c.y,.int .i64 c.d].toList
theorem Co.enc_len (c:Co):c.enc.length=4:=rfl
theorem Co.enc_one (c:Co):∀ u∈c.enc,u.oneCell'=true:=by
  intro u hu
  simp[Co.enc]at hu
  rcases hu with rfl|rfl|rfl|rfl <;> rfl
def Co.eqB (a b:Co):Bool:=a.x==b.x&&a.z==b.z&&a.y==b.y&&a.d==b.d
theorem Co.eqB_iff (a b:Co):a.eqB b=true↔a=b:=by
  obtain⟨a0,a1,a2,a3⟩:=a
  obtain⟨b0,b1,b2,b3⟩:=b
  simp[Co.eqB,and_assoc]
instance:DecidableEq Co:=fun a b=>decidable_of_iff _ (Co.eqB_iff a b)
def cg (x z y d:Int):Nat:=Nat.gcd (Nat.gcd (Nat.gcd d.natAbs x.natAbs) z.natAbs) y.natAbs
def Prim (c:Co):Prop:=0<c.d∧cg c.x c.z c.y c.d=1
def low (x z y d:Int):Co:=⟨x.tdiv (d.sign*(cg x z y d:Int)),z.tdiv (d.sign*(cg x z y d:Int)),y.tdiv (d.sign*(cg x z y d:Int)),d.tdiv (d.sign*(cg x z y d:Int))⟩
theorem cg_mul (g:Nat) (x z y d:Int):cg ((g:Int)*x) ((g:Int)*z) ((g:Int)*y) ((g:Int)*d)=g*cg x z y d:=by
  unfold cg
  simp only[Int.natAbs_mul,Int.natAbs_natCast,Nat.gcd_mul_left]
theorem cg_sign (s x z y d:Int) (h:s=1∨s = -1):cg (s*x) (s*z) (s*y) (s*d)=cg x z y d:=by
  unfold cg
  rcases h with rfl|rfl <;> simp
theorem sign_two {d:Int} (h:d≠0):(d.sign=1∧0<d)∨(d.sign = -1∧d<0):=by
  rcases Int.lt_trichotomy d 0 with k|k|k
  · exact .inr ⟨Int.sign_eq_neg_one_of_neg k,k⟩
  · exact absurd k h
  · exact .inl ⟨Int.sign_eq_one_of_pos k,k⟩
theorem cg_pos {x z y d:Int} (h:d≠0):0<cg x z y d:=by
  unfold cg
  exact Nat.gcd_pos_of_pos_left _ (Nat.gcd_pos_of_pos_left _ (Nat.gcd_pos_of_pos_left _ (by omega)))
theorem cg_dvd (x z y d:Int):((cg x z y d:Nat):Int) ∣ x∧((cg x z y d:Nat):Int) ∣ z∧((cg x z y d:Nat):Int) ∣ y∧((cg x z y d:Nat):Int) ∣ d:=by
  unfold cg
  refine⟨?_,?_,?_,?_⟩ <;> refine Int.ofNat_dvd_left.2 ?_
  · exact Nat.dvd_trans (Nat.gcd_dvd_left _ _) (Nat.dvd_trans (Nat.gcd_dvd_left _ _) (Nat.gcd_dvd_right _ _))
  · exact Nat.dvd_trans (Nat.gcd_dvd_left _ _) (Nat.gcd_dvd_right _ _)
  · exact Nat.gcd_dvd_right _ _
  · exact Nat.dvd_trans (Nat.gcd_dvd_left _ _) (Nat.dvd_trans (Nat.gcd_dvd_left _ _) (Nat.gcd_dvd_left _ _))
theorem tdiv_sg {s:Int} {g:Nat} (hs:s=1∨s = -1) (hg:0<g) (a:Int):((g:Int)*a).tdiv (s*(g:Int))=s*a:=by
  rcases hs with rfl|rfl
  · rw[Int.one_mul,Int.one_mul,Int.mul_tdiv_cancel_left _ (by omega)]
  · rw[show(-1:Int)*(g:Int) = -(g:Int) by omega,Int.tdiv_neg,Int.mul_tdiv_cancel_left _ (by omega)];omega
theorem low_eq {x z y d:Int} (hd:d≠0):∃ (g:Nat) (s a b c e:Int),(s=1∨s = -1)∧0<g∧x=g*a∧z=g*b∧y=g*c∧d=g*e∧0<s*e∧cg a b c e=1∧low x z y d=⟨s*a,s*b,s*c,s*e⟩:=by
  have hg:=cg_pos (x:=x) (z:=z) (y:=y) hd
  obtain⟨⟨a,ha⟩,⟨b,hb⟩,⟨c,hc⟩,⟨e,he⟩⟩:=cg_dvd x z y d
  have h1:cg x z y d=cg x z y d*cg a b c e:=by
    rw[←cg_mul,←ha,←hb,←hc,←he]
  have h2:cg a b c e=1:=by
    have:=Nat.eq_of_mul_eq_mul_left hg (show cg x z y d*1=cg x z y d*cg a b c e by omega)
    omega
  obtain⟨s,hs⟩:∃ s,s=d.sign:=⟨_,rfl⟩
  have s2:s=1∨s = -1:=by rw[hs];rcases sign_two hd with h|h <;> simp[h.1]
  have hl:low x z y d=⟨x.tdiv (s*(cg x z y d:Int)),z.tdiv (s*(cg x z y d:Int)),y.tdiv (s*(cg x z y d:Int)),d.tdiv (s*(cg x z y d:Int))⟩:=by unfold low;rw[hs]
  have pe:0<s*e:=by
    have hgz:(0:Int)<(cg x z y d:Int):=by omega
    rcases sign_two hd with h|h
    · rw[hs,h.1,Int.one_mul]
      rcases Int.lt_trichotomy e 0 with k|k|k
      · have:=Int.mul_neg_of_pos_of_neg hgz k;omega
      · rw[k,Int.mul_zero]at he;omega
      · exact k
    · rw[hs,h.1]
      rcases Int.lt_trichotomy e 0 with k|k|k
      · omega
      · rw[k,Int.mul_zero]at he;omega
      · have:=Int.mul_pos hgz k;omega
  generalize cg x z y d=g at *
  refine⟨g,s,a,b,c,e,s2,hg,ha,hb,hc,he,pe,h2,?_⟩
  rw[hl,ha,hb,hc,he,tdiv_sg s2 hg,tdiv_sg s2 hg,tdiv_sg s2 hg,tdiv_sg s2 hg]
theorem low_prim {x z y d:Int} (hd:d≠0):Prim (low x z y d):=by
  obtain⟨g,s,a,b,c,e,s2,hg,ha,hb,hc,he,pe,h2,h⟩:=low_eq (x:=x) (z:=z) (y:=y) hd
  rw[h]
  exact⟨pe,by show cg (s*a) (s*b) (s*c) (s*e)=1;rw[cg_sign _ _ _ _ _ s2,h2]⟩
theorem low_at {x z y d:Int} (hd:d≠0):(low x z y d).x*d=x*(low x z y d).d∧(low x z y d).z*d=z*(low x z y d).d∧(low x z y d).y*d=y*(low x z y d).d:=by
  obtain⟨g,s,a,b,c,e,s2,hg,ha,hb,hc,he,pe,h2,h⟩:=low_eq (x:=x) (z:=z) (y:=y) hd
  rw[h,ha,hb,hc,he]
  refine⟨?_,?_,?_⟩ <;> grind
theorem abs_mul_le {g:Nat} (hg:0<g) {a x s:Int} (hs:s=1∨s = -1) (h:x=g*a):(s*a).natAbs≤x.natAbs:=by
  rw[h,Int.natAbs_mul,Int.natAbs_mul,Int.natAbs_natCast]
  have e:s.natAbs=1:=by rcases hs with rfl|rfl <;> rfl
  rw[e,Nat.one_mul]
  exact Nat.le_mul_of_pos_left _ hg
theorem low_bd {x z y d:Int} (hd:d≠0):(low x z y d).x.natAbs≤x.natAbs∧(low x z y d).z.natAbs≤z.natAbs∧(low x z y d).y.natAbs≤y.natAbs∧(low x z y d).d.natAbs≤d.natAbs:=by
  obtain⟨g,s,a,b,c,e,s2,hg,ha,hb,hc,he,pe,h2,h⟩:=low_eq (x:=x) (z:=z) (y:=y) hd
  rw[h]
  exact⟨abs_mul_le hg s2 ha,abs_mul_le hg s2 hb,abs_mul_le hg s2 hc,abs_mul_le hg s2 he⟩
theorem dvd_of_cross {a b p q:Int} (h:a*q=p*b):b.natAbs ∣ a.natAbs*q.natAbs:=by
  rw[←Int.natAbs_mul,h,Int.natAbs_mul]
  exact Nat.dvd_mul_left _ _
theorem prim_dvd {a b:Co} (ha:cg a.x a.z a.y a.d=1) (hx:a.x*b.d=b.x*a.d) (hz:a.z*b.d=b.z*a.d) (hy:a.y*b.d=b.y*a.d):a.d.natAbs ∣ b.d.natAbs:=by
  have h:a.d.natAbs ∣ cg a.x a.z a.y a.d*b.d.natAbs:=by
    unfold cg
    rw[←Nat.gcd_mul_right,←Nat.gcd_mul_right,←Nat.gcd_mul_right]
    exact Nat.dvd_gcd (Nat.dvd_gcd (Nat.dvd_gcd (Nat.dvd_mul_right _ _) (dvd_of_cross hx)) (dvd_of_cross hz)) (dvd_of_cross hy)
  rwa [ha,Nat.one_mul]at h
theorem prim_one {a b:Co} (ha:Prim a) (hb:Prim b) (hx:a.x*b.d=b.x*a.d) (hz:a.z*b.d=b.z*a.d) (hy:a.y*b.d=b.y*a.d):a=b:=by
  have h1:=prim_dvd ha.2 hx hz hy
  have h2:=prim_dvd hb.2 hx.symm hz.symm hy.symm
  have hd:a.d=b.d:=by
    have:=Nat.dvd_antisymm h1 h2
    have:=ha.1
    have:=hb.1
    omega
  have h0:b.d≠0:=by have:=hb.1;omega
  rw[hd]at hx hz hy
  exact Co.ext' (Int.eq_of_mul_eq_mul_right h0 hx) (Int.eq_of_mul_eq_mul_right h0 hz) (Int.eq_of_mul_eq_mul_right h0 hy) hd
def Okc (c:Co):Prop:=(1≤c.d∧c.d≤1048576)∧(-1073741824≤c.x∧c.x≤1073741824)∧(-1073741824≤c.z∧c.z≤1073741824)∧(-1073741824≤c.y∧c.y≤1073741824)
def ltC (a b:Co):Prop:=a.x*b.d<b.x*a.d∨(a.x*b.d=b.x*a.d∧a.z*b.d<b.z*a.d)
theorem frac_lt {a b c p q r:Int} (hp:0<p) (hq:0<q) (hr:0<r) (h1:a*q<b*p) (h2:b*r<c*q):a*r<c*p:=by
  have k1:=Int.mul_lt_mul_of_pos_right h1 hr
  have k2:=Int.mul_lt_mul_of_pos_right h2 hp
  have k3:a*r*q<c*p*q:=by grind
  exact Int.lt_of_mul_lt_mul_right k3 (Int.le_of_lt hq)
theorem frac_le {a b c p q r:Int} (hp:0<p) (hq:0<q) (hr:0<r) (h1:a*q≤b*p) (h2:b*r≤c*q):a*r≤c*p:=by
  have k1:=Int.mul_le_mul_of_nonneg_right h1 (Int.le_of_lt hr)
  have k2:=Int.mul_le_mul_of_nonneg_right h2 (Int.le_of_lt hp)
  have k3:a*r*q≤c*p*q:=by grind
  exact Int.le_of_mul_le_mul_right k3 hq
theorem frac_eq {a b c p q r:Int} (hq:0<q) (h1:a*q=b*p) (h2:b*r=c*q):a*r=c*p:=by
  have k3:a*r*q=c*p*q:=by grind
  exact Int.eq_of_mul_eq_mul_right (by omega) k3
theorem frac_lt_le {a b c p q r:Int} (hp:0<p) (hq:0<q) (hr:0<r) (h1:a*q<b*p) (h2:b*r≤c*q):a*r<c*p:=by
  have k1:=Int.mul_lt_mul_of_pos_right h1 hr
  have k2:=Int.mul_le_mul_of_nonneg_right h2 (Int.le_of_lt hp)
  have k3:a*r*q<c*p*q:=by grind
  exact Int.lt_of_mul_lt_mul_right k3 (Int.le_of_lt hq)
theorem frac_le_lt {a b c p q r:Int} (hp:0<p) (hq:0<q) (hr:0<r) (h1:a*q≤b*p) (h2:b*r<c*q):a*r<c*p:=by
  have k1:=Int.mul_le_mul_of_nonneg_right h1 (Int.le_of_lt hr)
  have k2:=Int.mul_lt_mul_of_pos_right h2 hp
  have k3:a*r*q<c*p*q:=by grind
  exact Int.lt_of_mul_lt_mul_right k3 (Int.le_of_lt hq)
theorem ltC_trans {a b c:Co} (ha:0<a.d) (hb:0<b.d) (hc:0<c.d) (h1:ltC a b) (h2:ltC b c):ltC a c:=by
  rcases h1 with h1|⟨h1,k1⟩ <;> rcases h2 with h2|⟨h2,k2⟩
  · exact .inl (frac_lt ha hb hc h1 h2)
  · exact .inl (frac_lt_le ha hb hc h1 (by omega))
  · exact .inl (frac_le_lt ha hb hc (by omega) h2)
  · exact .inr ⟨frac_eq hb h1 h2,frac_lt ha hb hc k1 k2⟩
theorem ltC_irrefl (a:Co):¬ ltC a a:=by unfold ltC;omega
theorem ltC_tri (a b:Co):ltC a b∨ltC b a∨(a.x*b.d=b.x*a.d∧a.z*b.d=b.z*a.d):=by unfold ltC;omega
theorem nlt_trans {a b c:Co} (ha:0<a.d) (hb:0<b.d) (hc:0<c.d) (h1:¬ ltC a b) (h2:¬ ltC b c):¬ ltC a c:=by
  have k1:b.x*a.d≤a.x*b.d:=by unfold ltC at h1;omega
  have k2:c.x*b.d≤b.x*c.d:=by unfold ltC at h2;omega
  intro h
  rcases h with h|⟨h,k⟩
  · have:=frac_le hc hb ha k2 k1;omega
  · have e1:a.x*b.d=b.x*a.d:=by
      rcases Int.lt_or_eq_of_le k1 with q|q
      · have:=frac_le_lt hc hb ha k2 q;omega
      · exact q.symm
    have e2:b.x*c.d=c.x*b.d:=by
      rcases Int.lt_or_eq_of_le k2 with q|q
      · have:=frac_lt_le hc hb ha q k1;omega
      · exact q.symm
    have k3:b.z*a.d≤a.z*b.d:=by unfold ltC at h1;omega
    have k4:c.z*b.d≤b.z*c.d:=by unfold ltC at h2;omega
    have:=frac_le hc hb ha k4 k3
    omega
end Go.Proofs.YtmhghnbgllaihaaGreatDoor

namespace Go.Proofs.YtmhghnbgllaihaaGreatDoor
open Go.RowKit
set_option linter.unusedVariables false
def SoupV.great (S:SoupV):Bool:=decide (220<S.ts.length)||decide (20<S.bs.length)||decide (20<S.hs.length)
set_option maxHeartbeats 2000000 in
theorem s_great (S:SoupV) (w:World) (hS:S.ok w):Calls Tryz.prog 29 #[.agg #[.slice S.a0 S.ts.length S.c0,.slice S.a1 S.bs.length S.c1,.slice S.a2 S.hs.length S.c2]] w fun e w'=>e=.returned (.bool S.great)∧New w w':=by
  have h1:=hS.t.row.2.1
  have h2:=hS.b.row.2.1
  have h3:=hS.h.row.2.1
  have m1:=hS.t.row.2.2.1
  have m2:=hS.b.row.2.2.1
  have m3:=hS.h.row.2.2.1
  unfold maxLen at m1 m2 m3
  obtain⟨v,hv⟩:∃ v,v=S.great:=⟨_,rfl⟩
  rw[←hv]
  have HV:Hid (v=(decide ((220:Int)<(S.ts.length:Int))||decide ((20:Int)<(S.bs.length:Int))||decide ((20:Int)<(S.hs.length:Int)))):=by
    show v=_
    rw[hv]
    unfold SoupV.great
    rw[Bool.eq_iff_iff]
    simp only[Bool.or_eq_true,decide_eq_true_eq]
    omega
  clear hv hS
  generalize S.ts.length=a at *
  generalize S.bs.length=b at *
  generalize S.hs.length=c at *
  cases e1:decide ((220:Int)<(a:Int)) <;> cases e2:decide ((20:Int)<(b:Int)) <;> cases e3:decide ((20:Int)<(c:Int))
  all_goals
    rw[e1,e2,e3]at HV
    go_enter Tryz.func29,Tryz.ntmps29
    go_wp2_with fail
    go_ret
    exact⟨retBo HV.out.symm,by exact nw⟩
end Go.Proofs.YtmhghnbgllaihaaGreatDoor

namespace Go.Proofs.YtmhghnbgllaihaaGreatDoor
open Go.RowKit
set_option linter.unusedVariables false
structure Fl where
  (y top area:Int)
instance:Inhabited Fl:=⟨⟨0,0,0⟩⟩
def Fl.zero:Fl:=⟨0,0,0⟩
def Fl.enc (x:Fl):List Value:=#[.int .i64 x.y,.int .i64 x.top,.int .i64 x.area].toList
theorem Fl.enc_len (x:Fl):x.enc.length=3:=rfl
theorem Fl.enc_one (x:Fl):∀ u∈x.enc,u.oneCell'=true:=by
  intro u hu
  simp[Fl.enc]at hu
  rcases hu with rfl|rfl|rfl <;> rfl
def Fl.eqB (a b:Fl):Bool:=a.y==b.y&&a.top==b.top&&a.area==b.area
theorem Fl.eqB_iff (a b:Fl):a.eqB b=true↔a=b:=by
  obtain⟨a0,a1,a2⟩:=a
  obtain⟨b0,b1,b2⟩:=b
  simp[Fl.eqB,and_assoc]
instance:DecidableEq Fl:=fun a b=>decidable_of_iff _ (Fl.eqB_iff a b)
theorem Fl.cells {w:World} {b off:Nat} {l:List Fl} (H:RowAt Fl.enc 3 w b off l) (j:Nat) (h:j<l.length) :
    w.cell? ⟨b,off+j*3,none⟩=some (.int .i64 l[j].y)∧w.cell? ⟨b,off+j*3+1,none⟩=some (.int .i64 l[j].top)∧w.cell? ⟨b,off+j*3+2,none⟩=some (.int .i64 l[j].area) :=
  ⟨H j h 0 (by rw[Fl.enc_len];omega),H j h 1 (by rw[Fl.enc_len];omega),H j h 2 (by rw[Fl.enc_len];omega)⟩
end Go.Proofs.YtmhghnbgllaihaaGreatDoor

namespace Go.Proofs.YtmhghnbgllaihaaGreatDoor
open Go.RowKit
set_option linter.unusedVariables false
set_option maxRecDepth 100000
def heiB (y:Int):Bool:=decide (-2048≤y∧y≤2048)
def idB (i:Int):Bool:=decide (1≤i∧i≤1073741824)
end Go.Proofs.YtmhghnbgllaihaaGreatDoor

namespace Go.Proofs.YtmhghnbgllaihaaGreatDoor
open Go.RowKit
set_option linter.unusedVariables false
theorem not_bad {l:List Sn} (h:fstB badS l=false):∀ p∈l,-2048≤p.lo∧p.lo≤p.hi∧p.hi≤2048:=fun p hp=>by
  unfold fstB at h
  rw[List.any_eq_false]at h
  have:=h p hp
  exact(badS_not p).1 (by cases hb:badS p;rfl;exact absurd hb this)
end Go.Proofs.YtmhghnbgllaihaaGreatDoor

namespace Go.Proofs.YtmhghnbgllaihaaGreatDoor
open Go.RowKit
set_option linter.unusedVariables false
def okT (T:TriR):Bool:=okB T.x0 T.y0 T.z0 T.x1 T.y1 T.z1 T.x2 T.y2 T.z2
def tnx (T:TriR):Int:=nxI T.x0 T.y0 T.z0 T.x1 T.y1 T.z1 T.x2 T.y2 T.z2
def tny (T:TriR):Int:=nyI T.x0 T.y0 T.z0 T.x1 T.y1 T.z1 T.x2 T.y2 T.z2
def tnz (T:TriR):Int:=nzI T.x0 T.y0 T.z0 T.x1 T.y1 T.z1 T.x2 T.y2 T.z2
def hnT (T:TriR) (px pz:Int):Int:=heightN px pz T.x0 T.y0 T.z0 T.x1 T.y1 T.z1 T.x2 T.y2 T.z2
def hdT (T:TriR) (px pz:Int):Int:=heightD px pz T.x0 T.y0 T.z0 T.x1 T.y1 T.z1 T.x2 T.y2 T.z2
def Cv (T:TriR) (c:Co):Prop:=∃ u0 u1 u2:Int,0≤u0∧0≤u1∧0≤u2∧0<u0+u1+u2 ∧
  (u0+u1+u2)*c.x=c.d*(u0*T.x0+u1*T.x1+u2*T.x2)∧(u0+u1+u2)*c.z=c.d*(u0*T.z0+u1*T.z1+u2*T.z2)∧(u0+u1+u2)*c.y=c.d*(u0*T.y0+u1*T.y1+u2*T.y2)
def Pl (T:TriR) (c:Co):Prop:=tny T*c.y=tny T*T.y0*c.d - tnx T*(c.x - T.x0*c.d) - tnz T*(c.z - T.z0*c.d)
theorem pl_of_cv {T:TriR} {c:Co} (h:Cv T c):Pl T c:=by
  obtain⟨u0,u1,u2,-,-,-,hw,hx,hz,hy⟩:=h
  unfold Pl tnx tny tnz nxI nyI nzI
  obtain⟨i,x0,y0,z0,x1,y1,z1,x2,y2,z2⟩:=T
  obtain⟨x,z,y,d⟩:=c
  simp only at *
  have hw0:u0+u1+u2≠0:=by omega
  apply Int.eq_of_mul_eq_mul_left hw0
  grind
theorem pl_one {T:TriR} {a b:Co} (hn:tny T≠0) (ha:Pl T a) (hb:Pl T b) (pa:Prim a) (pb:Prim b) (hx:a.x*b.d=b.x*a.d) (hz:a.z*b.d=b.z*a.d):a=b:=by
  refine prim_one pa pb hx hz ?_
  unfold Pl at ha hb
  apply Int.eq_of_mul_eq_mul_left hn
  generalize tny T=n at *
  generalize tnx T=k at *
  generalize tnz T=m at *
  obtain⟨x,z,y,d⟩:=a
  obtain⟨x',z',y',d'⟩:=b
  simp only at *
  grind
theorem mean_le {u0 u1 u2 c d v0 v1 v2 m:Int} (h0:0≤u0) (h1:0≤u1) (h2:0≤u2) (hw:0<u0+u1+u2) (hd:0<d) (h:(u0+u1+u2)*c=d*(u0*v0+u1*v1+u2*v2)) (k0:v0≤m) (k1:v1≤m) (k2:v2≤m):c≤m*d:=by
  have e0:=Int.mul_le_mul_of_nonneg_left k0 h0
  have e1:=Int.mul_le_mul_of_nonneg_left k1 h1
  have e2:=Int.mul_le_mul_of_nonneg_left k2 h2
  have e3:u0*v0+u1*v1+u2*v2≤(u0+u1+u2)*m:=by grind
  have e4:=Int.mul_le_mul_of_nonneg_left e3 (Int.le_of_lt hd)
  have e5:(u0+u1+u2)*c≤(u0+u1+u2)*(m*d):=by rw[h];grind
  exact Int.le_of_mul_le_mul_left e5 hw
theorem mean_ge {u0 u1 u2 c d v0 v1 v2 m:Int} (h0:0≤u0) (h1:0≤u1) (h2:0≤u2) (hw:0<u0+u1+u2) (hd:0<d) (h:(u0+u1+u2)*c=d*(u0*v0+u1*v1+u2*v2)) (k0:m≤v0) (k1:m≤v1) (k2:m≤v2):m*d≤c:=by
  have:=mean_le (c := -c) (v0 := -v0) (v1 := -v1) (v2 := -v2) (m := -m) h0 h1 h2 hw hd (by grind) (by omega) (by omega) (by omega)
  rw[Int.neg_mul]at this
  omega
theorem cv_y {T:TriR} {c:Co} (h:Cv T c) (hd:0<c.d) {a b:Int} (k0:a≤T.y0∧T.y0≤b) (k1:a≤T.y1∧T.y1≤b) (k2:a≤T.y2∧T.y2≤b):a*c.d≤c.y∧c.y≤b*c.d:=by
  obtain⟨u0,u1,u2,h0,h1,h2,hw,hx,hz,hy⟩:=h
  exact⟨mean_ge h0 h1 h2 hw hd hy k0.1 k1.1 k2.1,mean_le h0 h1 h2 hw hd hy k0.2 k1.2 k2.2⟩
theorem cv_x {T:TriR} {c:Co} (h:Cv T c) (hd:0<c.d) {a b:Int} (k0:a≤T.x0∧T.x0≤b) (k1:a≤T.x1∧T.x1≤b) (k2:a≤T.x2∧T.x2≤b):a*c.d≤c.x∧c.x≤b*c.d:=by
  obtain⟨u0,u1,u2,h0,h1,h2,hw,hx,hz,hy⟩:=h
  exact⟨mean_ge h0 h1 h2 hw hd hx k0.1 k1.1 k2.1,mean_le h0 h1 h2 hw hd hx k0.2 k1.2 k2.2⟩
theorem cv_z {T:TriR} {c:Co} (h:Cv T c) (hd:0<c.d) {a b:Int} (k0:a≤T.z0∧T.z0≤b) (k1:a≤T.z1∧T.z1≤b) (k2:a≤T.z2∧T.z2≤b):a*c.d≤c.z∧c.z≤b*c.d:=by
  obtain⟨u0,u1,u2,h0,h1,h2,hw,hx,hz,hy⟩:=h
  exact⟨mean_ge h0 h1 h2 hw hd hz k0.1 k1.1 k2.1,mean_le h0 h1 h2 hw hd hz k0.2 k1.2 k2.2⟩
def crI (ax az bx bz px pz:Int):Int:=(bx - ax)*(pz - az) - (bz - az)*(px - ax)
def s0 (T:TriR) (px pz:Int):Int:=crI T.x0 T.z0 T.x1 T.z1 px pz
def s1 (T:TriR) (px pz:Int):Int:=crI T.x1 T.z1 T.x2 T.z2 px pz
def s2 (T:TriR) (px pz:Int):Int:=crI T.x2 T.z2 T.x0 T.z0 px pz
def insB (T:TriR) (px pz:Int):Bool:=(min (min (min 0 (s0 T px pz)) (s1 T px pz)) (s2 T px pz)==0)||(max (max (max 0 (s0 T px pz)) (s1 T px pz)) (s2 T px pz)==0)
theorem insB_iff (T:TriR) (px pz:Int):insB T px pz=true↔(0≤s0 T px pz∧0≤s1 T px pz∧0≤s2 T px pz)∨(s0 T px pz≤0∧s1 T px pz≤0∧s2 T px pz≤0):=by
  unfold insB
  simp only[Bool.or_eq_true,beq_iff_eq]
  omega
theorem s_sum (T:TriR) (px pz:Int):s0 T px pz+s1 T px pz+s2 T px pz = -tny T:=by
  unfold s0 s1 s2 crI tny nyI;grind
theorem hT_ok {T:TriR} (hk:okT T=true) {px pz:Int} (hx : -64≤px∧px≤64) (hz : -64≤pz∧pz≤64) :
    hnT T px pz=lowN (hTop px pz T.x0 T.y0 T.z0 (tnx T) (tny T) (tnz T)) (tny T)∧hdT T px pz=lowD (hTop px pz T.x0 T.y0 T.z0 (tnx T) (tny T) (tnz T)) (tny T)∧heightE px pz T.x0 T.y0 T.z0 T.x1 T.y1 T.z1 T.x2 T.y2 T.z2=0:=by
  unfold okT at hk
  exact height_yes (by unfold hOkB;rw[hk,decide_eq_true hx,decide_eq_true hz];rfl)
theorem low_two {n d:Int} (hd:d≠0):low 0 0 n d=⟨0,0,lowN n d,lowD n d⟩:=by
  obtain⟨q0,h1,h2⟩:=low_div (n:=n) hd rfl
  have e:cg 0 0 n d=Int.gcd d n:=by unfold cg Int.gcd;simp
  unfold low
  rw[e,h1,h2]
  simp
theorem low_gcd {n d:Int} (hd:d≠0):Nat.gcd (lowD n d).natAbs (lowN n d).natAbs=1:=by
  have h:=(low_prim (x:=0) (z:=0) (y:=n) hd).2
  rw[low_two hd]at h
  unfold cg at h
  simpa using h
def abC (T:TriR) (px pz:Int):Co:=⟨px*hdT T px pz,pz*hdT T px pz,hnT T px pz,hdT T px pz⟩
def aboveO (T:TriR) (p:Int×Int):Option Co:=if insB T p.1 p.2 then some (abC T p.1 p.2)else none
theorem ok_ny {T:TriR} (hk:okT T=true):tny T≠0:=(ok_st hk).2
theorem ok_in {T:TriR} (hk:okT T=true):StP 32 32 T.x0 T.y0 T.z0 T.x1 T.y1 T.z1 T.x2 T.y2 T.z2:=(ok_st hk).1
theorem abC_prim {T:TriR} (hk:okT T=true) {px pz:Int} (hx : -64≤px∧px≤64) (hz : -64≤pz∧pz≤64):Prim (abC T px pz):=by
  have hn:=ok_ny hk
  obtain⟨e1,e2,-⟩:=hT_ok hk hx hz
  unfold abC
  rw[e1,e2]
  refine⟨(low_spec hn).1,?_⟩
  have g:=low_gcd (n:=hTop px pz T.x0 T.y0 T.z0 (tnx T) (tny T) (tnz T)) hn
  show cg _ _ _ _=1
  unfold cg
  simp only[]
  generalize lowD _ _=D at *
  generalize lowN _ _=N at *
  rw[Int.natAbs_mul,Nat.gcd_mul_left_right,Int.natAbs_mul,Nat.gcd_mul_left_right,g]
theorem abC_pl {T:TriR} (hk:okT T=true) {px pz:Int} (hx : -64≤px∧px≤64) (hz : -64≤pz∧pz≤64):Pl T (abC T px pz):=by
  have hn:=ok_ny hk
  obtain⟨e1,e2,-⟩:=hT_ok hk hx hz
  have h:=(low_spec (n:=hTop px pz T.x0 T.y0 T.z0 (tnx T) (tny T) (tnz T)) hn).2.1
  unfold Pl abC
  rw[e1,e2]
  simp only[]
  generalize lowD _ _=D at *
  generalize lowN _ _=N at *
  unfold hTop at h
  grind
theorem abC_bd {T:TriR} (hk:okT T=true) {px pz:Int} (hx : -64≤px∧px≤64) (hz : -64≤pz∧pz≤64):(1≤hdT T px pz∧hdT T px pz≤2048)∧(-1073741824≤hnT T px pz∧hnT T px pz≤1073741824):=by
  have hn:=ok_ny hk
  have hs:=ok_in hk
  obtain⟨bx,by',bz⟩:=nI_bd hs
  obtain⟨e1,e2,-⟩:=hT_ok hk hx hz
  obtain⟨l1,-,l2,l3⟩:=low_spec (n:=hTop px pz T.x0 T.y0 T.z0 (tnx T) (tny T) (tnz T)) hn
  unfold StP StV at hs
  have p1:=mul_bd (a:=T.y0) (b:=tny T) (A:=2048) (B:=2048) (by omega) by'
  have p2:=mul_bd (a:=tnx T) (b:=px - T.x0) (A:=262144) (B:=96) bx (by omega)
  have p3:=mul_bd (a:=tnz T) (b:=pz - T.z0) (A:=262144) (B:=96) bz (by omega)
  rw[e1,e2]
  have:(tny T).natAbs≤2048:=by unfold tny;omega
  have:(hTop px pz T.x0 T.y0 T.z0 (tnx T) (tny T) (tnz T)).natAbs≤1073741824:=by unfold hTop;omega
  omega
theorem abC_ok {T:TriR} (hk:okT T=true) {px pz:Int} (hx : -64≤px∧px≤64) (hz : -64≤pz∧pz≤64):Okc (abC T px pz):=by
  obtain⟨h1,h2⟩:=abC_bd hk hx hz
  have p1:=mul_bd (a:=px) (b:=hdT T px pz) (A:=64) (B:=2048) hx (by omega)
  have p2:=mul_bd (a:=pz) (b:=hdT T px pz) (A:=64) (B:=2048) hz (by omega)
  unfold Okc abC
  simp only[]
  omega
theorem cv_of {T:TriR} {c:Co} (hn:tny T≠0) (hp:Pl T c) {u0 u1 u2:Int} (h0:0≤u0) (h1:0≤u1) (h2:0≤u2) (hw:0<u0+u1+u2) (hx:(u0+u1+u2)*c.x=c.d*(u0*T.x0+u1*T.x1+u2*T.x2)) (hz:(u0+u1+u2)*c.z=c.d*(u0*T.z0+u1*T.z1+u2*T.z2)):Cv T c:=by
  refine⟨u0,u1,u2,h0,h1,h2,hw,hx,hz,?_⟩
  apply Int.eq_of_mul_eq_mul_left hn
  unfold Pl at hp
  have e1:tny T*(T.y1 - T.y0)+tnx T*(T.x1 - T.x0)+tnz T*(T.z1 - T.z0)=0:=by unfold tnx tny tnz nxI nyI nzI;grind
  have e2:tny T*(T.y2 - T.y0)+tnx T*(T.x2 - T.x0)+tnz T*(T.z2 - T.z0)=0:=by unfold tnx tny tnz nxI nyI nzI;grind
  have e3:tny T*(u0*T.y0+u1*T.y1+u2*T.y2)=(u0+u1+u2)*(tny T*T.y0) - tnx T*(u0*T.x0+u1*T.x1+u2*T.x2 - (u0+u1+u2)*T.x0) - tnz T*(u0*T.z0+u1*T.z1+u2*T.z2 - (u0+u1+u2)*T.z0):=by
    have f1:u1*(tny T*(T.y1 - T.y0)+tnx T*(T.x1 - T.x0)+tnz T*(T.z1 - T.z0))=0:=by rw[e1,Int.mul_zero]
    have f2:u2*(tny T*(T.y2 - T.y0)+tnx T*(T.x2 - T.x0)+tnz T*(T.z2 - T.z0))=0:=by rw[e2,Int.mul_zero]
    clear e1 e2 hp hx hz hn
    grind
  have e4:tny T*((u0+u1+u2)*c.y)=(u0+u1+u2)*(tny T*c.y):=by grind
  have e5:tny T*(c.d*(u0*T.y0+u1*T.y1+u2*T.y2))=c.d*(tny T*(u0*T.y0+u1*T.y1+u2*T.y2)):=by grind
  rw[e4,e5,hp,e3]
  have e6:(u0+u1+u2)*(tny T*T.y0*c.d - tnx T*(c.x - T.x0*c.d) - tnz T*(c.z - T.z0*c.d))=(u0+u1+u2)*(tny T*T.y0*c.d) - tnx T*((u0+u1+u2)*c.x - (u0+u1+u2)*T.x0*c.d) - tnz T*((u0+u1+u2)*c.z - (u0+u1+u2)*T.z0*c.d):=by clear hp hx hz e1 e2 e3 e4 e5 hn;grind
  rw[e6,hx,hz]
  clear hp hx hz e1 e2 e3 e4 e5 e6 hn
  grind
theorem abC_cv {T:TriR} (hk:okT T=true) {px pz:Int} (hx : -64≤px∧px≤64) (hz : -64≤pz∧pz≤64) (hi:insB T px pz=true):Cv T (abC T px pz):=by
  have hn:=ok_ny hk
  have hp:=abC_pl hk hx hz
  have hs:=s_sum T px pz
  rcases(insB_iff T px pz).1 hi with ⟨k0,k1,k2⟩|⟨k0,k1,k2⟩
  · refine cv_of hn hp (u0:=s1 T px pz) (u1:=s2 T px pz) (u2:=s0 T px pz) k1 k2 k0 (by omega) ?_ ?_
    · show _*(px*hdT T px pz)=hdT T px pz*_
      unfold s0 s1 s2 crI;grind
    · show _*(pz*hdT T px pz)=hdT T px pz*_
      unfold s0 s1 s2 crI;grind
  · refine cv_of hn hp (u0 := -s1 T px pz) (u1 := -s2 T px pz) (u2 := -s0 T px pz) (by omega) (by omega) (by omega) (by omega) ?_ ?_
    · show _*(px*hdT T px pz)=hdT T px pz*_
      unfold s0 s1 s2 crI;grind
    · show _*(pz*hdT T px pz)=hdT T px pz*_
      unfold s0 s1 s2 crI;grind
structure Ln where
  (bx bz at':Int)
instance:Inhabited Ln:=⟨⟨0,0,0⟩⟩
def Ln.off (l:Ln) (vx vz:Int):Int:=l.bx*vx+l.bz*vz - l.at'
structure Sd where
  (ax ay az bx by' bz:Int)
def Sd.p (s:Sd) (l:Ln):Int:=l.off s.ax s.az
def Sd.q (s:Sd) (l:Ln):Int:=l.off s.bx s.bz
def crC (s:Sd) (l:Ln):Co:=low (s.p l*s.bx - s.q l*s.ax) (s.p l*s.bz - s.q l*s.az) (s.p l*s.by' - s.q l*s.ay) (s.p l - s.q l)
def crossO (s:Sd) (l:Ln):Option Co:=if (s.p l).sign=(s.q l).sign then none else some (crC s l)
def side (T:TriR):Nat→Sd
  | 0=>⟨T.x0,T.y0,T.z0,T.x1,T.y1,T.z1⟩
  | 1=>⟨T.x1,T.y1,T.z1,T.x2,T.y2,T.z2⟩
  | _=>⟨T.x2,T.y2,T.z2,T.x0,T.y0,T.z0⟩
theorem sg_ne {p q:Int} (h:p.sign≠q.sign):p - q≠0∧((0≤p∧q≤0)∨(p≤0∧0≤q)):=by
  rcases Int.lt_trichotomy p 0 with k|k|k <;> rcases Int.lt_trichotomy q 0 with m|m|m
  · rw[Int.sign_eq_neg_one_of_neg k,Int.sign_eq_neg_one_of_neg m]at h;exact absurd rfl h
  · omega
  · omega
  · omega
  · subst k;subst m;exact absurd rfl h
  · omega
  · omega
  · omega
  · rw[Int.sign_eq_one_of_pos k,Int.sign_eq_one_of_pos m]at h;exact absurd rfl h
theorem crC_at {s:Sd} {l:Ln} (h:(s.p l).sign≠(s.q l).sign):Prim (crC s l)∧(crC s l).x*(s.p l - s.q l)=(s.p l*s.bx - s.q l*s.ax)*(crC s l).d∧(crC s l).z*(s.p l - s.q l)=(s.p l*s.bz - s.q l*s.az)*(crC s l).d∧(crC s l).y*(s.p l - s.q l)=(s.p l*s.by' - s.q l*s.ay)*(crC s l).d :=
  ⟨low_prim (sg_ne h).1,low_at (sg_ne h).1⟩
theorem cv_side {T:TriR} {c:Co} (i:Nat) {u v:Int} (hu:0≤u) (hv:0≤v) (hw:0<u+v) (hx:(u+v)*c.x=c.d*(u*(side T i).ax+v*(side T i).bx)) (hz:(u+v)*c.z=c.d*(u*(side T i).az+v*(side T i).bz)) (hy:(u+v)*c.y=c.d*(u*(side T i).ay+v*(side T i).by')):Cv T c:=by
  match i,hx,hz,hy with
  | 0,hx,hz,hy=>exact⟨u,v,0,hu,hv,Int.le_refl _,by omega,by simpa [side]using hx,by simpa [side]using hz,by simpa [side]using hy⟩
  | 1,hx,hz,hy=>exact⟨0,u,v,Int.le_refl _,hu,hv,by omega,by simpa [side]using hx,by simpa [side]using hz,by simpa [side]using hy⟩
  | k+2,hx,hz,hy=>exact⟨v,0,u,hv,Int.le_refl _,hu,by omega,by simp[side]at hx ⊢;grind,by simp[side]at hz ⊢;grind,by simp[side]at hy ⊢;grind⟩
theorem crC_cv {T:TriR} (i:Nat) {l:Ln} (h:((side T i).p l).sign≠((side T i).q l).sign):Cv T (crC (side T i) l):=by
  obtain⟨hp,hx,hz,hy⟩:=crC_at h
  obtain⟨hne,hpq⟩:=sg_ne h
  generalize (side T i).p l=p at *
  generalize (side T i).q l=q at *
  generalize crC (side T i) l=c at *
  rcases hpq with k|k
  · exact cv_side i (u := -q) (v:=p) (by omega) (by omega) (by omega) (by grind) (by grind) (by grind)
  · exact cv_side i (u:=q) (v := -p) (by omega) (by omega) (by omega) (by grind) (by grind) (by grind)
def holdsB (x z:Int) (c:Co):Bool:=decide (x*c.d≤c.x)&&decide (c.x≤(x+1)*c.d)&&decide (z*c.d≤c.z)&&decide (c.z≤(z+1)*c.d)
def gat {β:Type} (x z:Int) (f:β→Option Co) (l:List β):List Co:=l.filterMap fun b=>(f b).filter (holdsB x z)
def cornL (x z:Int):List (Int×Int):=[(x,z),(x+1,z),(x+1,z+1),(x,z+1)]
def lineL (x z:Int):List Ln:=[⟨1,0,x⟩,⟨1,0,x+1⟩,⟨0,1,z⟩,⟨0,1,z+1⟩]
def comL (T:TriR) (x z:Int):List Co:=gat x z (aboveO T) (cornL x z)++gat x z (crossO (side T 0)) (lineL x z)++gat x z (crossO (side T 1)) (lineL x z)++gat x z (crossO (side T 2)) (lineL x z)
theorem mem_gat {β:Type} {x z:Int} {f:β→Option Co} {l:List β} {c:Co}:c∈gat x z f l↔∃ b∈l,f b=some c∧holdsB x z c=true:=by
  unfold gat
  rw[List.mem_filterMap]
  constructor
  · rintro⟨b,hb,h⟩
    rw[Option.filter_eq_some_iff]at h
    exact⟨b,hb,h.1,h.2⟩
  · rintro⟨b,hb,h,h'⟩
    exact⟨b,hb,by rw[Option.filter_eq_some_iff];exact⟨h,h'⟩⟩
theorem holdsB_iff {x z:Int} {c:Co}:holdsB x z c=true↔(x*c.d≤c.x∧c.x≤(x+1)*c.d)∧(z*c.d≤c.z∧c.z≤(z+1)*c.d):=by
  unfold holdsB
  simp only[Bool.and_eq_true,decide_eq_true_eq,and_assoc]
theorem mem_comL {T:TriR} {x z:Int} {c:Co}:c∈comL T x z↔holdsB x z c=true∧((∃ p∈cornL x z,insB T p.1 p.2=true∧c=abC T p.1 p.2)∨∃ i,i<3∧∃ l∈lineL x z,((side T i).p l).sign≠((side T i).q l).sign∧c=crC (side T i) l):=by
  have ha:∀ p:Int×Int,aboveO T p=some c↔insB T p.1 p.2=true∧c=abC T p.1 p.2:=fun p=>by
    unfold aboveO
    split
    · rename_i h;simp[h,eq_comm]
    · rename_i h;simp[h]
  have hc:∀ (s:Sd) (l:Ln),crossO s l=some c↔(s.p l).sign≠(s.q l).sign∧c=crC s l:=fun s l=>by
    unfold crossO
    split
    · rename_i h;simp[h]
    · rename_i h;simp[h,eq_comm]
  unfold comL
  simp only[List.mem_append,mem_gat,ha,hc]
  constructor
  · rintro(((⟨b,hb,h,h'⟩|⟨b,hb,h,h'⟩)|⟨b,hb,h,h'⟩)|⟨b,hb,h,h'⟩)
    · exact⟨h',.inl ⟨b,hb,h⟩⟩
    · exact⟨h',.inr ⟨0,by omega,b,hb,h⟩⟩
    · exact⟨h',.inr ⟨1,by omega,b,hb,h⟩⟩
    · exact⟨h',.inr ⟨2,by omega,b,hb,h⟩⟩
  · rintro⟨h',⟨b,hb,h⟩|⟨i,hi,b,hb,h⟩⟩
    · exact .inl (.inl (.inl ⟨b,hb,h,h'⟩))
    · rcases(show i=0∨i=1∨i=2 by omega)with rfl|rfl|rfl
      · exact .inl (.inl (.inr ⟨b,hb,h,h'⟩))
      · exact .inl (.inr ⟨b,hb,h,h'⟩)
      · exact .inr ⟨b,hb,h,h'⟩
theorem corn_in {x z:Int} (hx : -1≤x∧x≤32) (hz : -1≤z∧z≤32) {p:Int×Int} (h:p∈cornL x z):(-1≤p.1∧p.1≤33)∧(-1≤p.2∧p.2≤33):=by
  unfold cornL at h
  simp only[List.mem_cons,List.not_mem_nil,or_false]at h
  rcases h with rfl|rfl|rfl|rfl <;> simp only[] <;> omega
theorem com_prim {T:TriR} (hk:okT T=true) {x z:Int} (hx : -1≤x∧x≤32) (hz : -1≤z∧z≤32) {c:Co} (h:c∈comL T x z):Prim c∧Cv T c:=by
  obtain⟨-,⟨p,hp,hi,rfl⟩|⟨i,-,l,-,hs,rfl⟩⟩:=mem_comL.1 h
  · have b:=corn_in hx hz hp
    exact⟨abC_prim hk (by omega) (by omega),abC_cv hk (by omega) (by omega) hi⟩
  · exact⟨(crC_at hs).1,crC_cv i hs⟩
theorem com_one {T:TriR} (hk:okT T=true) {a b:Co} (ha:Prim a∧Cv T a) (hb:Prim b∧Cv T b) (hx:a.x*b.d=b.x*a.d) (hz:a.z*b.d=b.z*a.d):a=b :=
  pl_one (ok_ny hk) (pl_of_cv ha.2) (pl_of_cv hb.2) ha.1 hb.1 hx hz
end Go.Proofs.YtmhghnbgllaihaaGreatDoor
