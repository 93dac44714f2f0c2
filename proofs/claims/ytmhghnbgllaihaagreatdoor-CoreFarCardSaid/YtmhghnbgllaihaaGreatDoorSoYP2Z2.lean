import Derived.Test.YtmhghnbgllaihaaGreatDoorRaMP2Z2
import Derived.Test.YtmhghnbgllaihaaGreatDoorTriGP2Z2
import Derived.Test.YtmhghnbgllaihaaGreatDoorSoXFP2Z2
import Derived.Test.YtmhghnbgllaihaaGreatDoorSoCBP2Z2
import Derived.Test.YtmhghnbgllaihaaGreatDoorSoETP2Z2
import Derived.Test.YtmhghnbgllaihaaGreatDoorLooseEP2Z2
import Derived.ChangeKeysEq
import Derived.OwnWalk
import Derived.Deep.LoopGhost
set_option linter.unusedVariables false
set_option maxHeartbeats 16000000

namespace Go.Proofs.YtmhghnbgllaihaaGreatDoor
open Go.RowKit
def okT (T:TriR):Bool:=okB T.x0 T.y0 T.z0 T.x1 T.y1 T.z1 T.x2 T.y2 T.z2
def tnx (T:TriR):Int:=nxI T.x0 T.y0 T.z0 T.x1 T.y1 T.z1 T.x2 T.y2 T.z2
def tny (T:TriR):Int:=nyI T.x0 T.y0 T.z0 T.x1 T.y1 T.z1 T.x2 T.y2 T.z2
def tnz (T:TriR):Int:=nzI T.x0 T.y0 T.z0 T.x1 T.y1 T.z1 T.x2 T.y2 T.z2
def hnT (T:TriR) (px pz:Int):Int:=heightN px pz T.x0 T.y0 T.z0 T.x1 T.y1 T.z1 T.x2 T.y2 T.z2
def hdT (T:TriR) (px pz:Int):Int:=heightD px pz T.x0 T.y0 T.z0 T.x1 T.y1 T.z1 T.x2 T.y2 T.z2
def Cv (T:TriR) (c:Co):Prop:=∃ u0 u1 u2:Int,0≤u0∧0≤u1∧0≤u2∧0<u0+u1+u2 ∧
 (u0+u1+u2)*c.x=c.d*(u0*T.x0+u1*T.x1+u2*T.x2)∧(u0+u1+u2)*c.z=c.d*(u0*T.z0+u1*T.z1+u2*T.z2)∧(u0+u1+u2)*c.y=c.d*(u0*T.y0+u1*T.y1+u2*T.y2)
def Pl (T:TriR) (c:Co):Prop:=tny T*c.y=tny T*T.y0*c.d - tnx T*(c.x - T.x0*c.d) - tnz T*(c.z - T.z0*c.d)
theorem pl_of_cv {T:TriR} {c:Co} (h:Cv T c):Pl T c:=by
 obtain⟨u0,u1,u2,-,-,-,hw,hx,hz,hy⟩:=h
 unfold Pl tnx tny tnz nxI nyI nzI
 obtain⟨i,x0,y0,z0,x1,y1,z1,x2,y2,z2⟩:=T
 obtain⟨x,z,y,d⟩:=c
 simp only at *
 have hw0:u0+u1+u2≠0:=by omega
 apply Int.eq_of_mul_eq_mul_left hw0
 grind
theorem pl_one {T:TriR} {a b:Co} (hn:tny T≠0) (ha:Pl T a) (hb:Pl T b) (pa:Prim a) (pb:Prim b) (hx:a.x*b.d=b.x*a.d) (hz:a.z*b.d=b.z*a.d):a=b:=by
 refine prim_one pa pb hx hz ?_
 unfold Pl at ha hb
 apply Int.eq_of_mul_eq_mul_left hn
 generalize tny T=n at *
 generalize tnx T=k at *
 generalize tnz T=m at *
 obtain⟨x,z,y,d⟩:=a
 obtain⟨x',z',y',d'⟩:=b
 simp only at *
 grind
theorem mean_le {u0 u1 u2 c d v0 v1 v2 m:Int} (h0:0≤u0) (h1:0≤u1) (h2:0≤u2) (hw:0<u0+u1+u2) (hd:0<d) (h:(u0+u1+u2)*c=d*(u0*v0+u1*v1+u2*v2)) (k0:v0≤m) (k1:v1≤m) (k2:v2≤m):c≤m*d:=by
 have e0:=Int.mul_le_mul_of_nonneg_left k0 h0
 have e1:=Int.mul_le_mul_of_nonneg_left k1 h1
 have e2:=Int.mul_le_mul_of_nonneg_left k2 h2
 have e3:u0*v0+u1*v1+u2*v2≤(u0+u1+u2)*m:=by grind
 have e4:=Int.mul_le_mul_of_nonneg_left e3 (Int.le_of_lt hd)
 have e5:(u0+u1+u2)*c≤(u0+u1+u2)*(m*d):=by rw[h];grind
 exact Int.le_of_mul_le_mul_left e5 hw
theorem mean_ge {u0 u1 u2 c d v0 v1 v2 m:Int} (h0:0≤u0) (h1:0≤u1) (h2:0≤u2) (hw:0<u0+u1+u2) (hd:0<d) (h:(u0+u1+u2)*c=d*(u0*v0+u1*v1+u2*v2)) (k0:m≤v0) (k1:m≤v1) (k2:m≤v2):m*d≤c:=by
 have:=mean_le (c := -c) (v0 := -v0) (v1 := -v1) (v2 := -v2) (m := -m) h0 h1 h2 hw hd (by grind) (by omega) (by omega) (by omega)
 rw[Int.neg_mul]at this
 omega
theorem cv_y {T:TriR} {c:Co} (h:Cv T c) (hd:0<c.d) {a b:Int} (k0:a≤T.y0∧T.y0≤b) (k1:a≤T.y1∧T.y1≤b) (k2:a≤T.y2∧T.y2≤b):a*c.d≤c.y∧c.y≤b*c.d:=by
 obtain⟨u0,u1,u2,h0,h1,h2,hw,hx,hz,hy⟩:=h
 exact⟨mean_ge h0 h1 h2 hw hd hy k0.1 k1.1 k2.1,mean_le h0 h1 h2 hw hd hy k0.2 k1.2 k2.2⟩
theorem cv_x {T:TriR} {c:Co} (h:Cv T c) (hd:0<c.d) {a b:Int} (k0:a≤T.x0∧T.x0≤b) (k1:a≤T.x1∧T.x1≤b) (k2:a≤T.x2∧T.x2≤b):a*c.d≤c.x∧c.x≤b*c.d:=by
 obtain⟨u0,u1,u2,h0,h1,h2,hw,hx,hz,hy⟩:=h
 exact⟨mean_ge h0 h1 h2 hw hd hx k0.1 k1.1 k2.1,mean_le h0 h1 h2 hw hd hx k0.2 k1.2 k2.2⟩
theorem cv_z {T:TriR} {c:Co} (h:Cv T c) (hd:0<c.d) {a b:Int} (k0:a≤T.z0∧T.z0≤b) (k1:a≤T.z1∧T.z1≤b) (k2:a≤T.z2∧T.z2≤b):a*c.d≤c.z∧c.z≤b*c.d:=by
 obtain⟨u0,u1,u2,h0,h1,h2,hw,hx,hz,hy⟩:=h
 exact⟨mean_ge h0 h1 h2 hw hd hz k0.1 k1.1 k2.1,mean_le h0 h1 h2 hw hd hz k0.2 k1.2 k2.2⟩
def crI (ax az bx bz px pz:Int):Int:=(bx - ax)*(pz - az) - (bz - az)*(px - ax)
def s0 (T:TriR) (px pz:Int):Int:=crI T.x0 T.z0 T.x1 T.z1 px pz
def s1 (T:TriR) (px pz:Int):Int:=crI T.x1 T.z1 T.x2 T.z2 px pz
def s2 (T:TriR) (px pz:Int):Int:=crI T.x2 T.z2 T.x0 T.z0 px pz
def insB (T:TriR) (px pz:Int):Bool:=(min (min (min 0 (s0 T px pz)) (s1 T px pz)) (s2 T px pz)==0)||(max (max (max 0 (s0 T px pz)) (s1 T px pz)) (s2 T px pz)==0)
theorem insB_iff (T:TriR) (px pz:Int):insB T px pz=true↔(0≤s0 T px pz∧0≤s1 T px pz∧0≤s2 T px pz)∨(s0 T px pz≤0∧s1 T px pz≤0∧s2 T px pz≤0):=by
 unfold insB
 simp only[Bool.or_eq_true,beq_iff_eq]
 omega
theorem s_sum (T:TriR) (px pz:Int):s0 T px pz+s1 T px pz+s2 T px pz = -tny T:=by
 unfold s0 s1 s2 crI tny nyI;grind
theorem hT_ok {T:TriR} (hk:okT T=true) {px pz:Int} (hx : -64≤px∧px≤64) (hz : -64≤pz∧pz≤64) :
  hnT T px pz=lowN (hTop px pz T.x0 T.y0 T.z0 (tnx T) (tny T) (tnz T)) (tny T)∧hdT T px pz=lowD (hTop px pz T.x0 T.y0 T.z0 (tnx T) (tny T) (tnz T)) (tny T)∧heightE px pz T.x0 T.y0 T.z0 T.x1 T.y1 T.z1 T.x2 T.y2 T.z2=0:=by
 unfold okT at hk
 exact height_yes (by unfold hOkB;rw[hk,decide_eq_true hx,decide_eq_true hz];rfl)
theorem low_two {n d:Int} (hd:d≠0):low 0 0 n d=⟨0,0,lowN n d,lowD n d⟩:=by
 obtain⟨q0,h1,h2⟩:=low_div (n:=n) hd rfl
 have e:cg 0 0 n d=Int.gcd d n:=by unfold cg Int.gcd;simp
 unfold low
 rw[e,h1,h2]
 simp
theorem low_gcd {n d:Int} (hd:d≠0):Nat.gcd (lowD n d).natAbs (lowN n d).natAbs=1:=by
 have h:=(low_prim (x:=0) (z:=0) (y:=n) hd).2
 rw[low_two hd]at h
 unfold cg at h
 simpa using h
def abC (T:TriR) (px pz:Int):Co:=⟨px*hdT T px pz,pz*hdT T px pz,hnT T px pz,hdT T px pz⟩
def aboveO (T:TriR) (p:Int×Int):Option Co:=if insB T p.1 p.2 then some (abC T p.1 p.2)else none
theorem ok_ny {T:TriR} (hk:okT T=true):tny T≠0:=(ok_st hk).2
theorem ok_in {T:TriR} (hk:okT T=true):StP 32 32 T.x0 T.y0 T.z0 T.x1 T.y1 T.z1 T.x2 T.y2 T.z2:=(ok_st hk).1
theorem abC_prim {T:TriR} (hk:okT T=true) {px pz:Int} (hx : -64≤px∧px≤64) (hz : -64≤pz∧pz≤64):Prim (abC T px pz):=by
 have hn:=ok_ny hk
 obtain⟨e1,e2,-⟩:=hT_ok hk hx hz
 unfold abC
 rw[e1,e2]
 refine⟨(low_spec hn).1,?_⟩
 have g:=low_gcd (n:=hTop px pz T.x0 T.y0 T.z0 (tnx T) (tny T) (tnz T)) hn
 show cg _ _ _ _=1
 unfold cg
 simp only[]
 generalize lowD _ _=D at *
 generalize lowN _ _=N at *
 rw[Int.natAbs_mul,Nat.gcd_mul_left_right,Int.natAbs_mul,Nat.gcd_mul_left_right,g]
theorem abC_pl {T:TriR} (hk:okT T=true) {px pz:Int} (hx : -64≤px∧px≤64) (hz : -64≤pz∧pz≤64):Pl T (abC T px pz):=by
 have hn:=ok_ny hk
 obtain⟨e1,e2,-⟩:=hT_ok hk hx hz
 have h:=(low_spec (n:=hTop px pz T.x0 T.y0 T.z0 (tnx T) (tny T) (tnz T)) hn).2.1
 unfold Pl abC
 rw[e1,e2]
 simp only[]
 generalize lowD _ _=D at *
 generalize lowN _ _=N at *
 unfold hTop at h
 grind
theorem abC_bd {T:TriR} (hk:okT T=true) {px pz:Int} (hx : -64≤px∧px≤64) (hz : -64≤pz∧pz≤64):(1≤hdT T px pz∧hdT T px pz≤2048)∧(-1073741824≤hnT T px pz∧hnT T px pz≤1073741824):=by
 have hn:=ok_ny hk
 have hs:=ok_in hk
 obtain⟨bx,by',bz⟩:=nI_bd hs
 obtain⟨e1,e2,-⟩:=hT_ok hk hx hz
 obtain⟨l1,-,l2,l3⟩:=low_spec (n:=hTop px pz T.x0 T.y0 T.z0 (tnx T) (tny T) (tnz T)) hn
 unfold StP StV at hs
 have p1:=mul_bd (a:=T.y0) (b:=tny T) (A:=2048) (B:=2048) (by omega) by'
 have p2:=mul_bd (a:=tnx T) (b:=px - T.x0) (A:=262144) (B:=96) bx (by omega)
 have p3:=mul_bd (a:=tnz T) (b:=pz - T.z0) (A:=262144) (B:=96) bz (by omega)
 rw[e1,e2]
 have:(tny T).natAbs≤2048:=by unfold tny;omega
 have:(hTop px pz T.x0 T.y0 T.z0 (tnx T) (tny T) (tnz T)).natAbs≤1073741824:=by unfold hTop;omega
 omega
theorem abC_ok {T:TriR} (hk:okT T=true) {px pz:Int} (hx : -64≤px∧px≤64) (hz : -64≤pz∧pz≤64):Okc (abC T px pz):=by
 obtain⟨h1,h2⟩:=abC_bd hk hx hz
 have p1:=mul_bd (a:=px) (b:=hdT T px pz) (A:=64) (B:=2048) hx (by omega)
 have p2:=mul_bd (a:=pz) (b:=hdT T px pz) (A:=64) (B:=2048) hz (by omega)
 unfold Okc abC
 simp only[]
 omega
theorem cv_of {T:TriR} {c:Co} (hn:tny T≠0) (hp:Pl T c) {u0 u1 u2:Int} (h0:0≤u0) (h1:0≤u1) (h2:0≤u2) (hw:0<u0+u1+u2) (hx:(u0+u1+u2)*c.x=c.d*(u0*T.x0+u1*T.x1+u2*T.x2)) (hz:(u0+u1+u2)*c.z=c.d*(u0*T.z0+u1*T.z1+u2*T.z2)):Cv T c:=by
 refine⟨u0,u1,u2,h0,h1,h2,hw,hx,hz,?_⟩
 apply Int.eq_of_mul_eq_mul_left hn
 unfold Pl at hp
 have e1:tny T*(T.y1 - T.y0)+tnx T*(T.x1 - T.x0)+tnz T*(T.z1 - T.z0)=0:=by unfold tnx tny tnz nxI nyI nzI;grind
 have e2:tny T*(T.y2 - T.y0)+tnx T*(T.x2 - T.x0)+tnz T*(T.z2 - T.z0)=0:=by unfold tnx tny tnz nxI nyI nzI;grind
 have e3:tny T*(u0*T.y0+u1*T.y1+u2*T.y2)=(u0+u1+u2)*(tny T*T.y0) - tnx T*(u0*T.x0+u1*T.x1+u2*T.x2 - (u0+u1+u2)*T.x0) - tnz T*(u0*T.z0+u1*T.z1+u2*T.z2 - (u0+u1+u2)*T.z0):=by
  have f1:u1*(tny T*(T.y1 - T.y0)+tnx T*(T.x1 - T.x0)+tnz T*(T.z1 - T.z0))=0:=by rw[e1,Int.mul_zero]
  have f2:u2*(tny T*(T.y2 - T.y0)+tnx T*(T.x2 - T.x0)+tnz T*(T.z2 - T.z0))=0:=by rw[e2,Int.mul_zero]
  clear e1 e2 hp hx hz hn
  grind
 have e4:tny T*((u0+u1+u2)*c.y)=(u0+u1+u2)*(tny T*c.y):=by grind
 have e5:tny T*(c.d*(u0*T.y0+u1*T.y1+u2*T.y2))=c.d*(tny T*(u0*T.y0+u1*T.y1+u2*T.y2)):=by grind
 rw[e4,e5,hp,e3]
 have e6:(u0+u1+u2)*(tny T*T.y0*c.d - tnx T*(c.x - T.x0*c.d) - tnz T*(c.z - T.z0*c.d))=(u0+u1+u2)*(tny T*T.y0*c.d) - tnx T*((u0+u1+u2)*c.x - (u0+u1+u2)*T.x0*c.d) - tnz T*((u0+u1+u2)*c.z - (u0+u1+u2)*T.z0*c.d):=by clear hp hx hz e1 e2 e3 e4 e5 hn;grind
 rw[e6,hx,hz]
 clear hp hx hz e1 e2 e3 e4 e5 e6 hn
 grind
theorem abC_cv {T:TriR} (hk:okT T=true) {px pz:Int} (hx : -64≤px∧px≤64) (hz : -64≤pz∧pz≤64) (hi:insB T px pz=true):Cv T (abC T px pz):=by
 have hn:=ok_ny hk
 have hp:=abC_pl hk hx hz
 have hs:=s_sum T px pz
 rcases(insB_iff T px pz).1 hi with ⟨k0,k1,k2⟩|⟨k0,k1,k2⟩
 ·refine cv_of hn hp (u0:=s1 T px pz) (u1:=s2 T px pz) (u2:=s0 T px pz) k1 k2 k0 (by omega) ?_ ?_
  ·show _*(px*hdT T px pz)=hdT T px pz*_
   unfold s0 s1 s2 crI;grind
  ·show _*(pz*hdT T px pz)=hdT T px pz*_
   unfold s0 s1 s2 crI;grind
 ·refine cv_of hn hp (u0 := -s1 T px pz) (u1 := -s2 T px pz) (u2 := -s0 T px pz) (by omega) (by omega) (by omega) (by omega) ?_ ?_
  ·show _*(px*hdT T px pz)=hdT T px pz*_
   unfold s0 s1 s2 crI;grind
  ·show _*(pz*hdT T px pz)=hdT T px pz*_
   unfold s0 s1 s2 crI;grind
structure Ln where
 (bx bz at':Int)
instance:Inhabited Ln:=⟨⟨0,0,0⟩⟩
def Ln.off (l:Ln) (vx vz:Int):Int:=l.bx*vx+l.bz*vz - l.at'
structure Sd where
 (ax ay az bx by' bz:Int)
def Sd.p (s:Sd) (l:Ln):Int:=l.off s.ax s.az
def Sd.q (s:Sd) (l:Ln):Int:=l.off s.bx s.bz
def crC (s:Sd) (l:Ln):Co:=low (s.p l*s.bx - s.q l*s.ax) (s.p l*s.bz - s.q l*s.az) (s.p l*s.by' - s.q l*s.ay) (s.p l - s.q l)
def crossO (s:Sd) (l:Ln):Option Co:=if (s.p l).sign=(s.q l).sign then none else some (crC s l)
def side (T:TriR):Nat→Sd
 | 0=>⟨T.x0,T.y0,T.z0,T.x1,T.y1,T.z1⟩
 | 1=>⟨T.x1,T.y1,T.z1,T.x2,T.y2,T.z2⟩
 | _=>⟨T.x2,T.y2,T.z2,T.x0,T.y0,T.z0⟩
theorem sg_ne {p q:Int} (h:p.sign≠q.sign):p - q≠0∧((0≤p∧q≤0)∨(p≤0∧0≤q)):=by
 rcases Int.lt_trichotomy p 0 with k|k|k <;> rcases Int.lt_trichotomy q 0 with m|m|m
 ·rw[Int.sign_eq_neg_one_of_neg k,Int.sign_eq_neg_one_of_neg m]at h;exact absurd rfl h
 ·omega
 ·omega
 ·omega
 ·subst k;subst m;exact absurd rfl h
 ·omega
 ·omega
 ·omega
 ·rw[Int.sign_eq_one_of_pos k,Int.sign_eq_one_of_pos m]at h;exact absurd rfl h
theorem crC_at {s:Sd} {l:Ln} (h:(s.p l).sign≠(s.q l).sign):Prim (crC s l)∧(crC s l).x*(s.p l - s.q l)=(s.p l*s.bx - s.q l*s.ax)*(crC s l).d∧(crC s l).z*(s.p l - s.q l)=(s.p l*s.bz - s.q l*s.az)*(crC s l).d∧(crC s l).y*(s.p l - s.q l)=(s.p l*s.by' - s.q l*s.ay)*(crC s l).d :=
 ⟨low_prim (sg_ne h).1,low_at (sg_ne h).1⟩
theorem cv_side {T:TriR} {c:Co} (i:Nat) {u v:Int} (hu:0≤u) (hv:0≤v) (hw:0<u+v) (hx:(u+v)*c.x=c.d*(u*(side T i).ax+v*(side T i).bx)) (hz:(u+v)*c.z=c.d*(u*(side T i).az+v*(side T i).bz)) (hy:(u+v)*c.y=c.d*(u*(side T i).ay+v*(side T i).by')):Cv T c:=by
 match i,hx,hz,hy with
 | 0,hx,hz,hy=>exact⟨u,v,0,hu,hv,Int.le_refl _,by omega,by simpa [side]using hx,by simpa [side]using hz,by simpa [side]using hy⟩
 | 1,hx,hz,hy=>exact⟨0,u,v,Int.le_refl _,hu,hv,by omega,by simpa [side]using hx,by simpa [side]using hz,by simpa [side]using hy⟩
 | k+2,hx,hz,hy=>exact⟨v,0,u,hv,Int.le_refl _,hu,by omega,by simp[side]at hx ⊢;grind,by simp[side]at hz ⊢;grind,by simp[side]at hy ⊢;grind⟩
theorem crC_cv {T:TriR} (i:Nat) {l:Ln} (h:((side T i).p l).sign≠((side T i).q l).sign):Cv T (crC (side T i) l):=by
 obtain⟨hp,hx,hz,hy⟩:=crC_at h
 obtain⟨hne,hpq⟩:=sg_ne h
 generalize (side T i).p l=p at *
 generalize (side T i).q l=q at *
 generalize crC (side T i) l=c at *
 rcases hpq with k|k
 ·exact cv_side i (u := -q) (v:=p) (by omega) (by omega) (by omega) (by grind) (by grind) (by grind)
 ·exact cv_side i (u:=q) (v := -p) (by omega) (by omega) (by omega) (by grind) (by grind) (by grind)
def holdsB (x z:Int) (c:Co):Bool:=decide (x*c.d≤c.x)&&decide (c.x≤(x+1)*c.d)&&decide (z*c.d≤c.z)&&decide (c.z≤(z+1)*c.d)
def gat {β:Type} (x z:Int) (f:β→Option Co) (l:List β):List Co:=l.filterMap fun b=>(f b).filter (holdsB x z)
def cornL (x z:Int):List (Int×Int):=[(x,z),(x+1,z),(x+1,z+1),(x,z+1)]
def lineL (x z:Int):List Ln:=[⟨1,0,x⟩,⟨1,0,x+1⟩,⟨0,1,z⟩,⟨0,1,z+1⟩]
def comL (T:TriR) (x z:Int):List Co:=gat x z (aboveO T) (cornL x z)++gat x z (crossO (side T 0)) (lineL x z)++gat x z (crossO (side T 1)) (lineL x z)++gat x z (crossO (side T 2)) (lineL x z)
theorem mem_gat {β:Type} {x z:Int} {f:β→Option Co} {l:List β} {c:Co}:c∈gat x z f l↔∃ b∈l,f b=some c∧holdsB x z c=true:=by
 unfold gat
 rw[List.mem_filterMap]
 constructor
 ·rintro⟨b,hb,h⟩
  rw[Option.filter_eq_some_iff]at h
  exact⟨b,hb,h.1,h.2⟩
 ·rintro⟨b,hb,h,h'⟩
  exact⟨b,hb,by rw[Option.filter_eq_some_iff];exact⟨h,h'⟩⟩
theorem holdsB_iff {x z:Int} {c:Co}:holdsB x z c=true↔(x*c.d≤c.x∧c.x≤(x+1)*c.d)∧(z*c.d≤c.z∧c.z≤(z+1)*c.d):=by
 unfold holdsB
 simp only[Bool.and_eq_true,decide_eq_true_eq,and_assoc]
theorem mem_comL {T:TriR} {x z:Int} {c:Co}:c∈comL T x z↔holdsB x z c=true∧((∃ p∈cornL x z,insB T p.1 p.2=true∧c=abC T p.1 p.2)∨∃ i,i<3∧∃ l∈lineL x z,((side T i).p l).sign≠((side T i).q l).sign∧c=crC (side T i) l):=by
 have ha:∀ p:Int×Int,aboveO T p=some c↔insB T p.1 p.2=true∧c=abC T p.1 p.2:=fun p=>by
  unfold aboveO
  split
  ·rename_i h;simp[h,eq_comm]
  ·rename_i h;simp[h]
 have hc:∀ (s:Sd) (l:Ln),crossO s l=some c↔(s.p l).sign≠(s.q l).sign∧c=crC s l:=fun s l=>by
  unfold crossO
  split
  ·rename_i h;simp[h]
  ·rename_i h;simp[h,eq_comm]
 unfold comL
 simp only[List.mem_append,mem_gat,ha,hc]
 constructor
 ·rintro(((⟨b,hb,h,h'⟩|⟨b,hb,h,h'⟩)|⟨b,hb,h,h'⟩)|⟨b,hb,h,h'⟩)
  ·exact⟨h',.inl ⟨b,hb,h⟩⟩
  ·exact⟨h',.inr ⟨0,by omega,b,hb,h⟩⟩
  ·exact⟨h',.inr ⟨1,by omega,b,hb,h⟩⟩
  ·exact⟨h',.inr ⟨2,by omega,b,hb,h⟩⟩
 ·rintro⟨h',⟨b,hb,h⟩|⟨i,hi,b,hb,h⟩⟩
  ·exact .inl (.inl (.inl ⟨b,hb,h,h'⟩))
  ·rcases(show i=0∨i=1∨i=2 by omega)with rfl|rfl|rfl
   ·exact .inl (.inl (.inr ⟨b,hb,h,h'⟩))
   ·exact .inl (.inr ⟨b,hb,h,h'⟩)
   ·exact .inr ⟨b,hb,h,h'⟩
theorem corn_in {x z:Int} (hx : -1≤x∧x≤32) (hz : -1≤z∧z≤32) {p:Int×Int} (h:p∈cornL x z):(-1≤p.1∧p.1≤33)∧(-1≤p.2∧p.2≤33):=by
 unfold cornL at h
 simp only[List.mem_cons,List.not_mem_nil,or_false]at h
 rcases h with rfl|rfl|rfl|rfl <;> simp only[] <;> omega
theorem com_prim {T:TriR} (hk:okT T=true) {x z:Int} (hx : -1≤x∧x≤32) (hz : -1≤z∧z≤32) {c:Co} (h:c∈comL T x z):Prim c∧Cv T c:=by
 obtain⟨-,⟨p,hp,hi,rfl⟩|⟨i,-,l,-,hs,rfl⟩⟩:=mem_comL.1 h
 ·have b:=corn_in hx hz hp
  exact⟨abC_prim hk (by omega) (by omega),abC_cv hk (by omega) (by omega) hi⟩
 ·exact⟨(crC_at hs).1,crC_cv i hs⟩
theorem com_one {T:TriR} (hk:okT T=true) {a b:Co} (ha:Prim a∧Cv T a) (hb:Prim b∧Cv T b) (hx:a.x*b.d=b.x*a.d) (hz:a.z*b.d=b.z*a.d):a=b :=
 pl_one (ok_ny hk) (pl_of_cv ha.2) (pl_of_cv hb.2) ha.1 hb.1 hx hz
def mrg (l:List Sn):List Sn:=l.foldl (fun R s=>putS s R false) []
theorem mrg_is_aux:∀ (m l R:List Sn),Proper l→Proper m→IsM l R→IsM (l++m) (m.foldl (fun R s=>putS s R false) R)
 | [],l,R,_,_,h=>by simpa using h
 | s::m,l,R,hl,hm,h=>by
  have hs:=hm s List.mem_cons_self
  have h1:=IsM.put hl h hs
  have:=mrg_is_aux m (l++[s]) _ (fun p hp=>by
   rcases List.mem_append.1 hp with k|k
   ·exact hl p k
   ·rw[List.mem_singleton]at k;subst k;exact hs) (fun p hp=>hm p (List.mem_cons_of_mem _ hp)) h1
  rw[List.append_assoc]at this
  exact this
theorem mrg_is {l:List Sn} (h:Proper l):IsM l (mrg l):=by
 have:=mrg_is_aux l [] [] (fun p hp=>by simp at hp) h IsM.nil
 unfold mrg
 simpa using this
theorem mrg_eq {l R:List Sn} (h:Proper l) (hR:IsM l R):R=mrg l:=IsM.uniq h hR (mrg_is h) (fun _=>Iff.rfl)
def walkT (C:CfgR) (T:TriR):Bool:=walkB C.cl C.cb C.ht C.ri C.ru C.wd C.dp T.x0 T.y0 T.z0 T.x1 T.y1 T.z1 T.x2 T.y2 T.z2
def mayL (C:CfgR) (l:List TriR):Bool:=decide (l.length≤200)&&l.all (mayTB C.wd C.dp)
def rchk (C:CfgR) (l:List TriR):Int:=if C.err≠0 then C.err else if mayL C l then 0 else 2
theorem err_two (C:CfgR):C.err=0∨C.err=20:=checkE_two _ _ _ _ _ _ _
theorem rchk_zero {C:CfgR} {l:List TriR} (h:rchk C l=0):C.err=0∧l.length≤200∧∀ T∈l,mayTB C.wd C.dp T=true:=by
 unfold rchk at h
 split at h
 ·rename_i h1;exact absurd h h1
 ·rename_i h1
  split at h
  ·rename_i h2
   unfold mayL at h2
   rw[Bool.and_eq_true,decide_eq_true_eq,List.all_eq_true]at h2
   exact⟨by simpa using h1,h2.1,h2.2⟩
  ·omega
theorem rchk_of {C:CfgR} {l:List TriR} (h0:C.err=0) (h1:l.length≤200) (h2:∀ T∈l,mayTB C.wd C.dp T=true):rchk C l=0:=by
 unfold rchk mayL
 have e:(decide (l.length≤200)&&l.all (mayTB C.wd C.dp))=true:=by rw[Bool.and_eq_true,decide_eq_true_eq,List.all_eq_true];exact⟨h1,h2⟩
 rw[if_neg (by simpa using h0),if_pos e]
theorem mayT_iff {wd dp:Int} {T:TriR}:mayTB wd dp T=true↔StP wd dp T.x0 T.y0 T.z0 T.x1 T.y1 T.z1 T.x2 T.y2 T.z2∧tny T≠0:=by
 unfold mayTB outV heiB StP StV tny nyI
 simp only[Bool.and_eq_true,Bool.not_eq_true',Bool.or_eq_false_iff,decide_eq_false_iff_not,bne_iff_ne,Bool.not_eq_false',decide_eq_true_eq]
 constructor
 ·rintro⟨⟨⟨h0,h1⟩,h2⟩,h3⟩
  refine⟨⟨⟨?_,?_,?_⟩,⟨?_,?_,?_⟩,⟨?_,?_,?_⟩⟩,fun e=>h3 (by grind)⟩ <;> omega
 ·rintro⟨⟨h0,h1,h2⟩,h3⟩
  refine⟨⟨⟨?_,?_⟩,?_⟩,fun e=>h3 (by grind)⟩ <;> omega
theorem okT_iff' {T:TriR}:okT T=true↔StP 32 32 T.x0 T.y0 T.z0 T.x1 T.y1 T.z1 T.x2 T.y2 T.z2∧tny T≠0:=by
 unfold okT okB tny
 rw[Bool.and_eq_true,stB_iff,bne_iff_ne]
theorem mayT_ok {C:CfgR} (hC:C.fine) {T:TriR} (h:mayTB C.wd C.dp T=true):okT T=true:=by
 obtain⟨h1,h2⟩:=mayT_iff.1 h
 have:=hC.w2
 have:=hC.d2
 refine okT_iff'.2 ⟨?_,h2⟩
 unfold StP StV at h1 ⊢
 omega
theorem mayT_check {C:CfgR} (hC:C.fine) (T:TriR):tCheckE C.cl C.cb C.ht C.ri C.ru C.wd C.dp 1 T.x0 T.y0 T.z0 T.x1 T.y1 T.z1 T.x2 T.y2 T.z2=if mayTB C.wd C.dp T then 0 else 40:=by
 have h0:checkE C.cl C.cb C.ht C.ri C.ru C.wd C.dp=0:=hC.err
 unfold tCheckE
 rw[if_neg (by simpa using h0)]
 by_cases h:mayTB C.wd C.dp T=true
 ·rw[if_pos h,if_pos ⟨by decide,stB_iff.2 (mayT_iff.1 h).1,mayT_ok hC h⟩]
 ·rw[if_neg h,if_neg]
  rintro⟨-,h1,h2⟩
  exact h (mayT_iff.2 ⟨stB_iff.1 h1,(okT_iff'.1 h2).2⟩)
def plX (x w:Int) (n:Nat):Int:=x+(n:Int) % w
def plZ (z w:Int) (n:Nat):Int:=z+(n:Int) / w
def boxB (x z w d:Int):Bool:=decide (-64≤x)&&decide (x≤64)&&decide (-64≤z)&&decide (z≤64)&&decide (0≤w)&&decide (w≤64)&&decide (0≤d)&&decide (d≤64)
theorem boxB_iff {x z w d:Int}:boxB x z w d=true↔(-64≤x∧x≤64)∧(-64≤z∧z≤64)∧(0≤w∧w≤64)∧(0≤d∧d≤64):=by
 unfold boxB;simp only[Bool.and_eq_true,decide_eq_true_eq,and_assoc]
structure Bx where
 (x z w d:Int)
def i64B (n:Int):Prop := -9223372036854775808≤n∧n≤9223372036854775807
structure Bx.ok (b:Bx):Prop where
 w0:0≤b.w
 w1:b.w≤64
 d0:0≤b.d
 d1:b.d≤64
 x0:i64B b.x
 z0:i64B b.z
 x1:i64B (b.x+(b.w - 1))
 z1:i64B (b.z+(b.d - 1))
def Bx.n (b:Bx):Nat:=(b.w*b.d).toNat
theorem Bx.n_le {b:Bx} (h:b.ok):b.n≤4096:=by
 have h1:b.w*b.d≤64*64:=Int.mul_le_mul h.w1 h.d1 h.d0 (by omega)
 unfold Bx.n;omega
def Bx.inside (b:Bx) (x z:Int):Prop:=(b.x≤x∧x≤b.x+(b.w - 1))∧(b.z≤z∧z≤b.z+(b.d - 1))
instance (b:Bx) (x z:Int):Decidable (b.inside x z):=by unfold Bx.inside;infer_instance
def Bx.pl (b:Bx) (x z:Int):Int:=(z - b.z)*b.w+x - b.x
theorem Bx.pl_lt {b:Bx} {x z:Int} (h:b.inside x z):0≤b.pl x z∧b.pl x z<b.w*b.d∧(b.pl x z).toNat<b.n:=by
 obtain⟨⟨h1,h2⟩,h3,h4⟩:=h
 have k0:0≤(z - b.z)*b.w:=Int.mul_nonneg (by omega) (by omega)
 have k1:(z - b.z)*b.w≤(b.d - 1)*b.w:=Int.mul_le_mul_of_nonneg_right (by omega) (by omega)
 have k2:(b.d - 1)*b.w=b.w*b.d - b.w:=by grind
 unfold Bx.n Bx.pl
 omega
theorem Bx.pl_at {b:Bx} {x z:Int} (h:b.inside x z):plX b.x b.w (b.pl x z).toNat=x∧plZ b.z b.w (b.pl x z).toNat=z:=by
 obtain⟨k1,k2,k3⟩:=Bx.pl_lt h
 obtain⟨⟨h1,h2⟩,h3,h4⟩:=h
 unfold plX plZ
 have e:((b.pl x z).toNat:Int)=(x - b.x)+(z - b.z)*b.w:=by unfold Bx.pl at *;omega
 have hw:0<b.w:=by omega
 rw[e]
 constructor
 ·rw[Int.add_mul_emod_self_right,Int.emod_eq_of_lt (by omega) (by omega)];omega
 ·rw[Int.add_mul_ediv_right _ _ (by omega),Int.ediv_eq_zero_of_lt (by omega) (by omega)];omega
theorem Bx.pl_inside {b:Bx} (hb:b.ok) {n:Nat} (h:n<b.n):b.inside (plX b.x b.w n) (plZ b.z b.w n)∧(b.pl (plX b.x b.w n) (plZ b.z b.w n)).toNat=n:=by
 have hn:(n:Int)<b.w*b.d:=by unfold Bx.n at h;omega
 have hw:0<b.w:=by
  rcases Int.lt_or_eq_of_le hb.w0 with k|k
  ·exact k
  ·rw[←k]at hn;simp at hn;omega
 have h1:=Int.emod_nonneg (n:Int) (Int.ne_of_gt hw)
 have h2:=Int.emod_lt_of_pos (n:Int) hw
 have h3:0≤(n:Int) / b.w:=Int.ediv_nonneg (by omega) (by omega)
 have h4:(n:Int) / b.w<b.d:=Int.ediv_lt_of_lt_mul hw (by rw[Int.mul_comm];exact hn)
 have h5:=Int.mul_ediv_add_emod (n:Int) b.w
 unfold Bx.inside plX plZ Bx.pl
 refine⟨⟨⟨by omega,by omega⟩,by omega,by omega⟩,?_⟩
 have e:(b.z+(n:Int) / b.w - b.z)*b.w+(b.x+(n:Int) % b.w) - b.x=n:=by grind
 rw[e];simp
end Go.Proofs.YtmhghnbgllaihaaGreatDoor

namespace Go.Proofs.YtmhghnbgllaihaaGreatDoor
open Go.ChangeShapes Go.WideShapes Go.RowKit Go.Deep
def oneV (u:Value):List Value:=[u]
theorem oneV_flat (us:List Value):us.flatMap oneV=us:=by
 induction us with
 | nil=>rfl
 | cons u us ih=>rw[List.flatMap_cons,ih];rfl
section
variable {α:Type}
def RowsK (enc:α→List Value) (k:Nat) (w:World) (v:Value) (L:List (List α)):Prop:=∃ us:List Value,us.length=L.length∧Sl oneV 1 w v us∧∀ j (h:j<L.length),∃ u,us[j]? = some u∧Sl enc k w u L[j]
theorem RowsK.keep {enc:α→List Value} {k:Nat} {w w':World} {v:Value} {L:List (List α)} (h:RowsK enc k w v L) (n:New w w'):RowsK enc k w' v L:=by
 obtain⟨us,h1,h2,h3⟩:=h
 exact⟨us,h1,h2.keep n,fun j hj=>by obtain⟨u,e,hs⟩:=h3 j hj;exact⟨u,e,hs.keep n⟩⟩
theorem RowsK.nil {enc:α→List Value} {k:Nat} {w:World}:RowsK enc k w (.slice none 0 0) []:=⟨[],rfl,Sl.nil,fun j h=>absurd h (by simp)⟩
theorem RowsK.shape {enc:α→List Value} {k:Nat} {w:World} {v:Value} {L:List (List α)} (h:RowsK enc k w v L):∃ a c,v=.slice a L.length c:=by
 obtain⟨us,h1,⟨a,c,e,-⟩,-⟩:=h
 exact⟨a,c,by rw[←h1];exact e⟩
theorem RowsK.at {enc:α→List Value} {k n c:Nat} {w:World} {ga:Option Addr} {L:List (List α)} (h:RowsK enc k w (.slice ga n c) L) (j:Nat) (hj:j<L.length) :
  ∃ b off a d,ga=some ⟨b,off,none⟩∧w.cell? ⟨b,off+j,none⟩=some (.slice a L[j].length d)∧Sl enc k w (.slice a L[j].length d) L[j]:=by
 obtain⟨us,h1,h2,h3⟩:=h
 obtain⟨u,hu,hs⟩:=h3 j hj
 obtain⟨a,d,rfl,hs2⟩:=id hs
 obtain⟨-,-,-,-,hr⟩:=h2.row'
 have hju:j<us.length:=by rw[h1];exact hj
 obtain⟨b,off,rfl,ha⟩:=hr (by omega)
 refine⟨b,off,a,d,rfl,?_,hs⟩
 have hc:=ha j hju 0 (by simp[oneV])
 rw[Nat.mul_one,Nat.add_zero]at hc
 rw[hc]
 congr 1
 show us[j]=_
 rw[List.getElem?_eq_getElem hju]at hu
 exact Option.some.inj hu
end
structure Gd where
 (x z w d:Int)
 L:List (List Fl)
 ga:Option Addr
 gc:Nat
def Gd.ok (G:Gd) (w:World):Prop:=RowsK Fl.enc 3 w (.slice G.ga G.L.length G.gc) G.L
def Gd.enc (G:Gd):List Value:=#[.int .i64 G.x,.int .i64 G.z,.int .i64 G.w,.int .i64 G.d,.slice G.ga G.L.length G.gc].toList
theorem Gd.enc_len (G:Gd):G.enc.length=5:=rfl
theorem Gd.at {w:World} {b:Nat} {G:Gd} (h:CellsAt w b 0 G.enc):w.cell? ⟨b,0,none⟩=some (.int .i64 G.x)∧w.cell? ⟨b,1,none⟩=some (.int .i64 G.z)∧w.cell? ⟨b,2,none⟩=some (.int .i64 G.w)∧w.cell? ⟨b,3,none⟩=some (.int .i64 G.d)∧w.cell? ⟨b,4,none⟩=some (.slice G.ga G.L.length G.gc) :=
 ⟨h 0 (by rw[Gd.enc_len];omega),h 1 (by rw[Gd.enc_len];omega),h 2 (by rw[Gd.enc_len];omega),h 3 (by rw[Gd.enc_len];omega),h 4 (by rw[Gd.enc_len];omega)⟩
end Go.Proofs.YtmhghnbgllaihaaGreatDoor

namespace Go.Proofs.YtmhghnbgllaihaaGreatDoor
open Go.RowKit
structure SoupV.few (S:SoupV):Prop where
 t:S.ts.length≤900
 b:S.bs.length≤900
 h:S.hs.length≤900
def SoupV.great (S:SoupV):Bool:=decide (220<S.ts.length)||decide (20<S.bs.length)||decide (20<S.hs.length)
theorem SoupV.few_of {S:SoupV} (h:S.great=false):S.few:=by
 simp only[SoupV.great,Bool.or_eq_false_iff,decide_eq_false_iff_not]at h
 exact⟨by omega,by omega,by omega⟩
theorem s_great (S:SoupV) (w:World) (hS:S.ok w):Calls Tryz.prog 29 #[.agg #[.slice S.a0 S.ts.length S.c0,.slice S.a1 S.bs.length S.c1,.slice S.a2 S.hs.length S.c2]] w fun e w'=>e=.returned (.bool S.great)∧New w w':=by
 have h1:=hS.t.row.2.1
 have h2:=hS.b.row.2.1
 have h3:=hS.h.row.2.1
 have m1:=hS.t.row.2.2.1
 have m2:=hS.b.row.2.2.1
 have m3:=hS.h.row.2.2.1
 unfold maxLen at m1 m2 m3
 obtain⟨v,hv⟩:∃ v,v=S.great:=⟨_,rfl⟩
 rw[←hv]
 have HV:Hid (v=(decide ((220:Int)<(S.ts.length:Int))||decide ((20:Int)<(S.bs.length:Int))||decide ((20:Int)<(S.hs.length:Int)))):=by
  show v=_
  rw[hv]
  unfold SoupV.great
  rw[Bool.eq_iff_iff]
  simp only[Bool.or_eq_true,decide_eq_true_eq]
  omega
 clear hv hS
 generalize S.ts.length=a at *
 generalize S.bs.length=b at *
 generalize S.hs.length=c at *
 cases e1:decide ((220:Int)<(a:Int)) <;> cases e2:decide ((20:Int)<(b:Int)) <;> cases e3:decide ((20:Int)<(c:Int))
 all_goals
  rw[e1,e2,e3]at HV
  go_enter Tryz.func29,Tryz.ntmps29
  go_wp2_with fail
  go_ret
  exact⟨retBo HV.out.symm,by exact nw⟩
end Go.Proofs.YtmhghnbgllaihaaGreatDoor
