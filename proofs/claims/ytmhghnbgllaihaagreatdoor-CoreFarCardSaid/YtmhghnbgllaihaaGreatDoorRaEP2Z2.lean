import Derived.Test.YtmhghnbgllaihaaGreatDoorClCP2Z2
import Derived.Test.YtmhghnbgllaihaaGreatDoorSoYP2Z2
import Derived.Test.YtmhghnbgllaihaaGreatDoorWholeCP2Z2
import Derived.Outline
import Derived.Deep.DeepCutAuto
import Derived.Deep.LoopGhost
import Derived.Test.YtmhghnbgllaihaaGreatDoorWholeHP2Z2
import Derived.Test.YtmhghnbgllaihaaGreatDoorLooseEP2Z2
import Derived.Test.YtmhghnbgllaihaaGreatDoorOgKP2Z2
import Derived.Test.YtmhghnbgllaihaaGreatDoorRaCP2Z2
import Derived.Test.YtmhghnbgllaihaaGreatDoorRaMP2Z2
import Derived.Maps.AppendAt
import Derived.WalkMore
set_option linter.unusedVariables false
set_option maxHeartbeats 16000000
set_option maxRecDepth 100000

namespace Go.Proofs.YtmhghnbgllaihaaGreatDoor
open Go.RowKit
theorem k_within (a p lo hi:Int) (w:World) (ha : -1073741824≤a∧a≤1073741824) (hp:1≤p∧p≤1048576) (hl : -64≤lo∧lo≤64) (hh : -64≤hi∧hi≤64) :
  Calls Tryz.prog 296 #[.agg #[.int .i64 a,.int .i64 p],.int .i64 lo,.int .i64 hi] w fun e w'=>e=.returned (.bool (decide (lo*p≤a)&&decide (a≤hi*p)))∧New w w':=by
 have h1:=mul_bd (a:=lo) (b:=p) (A:=64) (B:=1048576) hl (by omega)
 have h2:=mul_bd (a:=hi) (b:=p) (A:=64) (B:=1048576) hh (by omega)
 cases t1:decide (lo*p≤a)
 ·go_enter Tryz.func296,Tryz.ntmps296
  go_wp2_with fail
  go_ret
  exact⟨rfl,by exact nw⟩
 ·go_enter Tryz.func296,Tryz.ntmps296
  go_wp2_with fail
  go_ret
  exact⟨rfl,by exact nw⟩
theorem holdsB_two (x z:Int) (c:Co):holdsB x z c=((decide (x*c.d≤c.x)&&decide (c.x≤(x+1)*c.d))&&(decide (z*c.d≤c.z)&&decide (c.z≤(z+1)*c.d))):=by
 unfold holdsB
 simp only[Bool.and_assoc]
theorem k_holds (x z:Int) (c:Co) (w:World) (hc:Okc c) (hx : -1≤x∧x≤32) (hz : -1≤z∧z≤32) :
  Calls Tryz.prog 280 #[.agg #[.int .i64 x,.int .i64 z],.agg #[.int .i64 c.x,.int .i64 c.z,.int .i64 c.y,.int .i64 c.d]] w fun e w'=>e=.returned (.bool (holdsB x z c))∧New w w':=by
 rw[holdsB_two]
 have KP:=Lib.hid (fun W=>k_parts c.x c.z c.y c.d W)
 have K1:=fun W=>k_within c.x c.d x (x+1) W hc.2.1 hc.1 (by omega) (by omega)
 have K2:=fun W=>k_within c.z c.d z (z+1) W hc.2.2.1 hc.1 (by omega) (by omega)
 generalize (decide (x*c.d≤c.x)&&decide (c.x≤(x+1)*c.d))=b1 at *
 generalize (decide (z*c.d≤c.z)&&decide (c.z≤(z+1)*c.d))=b2 at *
 replace K1:=Lib.hid K1
 replace K2:=Lib.hid K2
 clear hc
 go_enter Tryz.func280,Tryz.ntmps280
 go_wp2_with fail
 refine(KP.out _).mono ?_
 rintro e W1 ⟨rfl,g1⟩
 have c0:W1.cell? ⟨w.heap.size,0,none⟩=some (.int .i64 x):=g1.1.keep (by go_simp)
 have c1:W1.cell? ⟨w.heap.size,1,none⟩=some (.int .i64 z):=g1.1.keep (by go_simp)
 have n1:New w W1:=New.trans (by exact nw) g1.1
 have z1:=n1.size
 clear g1
 go_upto_region 2 with fail
 refine Code.at (fun W2 hW=>?_)
 have n2:New W1 W2:=by subst hW;exact nw
 have e0:W2.cell? ⟨W1.heap.size,0,none⟩=some (.int .i64 c.x):=by subst hW;go_simp
 have e1:W2.cell? ⟨W1.heap.size,1,none⟩=some (.int .i64 c.d):=by subst hW;go_simp
 have e2:W2.cell? ⟨W1.heap.size+1,0,none⟩=some (.int .i64 c.z):=by subst hW;go_simp
 have e3:W2.cell? ⟨W1.heap.size+1,1,none⟩=some (.int .i64 c.d):=by subst hW;go_simp
 clear hW
 replace c0:=n2.keep c0
 replace c1:=n2.keep c1
 replace n2:=n1.trans n2
 clear n1
 cases b1
 ·clear K2
  go_wp2_with fail
  refine(K1.out _).mono ?_
  rintro e W3 ⟨rfl,n3⟩
  go_wp2_with fail
  go_ret
  exact⟨rfl,n2.trans n3⟩
 ·go_wp2_with fail
  refine(K1.out _).mono ?_
  rintro e W3 ⟨rfl,n3⟩
  replace c1:=n3.keep c1
  replace e2:=n3.keep e2
  replace e3:=n3.keep e3
  clear c0 e0 e1
  replace n2:=n2.trans n3
  clear n3
  go_wp2_with fail
  refine(K2.out _).mono ?_
  rintro e W4 ⟨rfl,n4⟩
  go_wp2_with fail
  go_ret
  exact⟨rfl,n2.trans n4⟩
def flC (c:Co):Int:=floorI c.y c.d
def clC (c:Co):Int:=ceilI c.y c.d
theorem k_floor (y d:Int) (w:World):Calls Tryz.prog 229 #[.agg #[.int .i64 y,.int .i64 d]] w fun e w'=>e=.returned (.int .i64 (floorI y d))∧New w w':=by
 have K:=Lib.hid (fun W=>floor_any y d W)
 go_enter Tryz.func229,Tryz.ntmps229
 go_wp2_with fail
 refine(K.out _).mono ?_
 rintro e w' ⟨rfl,rfl⟩
 go_wp2_with fail
 go_ret
 exact⟨rfl,by exact nw⟩
theorem k_ceil (y d:Int) (w:World):Calls Tryz.prog 230 #[.agg #[.int .i64 y,.int .i64 d]] w fun e w'=>e=.returned (.int .i64 (ceilI y d))∧New w w':=by
 have K:=Lib.hid (fun W=>ceil_any y d W)
 go_enter Tryz.func230,Tryz.ntmps230
 go_wp2_with fail
 refine(K.out _).mono ?_
 rintro e w' ⟨rfl,rfl⟩
 go_wp2_with fail
 go_ret
 exact⟨rfl,by exact nw⟩
def colB (n:Int):Bool:=decide (-1≤n∧n≤32)
theorem k_col (n:Int) (w:World):Calls Tryz.prog 246 #[.int .i64 n] w fun e w'=>e=.returned (.bool (colB n))∧w=w':=by
 have hb:colB n=(decide (-1≤n)&&decide (n≤32)):=by unfold colB;rw[Bool.decide_and]
 rw[hb]
 clear hb
 cases t:decide (-1≤n)
 ·go_enter Tryz.func246,Tryz.ntmps246
  go_wp2_with fail
  go_ret
  exact⟨rfl,rfl⟩
 ·go_enter Tryz.func246,Tryz.ntmps246
  go_wp2_with fail
  go_ret
  exact⟨rfl,rfl⟩
def chkE (T:TriR):Int:=if okT T then 0 else 40
theorem k_check (T:TriR) (w:World):Calls Tryz.prog 226 #[.agg #[.int .i64 T.i,.int .i64 T.x0,.int .i64 T.y0,.int .i64 T.z0,.int .i64 T.x1,.int .i64 T.y1,.int .i64 T.z1,.int .i64 T.x2,.int .i64 T.y2,.int .i64 T.z2]] w fun e w'=>e=.returned (.int .i64 (chkE T))∧New w w':=by
 have K:=fun W=>t_normal T.i T.x0 T.y0 T.z0 T.x1 T.y1 T.z1 T.x2 T.y2 T.z2 W
 have e:normE T.x0 T.y0 T.z0 T.x1 T.y1 T.z1 T.x2 T.y2 T.z2=chkE T:=rfl
 rw[e]at K
 clear e
 generalize chkE T=v at *
 replace K:=Lib.hid K
 go_enter Tryz.func226,Tryz.ntmps226
 go_wp2_with fail
 refine(K.out _).mono ?_
 rintro e w' ⟨rfl,n1⟩
 go_wp2_with fail
 go_ret
 exact⟨rfl,New.trans (by exact nw) n1⟩
theorem k_beyond (l:Ln) (vx vy vz:Int) (w:World) (h1:0≤l.bx∧l.bx≤1) (h2:0≤l.bz∧l.bz≤1) (h3 : -64≤l.at'∧l.at'≤64) (hx:0≤vx∧vx≤32) (hz:0≤vz∧vz≤32) :
  Calls Tryz.prog 283 #[.agg #[.int .i64 l.bx,.int .i64 l.bz,.int .i64 l.at'],.agg #[.int .i64 vx,.int .i64 vy,.int .i64 vz]] w fun e w'=>e=.returned (.int .i64 (l.off vx vz))∧New w w':=by
 have m1:=mul_bd (a:=l.bx) (b:=vx) (A:=1) (B:=32) (by omega) (by omega)
 have m2:=mul_bd (a:=l.bz) (b:=vz) (A:=1) (B:=32) (by omega) (by omega)
 unfold Ln.off
 go_enter Tryz.func283,Tryz.ntmps283
 go_wp2_with fail
 go_ret
 exact⟨rfl,by exact nw⟩
theorem k_btw (p q m n:Int) (b b':Nat) (w:World) (hp:w.cell? ⟨b,0,none⟩=some (.int .i64 p)) (hq:w.cell? ⟨b',0,none⟩=some (.int .i64 q)) (bp : -1024≤p∧p≤1024) (bq : -1024≤q∧q≤1024) (bm : -4096≤m∧m≤4096) (bn : -4096≤n∧n≤4096) :
  Calls Tryz.prog 285 #[.int .i64 m,.int .i64 n,.pointer (some ⟨b,0,none⟩),.pointer (some ⟨b',0,none⟩)] w fun e w'=>e=.returned (.int .i64 (p*n - q*m))∧New w w':=by
 have m1:=mul_bd (a:=p) (b:=n) (A:=1024) (B:=4096) bp bn
 have m2:=mul_bd (a:=q) (b:=m) (A:=1024) (B:=4096) bq bm
 go_enter Tryz.func285,Tryz.ntmps285
 go_wp2_with fail
 go_ret
 exact⟨rfl,by exact nw⟩
def La.enc (p:Int×Int):List Value:=#[.int .i64 p.1,.int .i64 p.2].toList
theorem La.enc_len (p:Int×Int):(La.enc p).length=2:=rfl
def Ln.enc (l:Ln):List Value:=#[.int .i64 l.bx,.int .i64 l.bz,.int .i64 l.at'].toList
theorem Ln.enc_len (l:Ln):l.enc.length=3:=rfl
theorem rowAt_four {α:Type} {enc:α→List Value} {k:Nat} {w:World} {b:Nat} (x0 x1 x2 x3:α) (h0:CellsAt w b 0 (enc x0)) (h1:CellsAt w b k (enc x1)) (h2:CellsAt w b (2*k) (enc x2)) (h3:CellsAt w b (3*k) (enc x3)):RowAt enc k w b 0 [x0,x1,x2,x3]:=fun j hj=>by
 match j,hj with
 | 0,_=>simpa using h0
 | 1,_=>simpa using h1
 | 2,_=>simpa using h2
 | 3,_=>simpa using h3
 | j+4,hj=>exact absurd hj (by simp)
theorem heap_two (w:World) (o o':Obj):((w.alloc o).alloc o').heap[w.heap.size+1]? = some o':=by
 have h:=heap_new (w.alloc o) o'
 rwa [show(w.alloc o).heap.size=w.heap.size+1 by simp]at h
theorem k_corners (x z:Int) (w:World) (hx : -1≤x∧x≤32) (hz : -1≤z∧z≤32) :
  Calls Tryz.prog 267 #[.agg #[.int .i64 x,.int .i64 z]] w fun e w'=>∃ g,e=.returned (.slice (some ⟨g,0,none⟩) 4 4)∧RowAt La.enc 2 w' g 0 (cornL x z)∧(∃ cs fr,w'.heap[g]? = some (.cells cs 312 fr))∧New w w':=by
 go_enter Tryz.func267,Tryz.ntmps267
 go_wp2_with fail
 refine bodyPost_ret (v:=.slice (some ⟨w.heap.size+1,0,none⟩) 4 4) (by simp[results,Tryz.results267,go_sem]) rfl ?_
 refine⟨_,rfl,rowAt_four _ _ _ _ ?_ ?_ ?_ ?_,⟨_,_,heap_two _ _ _⟩,by exact nw⟩
 ·intro i hi
  match i,hi with
  | 0,_=>go_simp;rfl
  | 1,_=>go_simp;rfl
  | i+2,hi=>exact absurd hi (by rw[La.enc_len];omega)
 ·intro i hi
  match i,hi with
  | 0,_=>go_simp;rfl
  | 1,_=>go_simp;rfl
  | i+2,hi=>exact absurd hi (by rw[La.enc_len];omega)
 ·intro i hi
  match i,hi with
  | 0,_=>go_simp;rfl
  | 1,_=>go_simp;rfl
  | i+2,hi=>exact absurd hi (by rw[La.enc_len];omega)
 ·intro i hi
  match i,hi with
  | 0,_=>go_simp;rfl
  | 1,_=>go_simp;rfl
  | i+2,hi=>exact absurd hi (by rw[La.enc_len];omega)
theorem k_lines (x z:Int) (w:World) (hx : -1≤x∧x≤32) (hz : -1≤z∧z≤32) :
  Calls Tryz.prog 271 #[.agg #[.int .i64 x,.int .i64 z]] w fun e w'=>∃ g,e=.returned (.slice (some ⟨g,0,none⟩) 4 4)∧RowAt Ln.enc 3 w' g 0 (lineL x z)∧(∃ cs fr,w'.heap[g]? = some (.cells cs 340 fr))∧New w w':=by
 go_enter Tryz.func271,Tryz.ntmps271
 go_wp2_with fail
 refine bodyPost_ret (v:=.slice (some ⟨w.heap.size+1,0,none⟩) 4 4) (by simp[results,Tryz.results271,go_sem]) rfl ?_
 refine⟨_,rfl,rowAt_four _ _ _ _ ?_ ?_ ?_ ?_,⟨_,_,heap_two _ _ _⟩,by exact nw⟩
 ·intro i hi
  match i,hi with
  | 0,_=>go_simp;rfl
  | 1,_=>go_simp;rfl
  | 2,_=>go_simp;rfl
  | i+3,hi=>exact absurd hi (by rw[Ln.enc_len];omega)
 ·intro i hi
  match i,hi with
  | 0,_=>go_simp;rfl
  | 1,_=>go_simp;rfl
  | 2,_=>go_simp;rfl
  | i+3,hi=>exact absurd hi (by rw[Ln.enc_len];omega)
 ·intro i hi
  match i,hi with
  | 0,_=>go_simp;rfl
  | 1,_=>go_simp;rfl
  | 2,_=>go_simp;rfl
  | i+3,hi=>exact absurd hi (by rw[Ln.enc_len];omega)
 ·intro i hi
  match i,hi with
  | 0,_=>go_simp;rfl
  | 1,_=>go_simp;rfl
  | 2,_=>go_simp;rfl
  | i+3,hi=>exact absurd hi (by rw[Ln.enc_len];omega)
structure Euc (G:Nat) (c r:Int):Prop where
 ne:c≠0
 g:Nat.gcd c.natAbs r.natAbs=G
theorem Euc.step {G:Nat} {c r:Int} (h:Euc G c r) (hr:r≠0):Euc G r (c.tmod r) :=
 ⟨hr,by have:=igcd_step c r hr;unfold Int.gcd at this;rw[this];exact h.g⟩
theorem Euc.stop {G:Nat} {c:Int} (h:Euc G c 0):c.natAbs=G:=by have:=h.g;simpa using this
theorem low_q {x z y d c:Int} (hd:d≠0) (h:c.natAbs=cg x z y d):c*(clampI c (-1) 1*clampI d (-1) 1)=d.sign*(cg x z y d:Int):=by
 have hc:c≠0:=by have:=cg_pos (x:=x) (z:=z) (y:=y) hd;omega
 rw[clamp_sign,clamp_sign,←h,abs_sign hc]
 grind
theorem low_val (x z y d:Int):low x z y d=⟨x.tdiv (d.sign*(cg x z y d:Int)),z.tdiv (d.sign*(cg x z y d:Int)),y.tdiv (d.sign*(cg x z y d:Int)),d.tdiv (d.sign*(cg x z y d:Int))⟩:=rfl
structure Lk (h:Nat) (x z y d:Int) (w:World):Prop where
 c0:w.cell? ⟨h,0,none⟩=some (.int .i64 x)
 c1:w.cell? ⟨h,1,none⟩=some (.int .i64 z)
 c2:w.cell? ⟨h,2,none⟩=some (.int .i64 y)
 c3:w.cell? ⟨h,3,none⟩=some (.int .i64 d)
 e0:w.cell? ⟨h+1,0,none⟩=some (.int .i64 0)
 e1:w.cell? ⟨h+1,1,none⟩=some (.int .i64 0)
 e2:w.cell? ⟨h+1,2,none⟩=some (.int .i64 0)
 e3:w.cell? ⟨h+1,3,none⟩=some (.int .i64 0)
 f0:w.frozen? ⟨h+1,0,none⟩=false
 f1:w.frozen? ⟨h+1,1,none⟩=false
 f2:w.frozen? ⟨h+1,2,none⟩=false
 f3:w.frozen? ⟨h+1,3,none⟩=false
theorem Lk.keep {h:Nat} {x z y d:Int} {w w':World} (H:Lk h x z y d w) (n:New w w'):Lk h x z y d w' :=
 ⟨n.keep H.c0,n.keep H.c1,n.keep H.c2,n.keep H.c3,n.keep H.e0,n.keep H.e1,n.keep H.e2,n.keep H.e3,n.keepF H.e0 H.f0,n.keepF H.e1 H.f1,n.keepF H.e2 H.f2,n.keepF H.e3 H.f3⟩
theorem k_lowest (x z y d:Int) (w:World) (hd:d≠0) (bx : -1099511627776≤x∧x≤1099511627776) (bz : -1099511627776≤z∧z≤1099511627776) (by' : -1099511627776≤y∧y≤1099511627776) (bd : -1099511627776≤d∧d≤1099511627776) :
  Calls Tryz.prog 286 #[.agg #[.int .i64 x,.int .i64 z,.int .i64 y,.int .i64 d]] w fun e w'=>e=.returned (.agg #[.int .i64 (low x z y d).x,.int .i64 (low x z y d).z,.int .i64 (low x z y d).y,.int .i64 (low x z y d).d])∧New w w':=by
 have HV:=Lib.hid (low_val x z y d)
 have HD:=Lib.hid hd
 have hlb:=low_bd (x:=x) (z:=z) (y:=y) hd
 obtain⟨L,hL⟩:∃ L,L=low x z y d:=⟨_,rfl⟩
 rw[←hL]at hlb HV ⊢
 clear hL
 have HLB:=Lib.hid hlb
 clear hd hlb
 have i0:∀ w,(Instr.index 365 (.agg #[.int .i64 x,.int .i64 z,.int .i64 y]) (.int .i64 0)).run Tryz.prog w=.ok (.int .i64 x) w:=fun _=>by kernel_rfl
 have i1:∀ w,(Instr.index 365 (.agg #[.int .i64 x,.int .i64 z,.int .i64 y]) (.int .i64 1)).run Tryz.prog w=.ok (.int .i64 z) w:=fun _=>by kernel_rfl
 have i2:∀ w,(Instr.index 365 (.agg #[.int .i64 x,.int .i64 z,.int .i64 y]) (.int .i64 2)).run Tryz.prog w=.ok (.int .i64 y) w:=fun _=>by kernel_rfl
 go_enter Tryz.func286,Tryz.ntmps286
 go_wp2_with fail
 refine Code.at (fun W0 hW=>?_)
 have hn:New w W0:=by subst hW;exact nw
 have c0:W0.cell? ⟨w.heap.size,0,none⟩=some (.int .i64 x):=by subst hW;go_simp
 have c1:W0.cell? ⟨w.heap.size,1,none⟩=some (.int .i64 z):=by subst hW;go_simp
 have c2:W0.cell? ⟨w.heap.size,2,none⟩=some (.int .i64 y):=by subst hW;go_simp
 have c3:W0.cell? ⟨w.heap.size,3,none⟩=some (.int .i64 d):=by subst hW;go_simp
 have e0:W0.cell? ⟨w.heap.size+1,0,none⟩=some (.int .i64 0):=by subst hW;go_simp
 have e1:W0.cell? ⟨w.heap.size+1,1,none⟩=some (.int .i64 0):=by subst hW;go_simp
 have e2:W0.cell? ⟨w.heap.size+1,2,none⟩=some (.int .i64 0):=by subst hW;go_simp
 have e3:W0.cell? ⟨w.heap.size+1,3,none⟩=some (.int .i64 0):=by subst hW;go_simp
 have f0:W0.frozen? ⟨w.heap.size+1,0,none⟩=false:=by subst hW;go_simp
 have f1:W0.frozen? ⟨w.heap.size+1,1,none⟩=false:=by subst hW;go_simp
 have f2:W0.frozen? ⟨w.heap.size+1,2,none⟩=false:=by subst hW;go_simp
 have f3:W0.frozen? ⟨w.heap.size+1,3,none⟩=false:=by subst hW;go_simp
 clear hW
 refine wp_loop_rounds 4 ?_
 have HK:Lk w.heap.size x z y d W0:=⟨c0,c1,c2,c3,e0,e1,e2,e3,f0,f1,f2,f3⟩
 clear c0 c1 c2 c3 e0 e1 e2 e3 f0 f1 f2 f3
 rw[rounds_succ]
 go_wp2_with fail
 go_loopg [3,5] x.natAbs (fun kx s3 s5 wr=>∃ c r:Int,s3=.int .i64 c∧s5=.int .i64 r∧r.natAbs≤kx∧Hid (Euc (Nat.gcd d.natAbs x.natAbs) c r)∧(-1099511627776≤c∧c≤1099511627776)∧(-1099511627776≤r∧r≤1099511627776)∧New w wr∧Lk w.heap.size x z y d wr)
 case atStart=>exact⟨d,x,rfl,rfl,Nat.le_refl _,Lib.hid ⟨HD.out,rfl⟩,bd,bx,hn,HK⟩
 case round =>
  obtain⟨c1,r,rfl,rfl,hkr,HE,hc1,hr,hn1,HK1⟩:=hrel
  by_cases h0:r=0
  rotate_left
  ·have hz:(r==0)=false:=by rw[beq_eq_false_iff_ne];omega
   have hnz:(r != 0)=true:=by rw[bne_iff_ne];omega
   obtain⟨q,hq⟩:∃ q,c1.tmod r=q:=⟨_,rfl⟩
   have hlt:q.natAbs<r.natAbs:=by rw[←hq,Int.natAbs_tmod];exact Nat.mod_lt _ (by omega)
   have HE2:Hid (Euc (Nat.gcd d.natAbs x.natAbs) r q):=by rw[←hq];exact Lib.hid (HE.out.step h0)
   clear HE h0
   go_wp2_with fail
   go_quiet (fail)
   go_wp2_with fail
   go_roundg q.natAbs
   case measure=>omega
   case rel=>exact⟨r,q,rfl,rfl,Nat.le_refl _,HE2,hr,by omega,by exact nw,HK1.keep (by exact nw)⟩
  subst h0
  have N1:Hid (c1≠0∧c1.natAbs=Nat.gcd d.natAbs x.natAbs):=Lib.hid ⟨HE.out.ne,HE.out.stop⟩
  clear HE hkr hr HK
  go_wp2_with fail
  rw[rounds_succ]
  go_wp2_with fail
  go_loopg [3,5] z.natAbs (fun kx s3 s5 wr=>∃ c r:Int,s3=.int .i64 c∧s5=.int .i64 r∧r.natAbs≤kx∧Hid (Euc (Nat.gcd (Nat.gcd d.natAbs x.natAbs) z.natAbs) c r)∧(-1099511627776≤c∧c≤1099511627776)∧(-1099511627776≤r∧r≤1099511627776)∧New w wr∧Lk w.heap.size x z y d wr)
  case atStart=>exact⟨c1,z,rfl,rfl,Nat.le_refl _,Lib.hid ⟨N1.out.1,by rw[N1.out.2]⟩,hc1,bz,hn1,HK1⟩
  case round =>
   obtain⟨c2,r,rfl,rfl,hkr,HE,hc2,hr,hn2,HK2⟩:=hrel
   by_cases h0:r=0
   rotate_left
   ·have hz:(r==0)=false:=by rw[beq_eq_false_iff_ne];omega
    have hnz:(r != 0)=true:=by rw[bne_iff_ne];omega
    obtain⟨q,hq⟩:∃ q,c2.tmod r=q:=⟨_,rfl⟩
    have hlt:q.natAbs<r.natAbs:=by rw[←hq,Int.natAbs_tmod];exact Nat.mod_lt _ (by omega)
    have HE2:Hid (Euc (Nat.gcd (Nat.gcd d.natAbs x.natAbs) z.natAbs) r q):=by rw[←hq];exact Lib.hid (HE.out.step h0)
    clear HE h0
    go_wp2_with fail
    go_quiet (fail)
    go_wp2_with fail
    go_roundg q.natAbs
    case measure=>omega
    case rel=>exact⟨r,q,rfl,rfl,Nat.le_refl _,HE2,hr,by omega,by exact nw,HK2.keep (by exact nw)⟩
   subst h0
   have N2:Hid (c2≠0∧c2.natAbs=Nat.gcd (Nat.gcd d.natAbs x.natAbs) z.natAbs):=Lib.hid ⟨HE.out.ne,HE.out.stop⟩
   clear HE hkr hr HK1
   go_wp2_with fail
   rw[rounds_succ]
   go_wp2_with fail
   go_loopg [3,5] y.natAbs (fun kx s3 s5 wr=>∃ c r:Int,s3=.int .i64 c∧s5=.int .i64 r∧r.natAbs≤kx∧Hid (Euc (Nat.gcd (Nat.gcd (Nat.gcd d.natAbs x.natAbs) z.natAbs) y.natAbs) c r)∧(-1099511627776≤c∧c≤1099511627776)∧(-1099511627776≤r∧r≤1099511627776)∧New w wr∧Lk w.heap.size x z y d wr)
   case atStart=>exact⟨c2,y,rfl,rfl,Nat.le_refl _,Lib.hid ⟨N2.out.1,by rw[N2.out.2]⟩,hc2,by',hn2,HK2⟩
   case round =>
    obtain⟨c3,r,rfl,rfl,hkr,HE,hc3,hr,hn3,HK3⟩:=hrel
    by_cases h0:r=0
    rotate_left
    ·have hz:(r==0)=false:=by rw[beq_eq_false_iff_ne];omega
     have hnz:(r != 0)=true:=by rw[bne_iff_ne];omega
     obtain⟨q,hq⟩:∃ q,c3.tmod r=q:=⟨_,rfl⟩
     have hlt:q.natAbs<r.natAbs:=by rw[←hq,Int.natAbs_tmod];exact Nat.mod_lt _ (by omega)
     have HE2:Hid (Euc (Nat.gcd (Nat.gcd (Nat.gcd d.natAbs x.natAbs) z.natAbs) y.natAbs) r q):=by rw[←hq];exact Lib.hid (HE.out.step h0)
     clear HE h0
     go_wp2_with fail
     go_quiet (fail)
     go_wp2_with fail
     go_roundg q.natAbs
     case measure=>omega
     case rel=>exact⟨r,q,rfl,rfl,Nat.le_refl _,HE2,hr,by omega,by exact nw,HK3.keep (by exact nw)⟩
    subst h0
    have N3:Hid (c3≠0∧c3.natAbs=Nat.gcd (Nat.gcd (Nat.gcd d.natAbs x.natAbs) z.natAbs) y.natAbs):=Lib.hid ⟨HE.out.ne,HE.out.stop⟩
    clear HE hkr hr HK2
    go_wp2_with fail
    rw[rounds_succ]
    obtain⟨q,hq⟩:∃ q,q=c3*(clampI c3 (-1) 1*clampI d (-1) 1):=⟨_,rfl⟩
    have hq':q=d.sign*(cg x z y d:Int):=by rw[hq];exact low_q HD.out N3.out.2
    obtain⟨q0,QX,QZ,QY,QD⟩:q≠0∧x.tdiv q=L.x∧z.tdiv q=L.z∧y.tdiv q=L.y∧d.tdiv q=L.d:=by
     rw[HV.out,←hq']
     refine⟨?_,rfl,rfl,rfl,rfl⟩
     intro e
     rw[hq]at e
     have hcne:=N3.out.1
     have h1:=Int.mul_eq_zero.1 e
     rw[clamp_sign,clamp_sign]at h1
     rcases h1 with h1|h1
     ·exact hcne h1
     ·rcases Int.mul_eq_zero.1 h1 with h2|h2
      ·exact hcne (Int.sign_eq_zero_iff_zero.1 h2)
      ·exact HD.out (Int.sign_eq_zero_iff_zero.1 h2)
    obtain⟨s1,hs1⟩:∃ s,s=clampI c3 (-1) 1:=⟨_,rfl⟩
    obtain⟨s2,hs2⟩:∃ s,s=clampI d (-1) 1:=⟨_,rfl⟩
    have T1:∀ w,Calls Tryz.prog 284 #[.int .i64 c3] w fun e w'=>e=.returned (.int .i64 s1)∧w=w':=fun w=>by rw[hs1];exact sign_any c3 w
    have T2:∀ w,Calls Tryz.prog 284 #[.int .i64 d] w fun e w'=>e=.returned (.int .i64 s2)∧w=w':=fun w=>by rw[hs2];exact sign_any d w
    have b4 : -1≤s1∧s1≤1:=by rw[hs1];unfold clampI;omega
    have b5 : -1≤s2∧s2≤1:=by rw[hs2];unfold clampI;omega
    rw[←hs1,←hs2]at hq
    have bm:=mul_bd (a:=s1) (b:=s2) (A:=1) (B:=1) b4 b5
    obtain⟨m,hm⟩:∃ m,s1*s2=m:=⟨_,rfl⟩
    rw[hm]at hq bm
    have bq:=mul_bd (a:=c3) (b:=m) (A:=1099511627776) (B:=1) hc3 bm
    have hq2:c3*m=q:=hq.symm
    rw[hq2]at bq
    have hz:(q==0)=false:=by rw[beq_eq_false_iff_ne];exact q0
    obtain⟨l1,l2,l3,l4⟩:=HLB.out
    obtain⟨c0,g1,g2,g3,e0,e1,e2,e3,f0,f1,f2,f3⟩:=HK3
    replace T1:=Lib.hid T1
    replace T2:=Lib.hid T2
    clear hs1 hs2 hq hq' HV HLB N1 N2 N3 hn hn1 hn2 hc1 hc2
    go_wp2_with fail
    (refine wp_region_hat (by kernel_rfl) (by kernel_rfl) ?_;intro hatc hatf;(repeat(go_big_quiet_step ((go_at_call 284;first|(with_reducible exact Calls.hat_same (T1.out _))|(with_reducible exact Calls.hat_same (T2.out _))))));refine wpQuiet_nil ?_;rintro _ ⟨X,rfl⟩)
    clear hatc hatf T1 T2
    replace hn3:=hn3.trans X.h
    (replace c0:=New.keep X.h c0;replace g1:=New.keep X.h g1;replace g2:=New.keep X.h g2;replace g3:=New.keep X.h g3)
    (replace f0:=New.keepF X.h e0 f0;replace f1:=New.keepF X.h e1 f1;replace f2:=New.keepF X.h e2 f2;replace f3:=New.keepF X.h e3 f3)
    (replace e0:=New.keep X.h e0;replace e1:=New.keep X.h e1;replace e2:=New.keep X.h e2;replace e3:=New.keep X.h e3)
    generalize X.w=W9 at *
    clear X
    go_wp2_with fail
    have wx:IntKind.i64.wrap L.x=L.x:=IntWalk.i64_in _ (by omega)
    have wz:IntKind.i64.wrap L.z=L.z:=IntWalk.i64_in _ (by omega)
    have wy:IntKind.i64.wrap L.y=L.y:=IntWalk.i64_in _ (by omega)
    have wd:IntKind.i64.wrap L.d=L.d:=IntWalk.i64_in _ (by omega)
    go_region
    all_goals
     go_wp2_with fail
     refine bodyPost_ret (v:=.agg #[.int .i64 L.x,.int .i64 L.z,.int .i64 L.y,.int .i64 L.d]) (by simp[results,Tryz.results286,go_sem, *]) rfl ?_
     exact⟨rfl,by exact nw⟩
theorem c_cross (a b c d:Int) (w:World) (ha : -1024≤a∧a≤1024) (hb : -1024≤b∧b≤1024) (hc : -1024≤c∧c≤1024) (hd : -1024≤d∧d≤1024) :
  Calls Tryz.prog 184 #[.int .i64 a,.int .i64 b,.int .i64 c,.int .i64 d] w fun e w'=>e=.returned (.tuple #[.int .i64 (a*d - b*c),.int .i64 0])∧w=w':=by
 have h:crossB a b c d=true:=by
  unfold crossB
  rw[nearB_iff,nearB_iff,nearB_iff,nearB_iff]
  simp only[Bool.and_eq_true,decide_eq_true_eq]
  omega
 have:=cross_any a b c d w
 unfold crossI at this
 rw[h]at this
 exact this
theorem insB_not {T:TriR} {px pz:Int}:insB T px pz=((min 0 (min (s0 T px pz) (min (s1 T px pz) (s2 T px pz)))==0)||(max 0 (max (s0 T px pz) (max (s1 T px pz) (s2 T px pz)))==0)):=by
 rw[Bool.eq_iff_iff,insB_iff]
 simp only[Bool.or_eq_true,beq_iff_eq]
 omega
theorem k_inside (T:TriR) (px pz:Int) (w:World) (hs:StP 32 32 T.x0 T.y0 T.z0 T.x1 T.y1 T.z1 T.x2 T.y2 T.z2) (hx : -64≤px∧px≤64) (hz : -64≤pz∧pz≤64) :
  Calls Tryz.prog 281 #[.agg #[.int .i64 T.i,.int .i64 T.x0,.int .i64 T.y0,.int .i64 T.z0,.int .i64 T.x1,.int .i64 T.y1,.int .i64 T.z1,.int .i64 T.x2,.int .i64 T.y2,.int .i64 T.z2],.agg #[.int .i64 px,.int .i64 pz]] w fun e w'=>e=.returned (.bool (insB T px pz))∧New w w':=by
 unfold StP StV at hs
 obtain⟨⟨⟨X0,X0'⟩,⟨Z0,Z0'⟩,-⟩,⟨⟨X1,X1'⟩,⟨Z1,Z1'⟩,-⟩,⟨⟨X2,X2'⟩,⟨Z2,Z2'⟩,-⟩⟩:=hs
 have K0:∀ W,Calls Tryz.prog 184 #[.int .i64 (T.x1 - T.x0),.int .i64 (T.z1 - T.z0),.int .i64 (px - T.x0),.int .i64 (pz - T.z0)] W fun e w'=>e=.returned (.tuple #[.int .i64 (s0 T px pz),.int .i64 0])∧W=w':=fun W=>c_cross _ _ _ _ W (by omega) (by omega) (by omega) (by omega)
 have K1:∀ W,Calls Tryz.prog 184 #[.int .i64 (T.x2 - T.x1),.int .i64 (T.z2 - T.z1),.int .i64 (px - T.x1),.int .i64 (pz - T.z1)] W fun e w'=>e=.returned (.tuple #[.int .i64 (s1 T px pz),.int .i64 0])∧W=w':=fun W=>c_cross _ _ _ _ W (by omega) (by omega) (by omega) (by omega)
 have K2:∀ W,Calls Tryz.prog 184 #[.int .i64 (T.x0 - T.x2),.int .i64 (T.z0 - T.z2),.int .i64 (px - T.x2),.int .i64 (pz - T.z2)] W fun e w'=>e=.returned (.tuple #[.int .i64 (s2 T px pz),.int .i64 0])∧W=w':=fun W=>c_cross _ _ _ _ W (by omega) (by omega) (by omega) (by omega)
 have HB:=Lib.hid (insB_not (T:=T) (px:=px) (pz:=pz))
 generalize s0 T px pz=k0 at *
 generalize s1 T px pz=k1 at *
 generalize s2 T px pz=k2 at *
 generalize insB T px pz=r at *
 replace K0:=Lib.hid K0
 replace K1:=Lib.hid K1
 replace K2:=Lib.hid K2
 go_enter Tryz.func281,Tryz.ntmps281
 go_wp2_with fail
 refine Code.at (fun W0 hW=>?_)
 have hn:New w W0:=by subst hW;exact nw
 have c1:W0.cell? ⟨w.heap.size,1,none⟩=some (.int .i64 T.x0):=by subst hW;go_simp
 have c2:W0.cell? ⟨w.heap.size,2,none⟩=some (.int .i64 T.y0):=by subst hW;go_simp
 have c3:W0.cell? ⟨w.heap.size,3,none⟩=some (.int .i64 T.z0):=by subst hW;go_simp
 have c4:W0.cell? ⟨w.heap.size,4,none⟩=some (.int .i64 T.x1):=by subst hW;go_simp
 have c5:W0.cell? ⟨w.heap.size,5,none⟩=some (.int .i64 T.y1):=by subst hW;go_simp
 have c6:W0.cell? ⟨w.heap.size,6,none⟩=some (.int .i64 T.z1):=by subst hW;go_simp
 have c7:W0.cell? ⟨w.heap.size,7,none⟩=some (.int .i64 T.x2):=by subst hW;go_simp
 have c8:W0.cell? ⟨w.heap.size,8,none⟩=some (.int .i64 T.y2):=by subst hW;go_simp
 have c9:W0.cell? ⟨w.heap.size,9,none⟩=some (.int .i64 T.z2):=by subst hW;go_simp
 have b0:W0.cell? ⟨w.heap.size+1,0,none⟩=some (.int .i64 px):=by subst hW;go_simp
 have b1:W0.cell? ⟨w.heap.size+1,1,none⟩=some (.int .i64 pz):=by subst hW;go_simp
 clear hW
 have zz:=World.block_lt_of_cell? _ _ c1
 simp only[]at zz
 refine wp_loop_rounds 4 ?_
 rw[rounds_succ]
 go_upto_region 5 with fail
 go_cut [8,9] (fun s8 s9 Z=>∃ b b':Nat,s8=.pointer (some ⟨b,0,none⟩)∧s9=.pointer (some ⟨b',0,none⟩)∧New W0 Z∧Z.cell? ⟨b,0,none⟩=some (.int .i64 T.x0)∧Z.cell? ⟨b,2,none⟩=some (.int .i64 T.z0)∧Z.cell? ⟨b',0,none⟩=some (.int .i64 T.x1)∧Z.cell? ⟨b',2,none⟩=some (.int .i64 T.z1))
 case first =>
  go_region
  all_goals
   go_wp2_with fail
   go_meet
   exact⟨_,_,rfl,rfl,by exact nw,by go_simp,by go_simp,by go_simp,by go_simp⟩
 case rest =>
  obtain⟨u0,v0,rfl,rfl,nZ,p0,p2,q0,q2⟩:=hcut
  replace c1:=nZ.keep c1
  replace c2:=nZ.keep c2
  replace c3:=nZ.keep c3
  replace c4:=nZ.keep c4
  replace c5:=nZ.keep c5
  replace c6:=nZ.keep c6
  replace c7:=nZ.keep c7
  replace c8:=nZ.keep c8
  replace c9:=nZ.keep c9
  replace zz:=World.block_lt_of_cell? _ _ c1
  simp only[]at zz
  replace b0:=nZ.keep b0
  replace b1:=nZ.keep b1
  replace hn:=hn.trans nZ
  clear nZ
  rename World=>W1
  go_wp2_with fail
  refine(K0.out _).mono ?_
  rintro e w' ⟨rfl,rfl⟩
  clear p0 p2 q0 q2 K0
  go_wp2_with fail
  rw[rounds_succ]
  go_upto_region 5 with fail
  go_cut [8,9] (fun s8 s9 Z=>∃ b b':Nat,s8=.pointer (some ⟨b,0,none⟩)∧s9=.pointer (some ⟨b',0,none⟩)∧New W1 Z∧Z.cell? ⟨b,0,none⟩=some (.int .i64 T.x1)∧Z.cell? ⟨b,2,none⟩=some (.int .i64 T.z1)∧Z.cell? ⟨b',0,none⟩=some (.int .i64 T.x2)∧Z.cell? ⟨b',2,none⟩=some (.int .i64 T.z2))
  case first =>
   go_region
   all_goals
    go_wp2_with fail
    go_meet
    exact⟨_,_,rfl,rfl,by exact nw,by go_simp,by go_simp,by go_simp,by go_simp⟩
  case rest =>
   obtain⟨u1,v1,rfl,rfl,nZ,p0,p2,q0,q2⟩:=hcut
   replace c1:=nZ.keep c1
   replace c2:=nZ.keep c2
   replace c3:=nZ.keep c3
   replace c4:=nZ.keep c4
   replace c5:=nZ.keep c5
   replace c6:=nZ.keep c6
   replace c7:=nZ.keep c7
   replace c8:=nZ.keep c8
   replace c9:=nZ.keep c9
   replace zz:=World.block_lt_of_cell? _ _ c1
   simp only[]at zz
   replace b0:=nZ.keep b0
   replace b1:=nZ.keep b1
   replace hn:=hn.trans nZ
   clear nZ
   rename World=>W2
   go_wp2_with fail
   refine(K1.out _).mono ?_
   rintro e w' ⟨rfl,rfl⟩
   clear p0 p2 q0 q2 K1
   go_wp2_with fail
   rw[rounds_succ]
   go_upto_region 5 with fail
   go_cut [8,9] (fun s8 s9 Z=>∃ b b':Nat,s8=.pointer (some ⟨b,0,none⟩)∧s9=.pointer (some ⟨b',0,none⟩)∧New W2 Z∧Z.cell? ⟨b,0,none⟩=some (.int .i64 T.x2)∧Z.cell? ⟨b,2,none⟩=some (.int .i64 T.z2)∧Z.cell? ⟨b',0,none⟩=some (.int .i64 T.x0)∧Z.cell? ⟨b',2,none⟩=some (.int .i64 T.z0))
   case first =>
    go_region
    all_goals
     go_wp2_with fail
     go_meet
     exact⟨_,_,rfl,rfl,by exact nw,by go_simp,by go_simp,by go_simp,by go_simp⟩
   case rest =>
    obtain⟨u2,v2,rfl,rfl,nZ,p0,p2,q0,q2⟩:=hcut
    replace b0:=nZ.keep b0
    replace b1:=nZ.keep b1
    replace hn:=hn.trans nZ
    clear nZ
    rename World=>W3
    go_wp2_with fail
    refine(K2.out _).mono ?_
    rintro e w' ⟨rfl,rfl⟩
    clear p0 p2 q0 q2 K2
    go_wp2_with fail
    rw[rounds_succ]
    go_wp2_with fail
    all_goals
     go_ret
     refine⟨retB ?_,hn⟩
     first|exact HB.out.symm|(rw[HB.out];symm;simp only[Bool.or_eq_true,beq_iff_eq];omega)|(rw[HB.out];symm;simp only[Bool.or_eq_false_iff,beq_eq_false_iff_ne];omega)
theorem k_above (T:TriR) (hk:okT T=true) (px pz:Int) (w:World) (hx : -64≤px∧px≤64) (hz : -64≤pz∧pz≤64) (r:Option Co) (hr:aboveO T (px,pz)=r) :
  Calls Tryz.prog 269 #[.agg #[.int .i64 T.i,.int .i64 T.x0,.int .i64 T.y0,.int .i64 T.z0,.int .i64 T.x1,.int .i64 T.y1,.int .i64 T.z1,.int .i64 T.x2,.int .i64 T.y2,.int .i64 T.z2],.agg #[.int .i64 px,.int .i64 pz]] w fun e w'=>e=.returned (.tuple #[.agg #[.int .i64 (r.elim 0 Co.x),.int .i64 (r.elim 0 Co.z),.int .i64 (r.elim 0 Co.y),.int .i64 (r.elim 0 Co.d)],.bool r.isSome])∧New w w':=by
 have KI:=fun W=>k_inside T px pz W (ok_in hk) hx hz
 have KH:=fun W=>t_height T.i T.x0 T.y0 T.z0 T.x1 T.y1 T.z1 T.x2 T.y2 T.z2 px pz W
 rw[(hT_ok hk hx hz).2.2]at KH
 have hb:=abC_bd hk hx hz
 change ∀ W,Calls Tryz.prog 282 _ W fun e w'=>e=.returned (.tuple #[.int .i64 (hnT T px pz),.int .i64 (hdT T px pz),.int .i64 0])∧New W w' at KH
 unfold aboveO at hr
 simp only[abC]at hr
 generalize hnT T px pz=hn' at *
 generalize hdT T px pz=hd' at *
 have m1:=mul_bd (a:=px) (b:=hd') (A:=64) (B:=2048) hx (by omega)
 have m2:=mul_bd (a:=pz) (b:=hd') (A:=64) (B:=2048) hz (by omega)
 replace KH:=Lib.hid KH
 cases hi:insB T px pz
 ·rw[hi]at KI hr
  have e:r=none:=by rw[←hr];rfl
  subst e
  simp only[Option.elim_none,Option.isSome_none]
  replace KI:=Lib.hid KI
  clear hr hi KH
  go_enter Tryz.func269,Tryz.ntmps269
  go_wp2_with fail
  refine(KI.out _).mono ?_
  rintro e W1 ⟨rfl,n1⟩
  have fz:W1.cell? ⟨w.heap.size+1+1,0,none⟩=some (.int .i64 0):=n1.keep (by go_simp)
  have f0:∀ o,o<4→W1.frozen? ⟨w.heap.size+1+1,o,none⟩=false∧W1.cell? ⟨w.heap.size+1+1,o,none⟩=some (.int .i64 0):=fun o ho=>by
   match o,ho with
   | 0,_=>exact⟨n1.keepF (v:=.int .i64 0) (by go_simp) (by go_simp),n1.keep (by go_simp)⟩
   | 1,_=>exact⟨n1.keepF (v:=.int .i64 0) (by go_simp) (by go_simp),n1.keep (by go_simp)⟩
   | 2,_=>exact⟨n1.keepF (v:=.int .i64 0) (by go_simp) (by go_simp),n1.keep (by go_simp)⟩
   | 3,_=>exact⟨n1.keepF (v:=.int .i64 0) (by go_simp) (by go_simp),n1.keep (by go_simp)⟩
  obtain⟨g0,c0⟩:=f0 0 (by omega)
  obtain⟨g1,c1⟩:=f0 1 (by omega)
  obtain⟨g2,c2⟩:=f0 2 (by omega)
  obtain⟨g3,c3⟩:=f0 3 (by omega)
  have hn:New w W1:=New.trans (by exact nw) n1
  clear f0 fz n1
  go_wp2_with fail
  refine bodyPost_ret (v:=.tuple #[.agg #[.int .i64 0,.int .i64 0,.int .i64 0,.int .i64 0],.bool false]) (by simp[results,Tryz.results269,go_sem, *]) rfl ?_
  exact⟨rfl,by exact nw⟩
 ·rw[hi]at KI hr
  have e:r=some ⟨px*hd',pz*hd',hn',hd'⟩:=by rw[←hr];rfl
  subst e
  simp only[Option.elim_some,Option.isSome_some]
  replace KI:=Lib.hid KI
  clear hr hi
  go_enter Tryz.func269,Tryz.ntmps269
  go_wp2_with fail
  refine(KI.out _).mono ?_
  rintro e W1 ⟨rfl,n1⟩
  have c0:W1.cell? ⟨w.heap.size,0,none⟩=some (.int .i64 T.i):=n1.keep (by go_simp)
  have c1:W1.cell? ⟨w.heap.size,1,none⟩=some (.int .i64 T.x0):=n1.keep (by go_simp)
  have c2:W1.cell? ⟨w.heap.size,2,none⟩=some (.int .i64 T.y0):=n1.keep (by go_simp)
  have c3:W1.cell? ⟨w.heap.size,3,none⟩=some (.int .i64 T.z0):=n1.keep (by go_simp)
  have c4:W1.cell? ⟨w.heap.size,4,none⟩=some (.int .i64 T.x1):=n1.keep (by go_simp)
  have c5:W1.cell? ⟨w.heap.size,5,none⟩=some (.int .i64 T.y1):=n1.keep (by go_simp)
  have c6:W1.cell? ⟨w.heap.size,6,none⟩=some (.int .i64 T.z1):=n1.keep (by go_simp)
  have c7:W1.cell? ⟨w.heap.size,7,none⟩=some (.int .i64 T.x2):=n1.keep (by go_simp)
  have c8:W1.cell? ⟨w.heap.size,8,none⟩=some (.int .i64 T.y2):=n1.keep (by go_simp)
  have c9:W1.cell? ⟨w.heap.size,9,none⟩=some (.int .i64 T.z2):=n1.keep (by go_simp)
  have b0:W1.cell? ⟨w.heap.size+1,0,none⟩=some (.int .i64 px):=n1.keep (by go_simp)
  have b1:W1.cell? ⟨w.heap.size+1,1,none⟩=some (.int .i64 pz):=n1.keep (by go_simp)
  have f0:W1.frozen? ⟨w.heap.size+1+1,0,none⟩=false:=n1.keepF (v:=.int .i64 0) (by go_simp) (by go_simp)
  have e0:W1.cell? ⟨w.heap.size+1+1,0,none⟩=some (.int .i64 0):=n1.keep (by go_simp)
  have f1:W1.frozen? ⟨w.heap.size+1+1,1,none⟩=false:=n1.keepF (v:=.int .i64 0) (by go_simp) (by go_simp)
  have e1:W1.cell? ⟨w.heap.size+1+1,1,none⟩=some (.int .i64 0):=n1.keep (by go_simp)
  have f2:W1.frozen? ⟨w.heap.size+1+1,2,none⟩=false:=n1.keepF (v:=.int .i64 0) (by go_simp) (by go_simp)
  have e2:W1.cell? ⟨w.heap.size+1+1,2,none⟩=some (.int .i64 0):=n1.keep (by go_simp)
  have f3:W1.frozen? ⟨w.heap.size+1+1,3,none⟩=false:=n1.keepF (v:=.int .i64 0) (by go_simp) (by go_simp)
  have e3:W1.cell? ⟨w.heap.size+1+1,3,none⟩=some (.int .i64 0):=n1.keep (by go_simp)
  have hn:New w W1:=New.trans (by exact nw) n1
  clear n1
  go_wp2_with fail
  refine(KH.out _).mono ?_
  rintro e W2 ⟨rfl,n2⟩
  replace b0:=n2.keep b0
  replace b1:=n2.keep b1
  replace f0:=n2.keepF e0 f0
  replace e0:=n2.keep e0
  replace f1:=n2.keepF e1 f1
  replace e1:=n2.keep e1
  replace f2:=n2.keepF e2 f2
  replace e2:=n2.keep e2
  replace f3:=n2.keepF e3 f3
  replace e3:=n2.keep e3
  replace hn:=hn.trans n2
  clear n2 c0 c1 c2 c3 c4 c5 c6 c7 c8 c9
  go_wp2_with fail
  refine bodyPost_ret (v:=.tuple #[.agg #[.int .i64 (px*hd'),.int .i64 (pz*hd'),.int .i64 hn',.int .i64 hd'],.bool true]) (by simp[results,Tryz.results269,go_sem, *]) rfl ?_
  exact⟨rfl,by exact nw⟩
structure SdOk (s:Sd):Prop where
 ax:0≤s.ax∧s.ax≤32
 az:0≤s.az∧s.az≤32
 ay : -2048≤s.ay∧s.ay≤2048
 bx:0≤s.bx∧s.bx≤32
 bz:0≤s.bz∧s.bz≤32
 by' : -2048≤s.by'∧s.by'≤2048
structure LnOk (l:Ln):Prop where
 bx:0≤l.bx∧l.bx≤1
 bz:0≤l.bz∧l.bz≤1
 at' : -64≤l.at'∧l.at'≤64
theorem off_bd {l:Ln} (hl:LnOk l) {vx vz:Int} (hx:0≤vx∧vx≤32) (hz:0≤vz∧vz≤32) : -128≤l.off vx vz∧l.off vx vz≤128:=by
 have m1:=mul_bd (a:=l.bx) (b:=vx) (A:=1) (B:=32) (by have:=hl.bx;omega) (by omega)
 have m2:=mul_bd (a:=l.bz) (b:=vz) (A:=1) (B:=32) (by have:=hl.bz;omega) (by omega)
 have:=hl.at'
 unfold Ln.off
 omega
theorem crC_ok {s:Sd} {l:Ln} (hs:SdOk s) (hl:LnOk l) (h:(s.p l).sign≠(s.q l).sign):Okc (crC s l):=by
 have b1:=off_bd hl hs.ax hs.az
 have b2:=off_bd hl hs.bx hs.bz
 have hp:=(crC_at h).1.1
 have hne:=(sg_ne h).1
 unfold crC at *
 have hb:=low_bd (x:=s.p l*s.bx - s.q l*s.ax) (z:=s.p l*s.bz - s.q l*s.az) (y:=s.p l*s.by' - s.q l*s.ay) hne
 have h1 : -128≤s.p l∧s.p l≤128:=b1
 have h2 : -128≤s.q l∧s.q l≤128:=b2
 obtain⟨k1,k2,k3,k4,k5,k6⟩:=hs
 have m1:=mul_bd (a:=s.p l) (b:=s.bx) (A:=128) (B:=32) h1 (by omega)
 have m2:=mul_bd (a:=s.q l) (b:=s.ax) (A:=128) (B:=32) h2 (by omega)
 have m3:=mul_bd (a:=s.p l) (b:=s.bz) (A:=128) (B:=32) h1 (by omega)
 have m4:=mul_bd (a:=s.q l) (b:=s.az) (A:=128) (B:=32) h2 (by omega)
 have m5:=mul_bd (a:=s.p l) (b:=s.by') (A:=128) (B:=2048) h1 (by omega)
 have m6:=mul_bd (a:=s.q l) (b:=s.ay) (A:=128) (B:=2048) h2 (by omega)
 unfold Okc
 omega
theorem k_cross (s:Sd) (l:Ln) (w:World) (hs:SdOk s) (hl:LnOk l) (r:Option Co) (hr:crossO s l=r) :
  Calls Tryz.prog 272 #[.agg #[.int .i64 s.ax,.int .i64 s.ay,.int .i64 s.az,.int .i64 s.bx,.int .i64 s.by',.int .i64 s.bz],.agg #[.int .i64 l.bx,.int .i64 l.bz,.int .i64 l.at']] w fun e w'=>e=.returned (.tuple #[.agg #[.int .i64 (r.elim 0 Co.x),.int .i64 (r.elim 0 Co.z),.int .i64 (r.elim 0 Co.y),.int .i64 (r.elim 0 Co.d)],.bool r.isSome])∧New w w':=by
 have b1:=off_bd hl hs.ax hs.az
 have b2:=off_bd hl hs.bx hs.bz
 have KA:=fun W=>k_beyond l s.ax s.ay s.az W hl.bx hl.bz hl.at' hs.ax hs.az
 have KB:=fun W=>k_beyond l s.bx s.by' s.bz W hl.bx hl.bz hl.at' hs.bx hs.bz
 change ∀ W,Calls _ _ _ _ (fun e w'=>e=.returned (.int .i64 (s.p l))∧New W w')at KA
 change ∀ W,Calls _ _ _ _ (fun e w'=>e=.returned (.int .i64 (s.q l))∧New W w')at KB
 have S1:=fun W=>sign_any (s.p l) W
 have S2:=fun W=>sign_any (s.q l) W
 rw[clamp_sign]at S1 S2
 unfold crossO at hr
 have KL:(s.p l).sign≠(s.q l).sign→Hid (∀ W,Calls Tryz.prog 286 #[.agg #[.int .i64 (s.p l*s.bx - s.q l*s.ax),.int .i64 (s.p l*s.bz - s.q l*s.az),.int .i64 (s.p l*s.by' - s.q l*s.ay),.int .i64 (s.p l - s.q l)]] W fun e w'=>e=.returned (.agg #[.int .i64 (crC s l).x,.int .i64 (crC s l).z,.int .i64 (crC s l).y,.int .i64 (crC s l).d])∧New W w'):=fun h=>by
  have h1 : -128≤s.p l∧s.p l≤128:=b1
  have h2 : -128≤s.q l∧s.q l≤128:=b2
  obtain⟨k1,k2,k3,k4,k5,k6⟩:=hs
  have m1:=mul_bd (a:=s.p l) (b:=s.bx) (A:=128) (B:=32) h1 (by omega)
  have m2:=mul_bd (a:=s.q l) (b:=s.ax) (A:=128) (B:=32) h2 (by omega)
  have m3:=mul_bd (a:=s.p l) (b:=s.bz) (A:=128) (B:=32) h1 (by omega)
  have m4:=mul_bd (a:=s.q l) (b:=s.az) (A:=128) (B:=32) h2 (by omega)
  have m5:=mul_bd (a:=s.p l) (b:=s.by') (A:=128) (B:=2048) h1 (by omega)
  have m6:=mul_bd (a:=s.q l) (b:=s.ay) (A:=128) (B:=2048) h2 (by omega)
  exact Lib.hid (fun W=>k_lowest _ _ _ _ W (sg_ne h).1 (by omega) (by omega) (by omega) (by omega))
 have h1 : -128≤s.p l∧s.p l≤128:=b1
 have h2 : -128≤s.q l∧s.q l≤128:=b2
 have KX:∀ p q:Int,p=s.p l→q=s.q l→Hid (∀ (m n:Int) (b b':Nat) (W:World),-4096≤m∧m≤4096 → -4096≤n∧n≤4096→W.cell? ⟨b,0,none⟩=some (.int .i64 p)→W.cell? ⟨b',0,none⟩=some (.int .i64 q)→Calls Tryz.prog 285 #[.int .i64 m,.int .i64 n,.pointer (some ⟨b,0,none⟩),.pointer (some ⟨b',0,none⟩)] W fun e w'=>e=.returned (.int .i64 (p*n - q*m))∧New W w'):=fun p q hp hq =>
  Lib.hid (fun m n b b' W hm hn h1 h2=>k_btw p q m n b b' W h1 h2 (by rw[hp];omega) (by rw[hq];omega) hm hn)
 clear b1 b2
 generalize s.p l=p at *
 generalize s.q l=q at *
 replace KX:=KX p q rfl rfl
 generalize crC s l=c at *
 replace KA:=Lib.hid KA
 replace KB:=Lib.hid KB
 replace S1:=Lib.hid S1
 replace S2:=Lib.hid S2
 have HS:=Lib.hid hs
 have HR:=Lib.hid hr
 clear hs hl hr
 go_enter Tryz.func272,Tryz.ntmps272
 go_upto_region 1 with fail
 refine Code.at (fun W0 hW=>?_)
 have hn:New w W0:=by subst hW;exact nw
 have c0:W0.cell? ⟨w.heap.size,0,none⟩=some (.int .i64 s.ax):=by subst hW;go_simp
 have c1:W0.cell? ⟨w.heap.size,1,none⟩=some (.int .i64 s.ay):=by subst hW;go_simp
 have c2:W0.cell? ⟨w.heap.size,2,none⟩=some (.int .i64 s.az):=by subst hW;go_simp
 have c3:W0.cell? ⟨w.heap.size,3,none⟩=some (.int .i64 s.bx):=by subst hW;go_simp
 have c4:W0.cell? ⟨w.heap.size,4,none⟩=some (.int .i64 s.by'):=by subst hW;go_simp
 have c5:W0.cell? ⟨w.heap.size,5,none⟩=some (.int .i64 s.bz):=by subst hW;go_simp
 have d0:W0.cell? ⟨w.heap.size+1,0,none⟩=some (.int .i64 l.bx):=by subst hW;go_simp
 have d1:W0.cell? ⟨w.heap.size+1,1,none⟩=some (.int .i64 l.bz):=by subst hW;go_simp
 have d2:W0.cell? ⟨w.heap.size+1,2,none⟩=some (.int .i64 l.at'):=by subst hW;go_simp
 have e0:W0.cell? ⟨w.heap.size+1+1,0,none⟩=some (.int .i64 0):=by subst hW;go_simp
 have f0:W0.frozen? ⟨w.heap.size+1+1,0,none⟩=false:=by subst hW;go_simp
 have e1:W0.cell? ⟨w.heap.size+1+1,1,none⟩=some (.int .i64 0):=by subst hW;go_simp
 have f1:W0.frozen? ⟨w.heap.size+1+1,1,none⟩=false:=by subst hW;go_simp
 have e2:W0.cell? ⟨w.heap.size+1+1,2,none⟩=some (.int .i64 0):=by subst hW;go_simp
 have f2:W0.frozen? ⟨w.heap.size+1+1,2,none⟩=false:=by subst hW;go_simp
 have e3:W0.cell? ⟨w.heap.size+1+1,3,none⟩=some (.int .i64 0):=by subst hW;go_simp
 have f3:W0.frozen? ⟨w.heap.size+1+1,3,none⟩=false:=by subst hW;go_simp
 clear hW
 have zz:w.heap.size+1+1<W0.heap.size:=World.block_lt_of_cell? _ _ e0
 have z0:w.heap.size<W0.heap.size:=by omega
 have z1:w.heap.size+1<W0.heap.size:=by omega
 go_cut [6,7] (fun s6 s7 Z=>∃ b b':Nat,s6=.pointer (some ⟨b,0,none⟩)∧s7=.pointer (some ⟨b',0,none⟩)∧New W0 Z∧Z.cell? ⟨b,0,none⟩=some (.int .i64 s.ax)∧Z.cell? ⟨b,1,none⟩=some (.int .i64 s.ay)∧Z.cell? ⟨b,2,none⟩=some (.int .i64 s.az) ∧
   Z.cell? ⟨b',0,none⟩=some (.int .i64 s.bx)∧Z.cell? ⟨b',1,none⟩=some (.int .i64 s.by')∧Z.cell? ⟨b',2,none⟩=some (.int .i64 s.bz))
 case first =>
  go_region
  all_goals
   go_wp2_with fail
   go_meet
   exact⟨_,_,rfl,rfl,by exact nw,by go_simp,by go_simp,by go_simp,by go_simp,by go_simp,by go_simp⟩
 case rest =>
  obtain⟨u,v,rfl,rfl,nZ,p0,p1,p2,q0,q1,q2⟩:=hcut
  replace d0:=New.keep nZ d0
  replace d1:=New.keep nZ d1
  replace d2:=New.keep nZ d2
  replace f0:=New.keepF nZ e0 f0
  replace e0:=New.keep nZ e0
  replace f1:=New.keepF nZ e1 f1
  replace e1:=New.keep nZ e1
  replace f2:=New.keepF nZ e2 f2
  replace e2:=New.keep nZ e2
  replace f3:=New.keepF nZ e3 f3
  replace e3:=New.keep nZ e3
  replace hn:=hn.trans nZ
  clear nZ c0 c1 c2 c3 c4 c5 zz z0 z1
  rename World=>W1
  have zz:w.heap.size+1+1<W1.heap.size:=World.block_lt_of_cell? _ _ e0
  have zu:u<W1.heap.size:=World.block_lt_of_cell? _ _ p0
  have zv:v<W1.heap.size:=World.block_lt_of_cell? _ _ q0
  go_upto_region 2 with fail
  (refine wp_region_steady2 8 6 8 7 9 (ob:=.cells #[.int .i64 0] 3) (ob':=.cells #[.int .i64 0] 3) (by kernel_rfl) (by kernel_rfl) (by decide) (by decide) rfl rfl rfl (fun _ _=>by kernel_rfl) (by kernel_rfl) (by simp) rfl rfl rfl (fun _ _=>by kernel_rfl) (by kernel_rfl) (by simp) ?_;(intro hatc hatf;simp only[List.take_succ_cons,List.take_zero,List.drop_succ_cons,List.drop_zero];(repeat(first|(refine mildWalk_made (by decide) ?_;simp only[Act.put,List.setIfInBounds_toArray,List.set_cons_zero,List.set_cons_succ])|(refine mildWalk_step (by decide) (fun K hK=>?_);go_simp;first|(refine hK _ ?_;clear hK K)|(apply Exists.intro;refine⟨fun _=>?_,hK _ ?_⟩;(first|(go_at_call 283;with_reducible exact KA.out _)|(go_at_call 283;with_reducible exact KB.out _));clear hK K))));refine mildWalk_nil ?_;(try simp only[List.setIfInBounds_toArray,List.set_cons_zero,List.set_cons_succ])))
  intro y b b' hb hb' hbb hh hh'
  have j0:=cell_of_heap (o:=0) hh rfl
  have j1:=cell_of_heap (o:=0) hh' rfl
  have jf:=fun o=>frozen_of_heap (o:=o) hh
  have jf':=fun o=>frozen_of_heap (o:=o) hh'
  have nZ:New W1 y.w:=New.hat (New.refl W1) y
  replace p0:=New.keep nZ p0
  replace p1:=New.keep nZ p1
  replace p2:=New.keep nZ p2
  replace q0:=New.keep nZ q0
  replace q1:=New.keep nZ q1
  replace q2:=New.keep nZ q2
  replace f0:=New.keepF nZ e0 f0
  replace e0:=New.keep nZ e0
  replace f1:=New.keepF nZ e1 f1
  replace e1:=New.keep nZ e1
  replace f2:=New.keepF nZ e2 f2
  replace e2:=New.keep nZ e2
  replace f3:=New.keepF nZ e3 f3
  replace e3:=New.keep nZ e3
  replace hn:=hn.trans nZ
  generalize y.w=W2 at *
  clear hh hh' hatc hatf nZ d0 d1 d2 KA KB
  have zb:w.heap.size+1+1<b:=by omega
  have zb':w.heap.size+1+1<b':=by omega
  have n1:u≠b:=by omega
  have n2:u≠b':=by omega
  have n3:v≠b:=by omega
  have n4:v≠b':=by omega
  have n5:w.heap.size+1+1≠b:=by omega
  have n6:w.heap.size+1+1≠b':=by omega
  go_upto_region 3 with fail
  refine Code.at (fun W3 hW=>?_)
  have hn3:New w W3:=by subst hW;exact nw
  have cb:W3.cell? ⟨b,0,none⟩=some (.int .i64 p):=by subst hW;go_simp
  have cb':W3.cell? ⟨b',0,none⟩=some (.int .i64 q):=by subst hW;go_simp
  replace p0:W3.cell? ⟨u,0,none⟩=some (.int .i64 s.ax):=by subst hW;go_simp
  replace p1:W3.cell? ⟨u,1,none⟩=some (.int .i64 s.ay):=by subst hW;go_simp
  replace p2:W3.cell? ⟨u,2,none⟩=some (.int .i64 s.az):=by subst hW;go_simp
  replace q0:W3.cell? ⟨v,0,none⟩=some (.int .i64 s.bx):=by subst hW;go_simp
  replace q1:W3.cell? ⟨v,1,none⟩=some (.int .i64 s.by'):=by subst hW;go_simp
  replace q2:W3.cell? ⟨v,2,none⟩=some (.int .i64 s.bz):=by subst hW;go_simp
  replace e0:W3.cell? ⟨w.heap.size+1+1,0,none⟩=some (.int .i64 0):=by subst hW;go_simp
  replace e1:W3.cell? ⟨w.heap.size+1+1,1,none⟩=some (.int .i64 0):=by subst hW;go_simp
  replace e2:W3.cell? ⟨w.heap.size+1+1,2,none⟩=some (.int .i64 0):=by subst hW;go_simp
  replace e3:W3.cell? ⟨w.heap.size+1+1,3,none⟩=some (.int .i64 0):=by subst hW;go_simp
  replace f0:W3.frozen? ⟨w.heap.size+1+1,0,none⟩=false:=by subst hW;go_simp
  replace f1:W3.frozen? ⟨w.heap.size+1+1,1,none⟩=false:=by subst hW;go_simp
  replace f2:W3.frozen? ⟨w.heap.size+1+1,2,none⟩=false:=by subst hW;go_simp
  replace f3:W3.frozen? ⟨w.heap.size+1+1,3,none⟩=false:=by subst hW;go_simp
  clear hW j0 j1 jf jf' hn zb zb' n1 n2 n3 n4 n5 n6 zu zv zz hb hb' hbb
  clear W2
  by_cases hsg:p.sign=q.sign
  ·have hq:(p.sign==q.sign)=true:=by simpa using hsg
   have e:r=none:=by rw[←HR.out,if_pos hsg]
   subst e
   clear hsg KL KX HR p0 p1 p2 q0 q1 q2 HS
   (refine wp_region_hat (by kernel_rfl) (by kernel_rfl) ?_;intro hatc hatf;(repeat(go_big_quiet_step ((go_at_call 284;first|(with_reducible exact Calls.hat_same (S1.out _))|(with_reducible exact Calls.hat_same (S2.out _))))));refine wpQuiet_nil ?_;rintro _ ⟨X,rfl⟩)
   clear hatc hatf S1 S2
   have hn:=hn3.trans X.h
   replace f0:=New.keepF X.h e0 f0
   replace e0:=New.keep X.h e0
   replace f1:=New.keepF X.h e1 f1
   replace e1:=New.keep X.h e1
   replace f2:=New.keepF X.h e2 f2
   replace e2:=New.keep X.h e2
   replace f3:=New.keepF X.h e3 f3
   replace e3:=New.keep X.h e3
   generalize X.w=W9 at *
   clear X
   go_wp2_with fail
   refine bodyPost_ret (v:=.tuple #[.agg #[.int .i64 0,.int .i64 0,.int .i64 0,.int .i64 0],.bool false]) (by simp[results,Tryz.results272,go_sem, *]) rfl ?_
   exact⟨rfl,by exact nw⟩
  ·have hq:(p.sign==q.sign)=false:=by simpa using hsg
   have e:r=some c:=by rw[←HR.out,if_neg hsg]
   subst e
   have KL:=KL hsg
   clear hsg HR
   (refine wp_region_hat (by kernel_rfl) (by kernel_rfl) ?_;intro hatc hatf;(repeat(go_big_quiet_step ((go_at_call 284;first|(with_reducible exact Calls.hat_same (S1.out _))|(with_reducible exact Calls.hat_same (S2.out _))))));refine wpQuiet_nil ?_;rintro _ ⟨X,rfl⟩)
   clear hatc hatf S1 S2
   have hn:=hn3.trans X.h
   replace f0:=New.keepF X.h e0 f0
   replace e0:=New.keep X.h e0
   replace f1:=New.keepF X.h e1 f1
   replace e1:=New.keep X.h e1
   replace f2:=New.keepF X.h e2 f2
   replace e2:=New.keep X.h e2
   replace f3:=New.keepF X.h e3 f3
   replace e3:=New.keep X.h e3
   replace p0:=New.keep X.h p0
   replace p1:=New.keep X.h p1
   replace p2:=New.keep X.h p2
   replace q0:=New.keep X.h q0
   replace q1:=New.keep X.h q1
   replace q2:=New.keep X.h q2
   replace cb:=New.keep X.h cb
   replace cb':=New.keep X.h cb'
   generalize X.w=W9 at *
   clear X
   have KC1:∀ x:Hat W9,Calls Tryz.prog 285 #[.int .i64 s.ax,.int .i64 s.bx,.pointer (some ⟨b,0,none⟩),.pointer (some ⟨b',0,none⟩)] x.w fun e w'=>e=.returned (.int .i64 (p*s.bx - q*s.ax))∧New x.w w':=fun x=>KX.out _ _ b b' x.w (by have:=HS.out.ax;omega) (by have:=HS.out.bx;omega) (New.keep x.h cb) (New.keep x.h cb')
   have KC2:∀ x:Hat W9,Calls Tryz.prog 285 #[.int .i64 s.az,.int .i64 s.bz,.pointer (some ⟨b,0,none⟩),.pointer (some ⟨b',0,none⟩)] x.w fun e w'=>e=.returned (.int .i64 (p*s.bz - q*s.az))∧New x.w w':=fun x=>KX.out _ _ b b' x.w (by have:=HS.out.az;omega) (by have:=HS.out.bz;omega) (New.keep x.h cb) (New.keep x.h cb')
   have KC3:∀ x:Hat W9,Calls Tryz.prog 285 #[.int .i64 s.ay,.int .i64 s.by',.pointer (some ⟨b,0,none⟩),.pointer (some ⟨b',0,none⟩)] x.w fun e w'=>e=.returned (.int .i64 (p*s.by' - q*s.ay))∧New x.w w':=fun x=>KX.out _ _ b b' x.w (by have:=HS.out.ay;omega) (by have:=HS.out.by';omega) (New.keep x.h cb) (New.keep x.h cb')
   replace KC1:=Lib.hid KC1
   replace KC2:=Lib.hid KC2
   replace KC3:=Lib.hid KC3
   have hpq:IntKind.i64.wrap (p - q)=p - q:=IntWalk.i64_in _ (by omega)
   clear KX HS
   go_upto_region 6 with fail
   (refine wp_region_steady 23 (by kernel_rfl) (by kernel_rfl) ?_;(intro hatc hatf;simp only[List.take_succ_cons,List.take_zero,List.drop_succ_cons,List.drop_zero];(repeat(first|(refine mildWalk_made (by decide) ?_;simp only[Act.put,List.setIfInBounds_toArray,List.set_cons_zero,List.set_cons_succ])|(refine mildWalk_step (by decide) (fun K hK=>?_);go_simp;first|(refine hK _ ?_;clear hK K)|(apply Exists.intro;refine⟨fun _=>?_,hK _ ?_⟩;(first|(go_at_call 285;with_reducible exact KC1.out _)|(go_at_call 285;with_reducible exact KC2.out _)|(go_at_call 285;with_reducible exact KC3.out _)|(go_at_call 286;with_reducible exact KL.out _));clear hK K))));refine mildWalk_nil ?_;(try simp only[List.setIfInBounds_toArray,List.set_cons_zero,List.set_cons_succ])))
   intro y
   have hny:=New.hat hn y
   clear hatc hatf KC1 KC2 KC3 KL cb cb' p0 p1 p2 q0 q1 q2
   replace f0:=New.keepF y.h e0 f0
   replace e0:=New.keep y.h e0
   replace f1:=New.keepF y.h e1 f1
   replace e1:=New.keep y.h e1
   replace f2:=New.keepF y.h e2 f2
   replace e2:=New.keep y.h e2
   replace f3:=New.keepF y.h e3 f3
   replace e3:=New.keep y.h e3
   generalize y.w=W10 at *
   clear y
   go_wp2_with fail
   refine bodyPost_ret (v:=.tuple #[.agg #[.int .i64 c.x,.int .i64 c.z,.int .i64 c.y,.int .i64 c.d],.bool true]) (by simp[results,Tryz.results272,go_sem, *]) rfl ?_
   exact⟨rfl,by exact nw⟩
structure Ex (w w':World):Prop where
 os:w'.os=w.os
 tape:w'.tape=w.tape
 output:w'.output=w.output
 size:w.heap.size≤w'.heap.size
 block:∀ k,k<w.heap.size→(∀ cs fr,w.heap[k]? ≠ some (.cells cs 267 fr))→w'.heap[k]? = w.heap[k]?
theorem Ex.refl (w:World):Ex w w:=⟨rfl,rfl,rfl,Nat.le_refl _,fun _ _ _=>rfl⟩
theorem Ex.trans {a b c:World} (h:Ex a b) (k:Ex b c):Ex a c :=
 ⟨k.os.trans h.os,k.tape.trans h.tape,k.output.trans h.output,Nat.le_trans h.size k.size,fun i hi hn=>by
  have e:=h.block i hi hn
  rw[k.block i (Nat.lt_of_lt_of_le hi h.size) (fun cs fr=>by rw[e];exact hn cs fr),e]⟩
theorem Ex.of_new {a b:World} (h:New a b):Ex a b:=⟨h.os,h.tape,h.output,h.size,fun k hk _=>h.block k hk⟩
theorem Ex.new {a b c:World} (h:Ex a b) (k:New b c):Ex a c:=h.trans (Ex.of_new k)
def Typ (w:World) (b:Nat) (t:TypeId):Prop:=∃ cs fr,w.heap[b]? = some (.cells cs t fr)
theorem Typ.lt {w:World} {b:Nat} {t:TypeId} (h:Typ w b t):b<w.heap.size:=by
 obtain⟨cs,fr,h⟩:=h
 rcases Nat.lt_or_ge b w.heap.size with q|q
 ·exact q
 ·rw[Array.getElem?_eq_none q]at h;cases h
theorem Typ.not {w:World} {b:Nat} {t:TypeId} (h:Typ w b t) (ht:t≠267):∀ cs fr,w.heap[b]? ≠ some (.cells cs 267 fr):=by
 obtain⟨cs,fr,h⟩:=h
 intro cs' fr' e
 rw[h]at e
 injection e with e
 injection e with _ e _
 exact ht e
theorem Ex.heap {w w':World} (h:Ex w w') {b:Nat} {t:TypeId} (hb:Typ w b t) (ht:t≠267):w'.heap[b]? = w.heap[b]? := h.block b hb.lt (hb.not ht)
theorem Ex.cell {w w':World} (h:Ex w w') {b o:Nat} {t:TypeId} {v:Value} (hb:Typ w b t) (ht:t≠267) (hc:w.cell? ⟨b,o,none⟩=some v):w'.cell? ⟨b,o,none⟩=some v:=cell_block (h.heap hb ht) hc
theorem Typ.keep {w w':World} {b:Nat} {t:TypeId} (h:Typ w b t) (n:New w w'):Typ w' b t:=by
 have hl:=h.lt
 obtain⟨cs,fr,k⟩:=h
 exact⟨cs,fr,(n.block b hl).trans k⟩
theorem Typ.made (w:World) (cs:Array Value) (t:TypeId):Typ (w.alloc (.cells cs t)) w.heap.size t:=⟨_,_,heap_new w (.cells cs t)⟩
theorem Ex.rows {α:Type} {enc:α→List Value} {k:Nat} {w w':World} (h:Ex w w') {b off:Nat} {l:List α} {t:TypeId} (hb:Typ w b t) (ht:t≠267) (hr:RowAt enc k w b off l):RowAt enc k w' b off l :=
 fun j hj i hi=>h.cell hb ht (hr j hj i hi)
theorem Ex.grown {w w':World} {base:Nat} {v:Value} {n:Nat} {xs:List Value} (hown:w.ownsRow base 267 4 v n xs) (hg:w.grownBy w' v.ownBlock):Ex w w' :=
 ⟨hg.os,hg.tape,hg.output,hg.size,fun k hk hn=>hg.block k hk fun e=>by
  rcases hown.2 with ⟨rfl,_⟩|⟨g,cap,cur,rfl,_,hh,_⟩
  ·cases e
  ·simp only[Value.ownBlock,Option.some.injEq]at e
   subst e
   exact hn _ _ hh⟩
def Past (w:World) (base:Nat) (w':World):Prop:=∀ a,New a w→a.heap.size≤base→New a w'
theorem Past.refl (w:World) (base:Nat):Past w base w:=fun _ h _=>h
theorem Past.trans {a b c:World} {base:Nat} (h:Past a base b) (k:Past b base c):Past a base c:=fun x hx hg=>k x (h x hx hg) hg
theorem Past.new {a b c:World} {base:Nat} (h:Past a base b) (k:New b c):Past a base c:=fun x hx hg=>(h x hx hg).trans k
theorem Past.grown {w w':World} {base:Nat} {v:Value} {n:Nat} {xs:List Value} (hown:w.ownsRow base 267 4 v n xs) (hg:w.grownBy w' v.ownBlock):Past w base w' :=
 fun a hn hb=>newGrown hn hg (fun j hj=>Nat.le_trans hb (own_block hown j hj))
theorem co_info:(Tryz.prog.info? 267).map (fun i=>(i.zero,i.size,i.bytes))=some (some (.agg #[.int .i64 0,.int .i64 0,.int .i64 0,.int .i64 0]),4,32):=by kernel_rfl
theorem co_new (w:World) (c:Co) (t:TypeId):∀ j u,c.enc[j]? = some u→(w.alloc (.cells #[.int .i64 c.x,.int .i64 c.z,.int .i64 c.y,.int .i64 c.d] t)).cell? ((⟨w.heap.size,0,none⟩:Addr).add j)=some u:=by
 intro j u hu
 have hh:=heap_new w (.cells #[.int .i64 c.x,.int .i64 c.z,.int .i64 c.y,.int .i64 c.d] t)
 rw[Addr.add_lit,Nat.zero_add]
 refine cell_of_heap hh ?_
 rw[←Array.getElem?_toList]
 exact hu
structure Gat (w0:World) (base:Nat) (wr:World) (v:Value) (l:List Co):Prop where
 ex:Ex w0 wr
 past:Past w0 base wr
 own:wr.ownsRow base 267 4 v l.length (l.flatMap Co.enc)
theorem Gat.new {w0 wr wr':World} {base:Nat} {v:Value} {l:List Co} (h:Gat w0 base wr v l) (n:New wr wr'):Gat w0 base wr' v l :=
 ⟨h.ex.new n,h.past.new n,own_new h.own n⟩
theorem Gat.more {w0 wr wr':World} {base:Nat} {v v':Value} {l:List Co} {c:Co} (h:Gat w0 base wr v l) (ho:wr'.ownsRow base 267 4 v' (l.length+1) (l.flatMap Co.enc++c.enc)) (hg:wr.grownBy wr' v.ownBlock):Gat w0 base wr' v' (l++[c]) :=
 ⟨h.ex.trans (Ex.grown h.own hg),h.past.trans (Past.grown h.own hg),by rw[List.length_append,List.flatMap_append];simpa using ho⟩
structure St where
 (x z y:Int)
 f:Fl
instance:Inhabited St:=⟨⟨0,0,0,Fl.zero⟩⟩
def St.enc (s:St):List Value:=#[.int .i64 s.x,.int .i64 s.z,.int .i64 s.y,.int .i64 s.f.y,.int .i64 s.f.top,.int .i64 s.f.area].toList
theorem St.enc_len (s:St):s.enc.length=6:=rfl
theorem St.enc_one (x:St):∀ u∈x.enc,u.oneCell'=true:=by
 intro u hu
 simp[St.enc]at hu
 rcases hu with rfl|rfl|rfl|rfl|rfl|rfl <;> rfl
theorem St.cells {w:World} {b off:Nat} {l:List St} (H:RowAt St.enc 6 w b off l) (j:Nat) (h:j<l.length) :
  w.cell? ⟨b,off+j*6,none⟩=some (.int .i64 l[j].x)∧w.cell? ⟨b,off+j*6+1,none⟩=some (.int .i64 l[j].z)∧w.cell? ⟨b,off+j*6+2,none⟩=some (.int .i64 l[j].y)∧w.cell? ⟨b,off+j*6+3,none⟩=some (.int .i64 l[j].f.y)∧w.cell? ⟨b,off+j*6+4,none⟩=some (.int .i64 l[j].f.top)∧w.cell? ⟨b,off+j*6+5,none⟩=some (.int .i64 l[j].f.area) :=
 ⟨H j h 0 (by rw[St.enc_len];omega),H j h 1 (by rw[St.enc_len];omega),H j h 2 (by rw[St.enc_len];omega),H j h 3 (by rw[St.enc_len];omega),H j h 4 (by rw[St.enc_len];omega),H j h 5 (by rw[St.enc_len];omega)⟩
theorem st_new (w:World) (s:St) (t:TypeId):Sl St.enc 6 (w.alloc (.cells #[.int .i64 s.x,.int .i64 s.z,.int .i64 s.y,.int .i64 s.f.y,.int .i64 s.f.top,.int .i64 s.f.area] t)) (.slice (some ⟨w.heap.size,0,none⟩) 1 1) [s] :=
 ⟨_,_,rfl,Nat.le_refl _,by unfold maxLen;omega,fun h=>(by cases h),fun _=>⟨w.heap.size,0,rfl,fun j hj i hi=>by
  have hj':j=0:=by simpa using hj
  subst hj'
  have hi':i<6:=hi
  have hz:=heap_new w (.cells #[.int .i64 s.x,.int .i64 s.z,.int .i64 s.y,.int .i64 s.f.y,.int .i64 s.f.top,.int .i64 s.f.area] t)
  rcases(show i=0∨i=1∨i=2∨i=3∨i=4∨i=5 by omega)with rfl|rfl|rfl|rfl|rfl|rfl <;> exact cell_of_heap hz rfl⟩⟩
def stOf (G:Gd) (i:Nat) (f:Fl):St:=⟨G.x+((i % G.w.toNat:Nat):Int),G.z+((i / G.w.toNat:Nat):Int),f.y,f⟩
def gcol (G:Gd) (i:Nat):List Fl:=(G.L[i]?).getD []
theorem gcol_at {G:Gd} {i:Nat} (h:i<G.L.length):gcol G i=G.L[i]:=by unfold gcol;rw[List.getElem?_eq_getElem h];rfl
def stTo (G:Gd) (n:Nat):List St:=(List.range n).flatMap fun i=>(gcol G i).map (stOf G i)
theorem stTo_succ (G:Gd) (n:Nat):stTo G (n+1)=stTo G n++(gcol G n).map (stOf G n):=by
 unfold stTo
 rw[List.range_succ,List.flatMap_append]
 simp
def stAt (G:Gd) (n k:Nat):List St:=stTo G n++((gcol G n).take k).map (stOf G n)
theorem stAt_zero (G:Gd) (n:Nat):stAt G n 0=stTo G n:=by unfold stAt;simp
theorem stAt_succ {G:Gd} {n k:Nat} (h:k<(gcol G n).length):stAt G n (k+1)=stAt G n k++[stOf G n (gcol G n)[k]]:=by
 unfold stAt
 rw[List.take_succ_eq_append_getElem h,List.map_append,List.append_assoc]
 rfl
theorem stAt_all {G:Gd} {n k:Nat} (h:(gcol G n).length≤k):stAt G n k=stTo G (n+1):=by
 unfold stAt
 rw[List.take_of_length_le h,stTo_succ]
def allG (G:Gd):List St:=stTo G G.L.length
theorem gcol_len {G:Gd} (hE:gE G=0) (i:Nat):(gcol G i).length≤8:=by
 by_cases h:i<G.L.length
 ·rw[gcol_at h];exact riseB_len ((gd_is hE).2.2 i h)
 ·unfold gcol;rw[List.getElem?_eq_none (by omega)];simp
theorem stTo_len {G:Gd} (hE:gE G=0):∀ n,(stTo G n).length≤8*n
 | 0=>by unfold stTo;simp
 | n+1=>by
  rw[stTo_succ,List.length_append,List.length_map]
  have h1:=stTo_len hE n
  have h2:=gcol_len hE n
  omega
theorem stAt_len {G:Gd} (hE:gE G=0) (n k:Nat):(stAt G n k).length≤8*n+8:=by
 unfold stAt
 rw[List.length_append,List.length_map,List.length_take]
 have h1:=stTo_len hE n
 have h2:=gcol_len hE n
 omega
theorem st_info:(Tryz.prog.info? 247).map (fun i=>(i.zero,i.size,i.bytes))=some (some (.agg #[.int .i64 0,.int .i64 0,.int .i64 0,.int .i64 0,.int .i64 0,.int .i64 0]),6,48):=by kernel_rfl
theorem gd_step {G:Gd} (hE:gE G=0) {a b:Nat} (ha:(a:Int)<G.d) (hb:(b:Int)<G.w):inG G (G.x+b) (G.z+a)=true∧ixG G (G.x+b) (G.z+a)=a*G.w.toNat+b∧a*G.w.toNat+b<G.L.length∧(a*G.w.toNat+b) % G.w.toNat=b∧(a*G.w.toNat+b) / G.w.toNat=a:=by
 have hb':=placeB_iff.1 (gd_is hE).1
 have hin:inG G (G.x+b) (G.z+a)=true:=inG_iff.2 (by omega)
 obtain⟨h1,h2,h3,h4⟩:=ixG_is hE hin
 have e1:G.z+(a:Int) - G.z=a:=by omega
 have e2:G.x+(b:Int) - G.x=b:=by omega
 rw[e1,e2]at h3
 obtain⟨n,hn⟩:∃ n:Nat,G.w=n:=⟨G.w.toNat,by omega⟩
 have hx:ixG G (G.x+b) (G.z+a)=a*G.w.toNat+b:=by
  rw[hn]at h3 ⊢
  have:((ixG G (G.x+b) (G.z+a):Nat):Int)=((a*n+b:Nat):Int):=by rw[h3];push_cast;rfl
  simpa using Int.ofNat.inj this
 refine⟨hin,hx,by rw[←hx];exact h4,?_,?_⟩
 ·rw[Nat.mul_comm,Nat.mul_add_mod,Nat.mod_eq_of_lt (by omega)]
 ·rw[Nat.mul_comm,Nat.mul_add_div (by omega),Nat.div_eq_of_lt (by omega),Nat.add_zero]
end Go.Proofs.YtmhghnbgllaihaaGreatDoor

namespace Go.Proofs.YtmhghnbgllaihaaGreatDoor
open Go.RowKit Go.Sort
def fE (l:List Sn):Int:=if 8<(mrg l).length then 51 else 0
def fR (l:List Sn):List Sn:=if 8<(mrg l).length then []else mrg l
def FitS (l:List Sn):Prop:=∀ p∈l,-2048≤p.lo∧p.lo≤p.hi∧p.hi≤2048
theorem FitS.bad {l:List Sn} (h:FitS l):fstB badS l=false:=by
 unfold fstB
 rw[List.any_eq_false]
 intro p hp
 rw[(badS_not p).2 (h p hp)]
 simp
theorem FitS.proper {l:List Sn} (h:FitS l):Proper l:=fun p hp=>(h p hp).2.1
theorem own_at {a:Option Addr} {n c g:Nat} {B:Nat} (h:∀ x,a=some x→B≤x.block) (e:(Value.slice a n c).ownBlock=some g):B≤g:=by
 cases a with
 | none=>simp[Value.ownBlock]at e
 | some x =>
  have:=h x rfl
  obtain rfl:x.block=g:=by simpa [Value.ownBlock]using e
  exact this
theorem d_column (L:Nat→List Sn) (n0 G Gb N k:Nat) (hk:k<N) (hN:N≤4096) (hl:(L k).length≤1000) (hf:FitS (L k)) (W:World) (hb:Boxed W Gb 142 (.slice (some ⟨G,0,none⟩) N N)) (hG:Gth 147 180 W n0 G N L) :
  Calls Tryz.prog 159 #[.int .i64 k,.pointer (some ⟨Gb,0,none⟩)] W fun e w'=>∃ v,e=.returned (.tuple #[v,.int .i64 (fE (L k))])∧Sl Sn.enc 3 w' v (fR (L k))∧(∀ g,v.ownBlock=some g→W.heap.size≤g)∧New W w':=by
 obtain⟨vs,hv⟩:=hG
 have c0:=hb.cell
 obtain⟨c1,-⟩:=hv.cell hk
 have hS:Sl Sn.enc 3 W (vs k) (L k):=own_sl Sn.enc_len (hv.rows k hk)
 obtain⟨at0,c,e,hrest⟩:=hS
 have hS':Sl Sn.enc 3 W (.slice at0 (L k).length c) (L k):=⟨at0,c,rfl,hrest⟩
 rw[e]at c1
 have HS:=Lib.hid hS'
 have HB:=Lib.hid hf.bad
 have HP:=Lib.hid hf.proper
 have HL:=Lib.hid hl
 clear hb hv hrest hS' e vs hf hl
 obtain⟨z,hz⟩:∃ z,z=fE (L k):=⟨_,rfl⟩
 rw[←hz]
 have HZ:=Lib.hid hz
 clear hz
 generalize L k=l at *
 go_enter Tryz.func159,Tryz.ntmps159
 go_wp2_with fail
 refine(k_merge_own at0 l c HL.out W HS.out HB.out).mono ?_
 rintro e w1 ⟨n1,R,a,c',hM,hR,rfl,hs,hbl⟩
 have eR:R=mrg l:=mrg_eq HP.out hM
 have hm:c'≤maxLen:=hs.row'.2.2.1
 have hc':R.length≤c':=hs.row'.2.1
 unfold maxLen at hm
 by_cases h8:8<R.length
 ·have HE:Hid (z=51∧fR l=[]):=Lib.hid (by rw[HZ.out];unfold fE fR;rw[←eR,if_pos h8,if_pos h8];exact⟨rfl,rfl⟩)
  have hd:((R.length:Int) > 8):=by omega
  have H1:=Lib.hid (And.intro n1 (And.intro hs hbl))
  clear n1 hs eR hM hbl
  go_wp2_with fail
  rw[HE.out.1,HE.out.2]
  refine bodyPost_ret (v:=.tuple #[.slice none 0 0,.int .i64 51]) (by simp[results,Tryz.results159,go_sem, *]) rfl ?_
  exact⟨_,rfl,Sl.nil,fun g h=>(by simp[Value.ownBlock]at h),H1.out.1⟩
 ·have HE:Hid (z=0∧fR l=R):=Lib.hid (by rw[HZ.out];unfold fE fR;rw[←eR,if_neg h8,if_neg h8];exact⟨rfl,rfl⟩)
  have hd:¬ ((R.length:Int) > 8):=by omega
  have H1:=Lib.hid (And.intro n1 (And.intro hs hbl))
  clear n1 hs eR hM hbl
  go_wp2_with fail
  rw[HE.out.1,HE.out.2]
  refine bodyPost_ret (v:=.tuple #[.slice a R.length c',.int .i64 0]) (by simp[results,Tryz.results159,go_sem, *]) rfl ?_
  exact⟨_,rfl,H1.out.2.1,fun g h=>own_at H1.out.2.2 h,H1.out.1⟩
def oneC (u:Value):List Value:=[u]
theorem oneC_flat (us:List Value):us.flatMap oneC=us:=by
 induction us with
 | nil=>rfl
 | cons u us ih=>rw[List.flatMap_cons,ih];rfl
def RowsV (w:World) (v:Value) (L:List (List Sn)):Prop:=∃ us:List Value,us.length=L.length∧Sl oneC 1 w v us∧∀ j (h:j<L.length),∃ u,us[j]? = some u∧Sl Sn.enc 3 w u L[j]
theorem RowsV.nil {w:World}:RowsV w (.slice none 0 0) []:=⟨[],rfl,Sl.nil,fun j h=>absurd h (by simp)⟩
structure RowsO (tG:TypeId) (base:Nat) (W:World) (v:Value) (us:List Value) (L:List (List Sn)):Prop where
 len:us.length=L.length
 own:W.ownsRow base tG 1 v us.length us
 each:∀ j (h:j<L.length),∃ u,us[j]? = some u∧Sl Sn.enc 3 W u L[j]∧(0<L[j].length→∀ g,u.ownBlock=some g→v.ownBlock≠some g)
theorem sl_other {w w':World} {row:Option Nat} {u:Value} {l:List Sn} (h:Sl Sn.enc 3 w u l) (hg:w.grownBy w' row) (hne:0<l.length→∀ g,u.ownBlock=some g→row≠some g):Sl Sn.enc 3 w' u l:=by
 obtain⟨a,c,rfl,h1,h2,h3,h4⟩:=h
 refine⟨a,c,rfl,h1,h2,h3,fun h0=>?_⟩
 obtain⟨b,off,rfl,hr⟩:=h4 h0
 refine⟨b,off,rfl,fun j hj i hi=>?_⟩
 have hc:=hr j hj i hi
 have:=hg.cell hc (fun e=>hne h0 b (by simp[Value.ownBlock]) e.symm)
 exact this
theorem sl_lt {w:World} {u:Value} {l:List Sn} (h:Sl Sn.enc 3 w u l) (h0:0<l.length) {g:Nat} (e:u.ownBlock=some g):g<w.heap.size:=by
 obtain⟨a,c,rfl,h1,h2,h3,h4⟩:=h
 obtain⟨b,off,rfl,hr⟩:=h4 h0
 obtain rfl:b=g:=by simpa [Value.ownBlock]using e
 exact World.block_lt_of_cell? _ _ (hr 0 h0 0 (by rw[Sn.enc_len];omega))
section
variable {tG:TypeId} {base:Nat} {W W1:World} {v v':Value} {us:List Value} {L:List (List Sn)}
theorem RowsO.nil:RowsO tG base W (.slice none 0 0) [] []:=⟨rfl,World.ownsRow_nil _ _ _ _,fun j h=>absurd h (by simp)⟩
theorem RowsO.new (h:RowsO tG base W v us L) (n:New W W1):RowsO tG base W1 v us L:=⟨h.len,own_new h.own n,fun j hj=>by obtain⟨u,e,hs,hn⟩:=h.each j hj;exact⟨u,e,hs.keep n,hn⟩⟩
theorem RowsO.push (h:RowsO tG base W v us L) {u:Value} {l:List Sn} (hs:Sl Sn.enc 3 W u l) (hn:0<l.length→∀ g,u.ownBlock=some g→v.ownBlock≠some g) (hown:W1.ownsRow base tG 1 v' (us.length+1) (us++[u])) (hg:W.grownBy W1 v.ownBlock) (hat:v'.ownBlock=v.ownBlock∨v'.ownBlock=some W.heap.size) :
  RowsO tG base W1 v' (us++[u]) (L++[l]):=by
 have one:∀ (x:Value) (m:List Sn),Sl Sn.enc 3 W x m→(0<m.length→∀ g,x.ownBlock=some g→v.ownBlock≠some g)→Sl Sn.enc 3 W1 x m∧(0<m.length→∀ g,x.ownBlock=some g→v'.ownBlock≠some g):=fun x m hx hxn =>
  ⟨sl_other hx hg hxn,fun h0 g e=>by
   rcases hat with q|q
   ·rw[q];exact hxn h0 g e
   ·rw[q]
    have:=sl_lt hx h0 e
    intro e2
    injection e2 with e2
    omega⟩
 refine⟨by simp[h.len],by simpa using hown,fun j hj=>?_⟩
 by_cases hjl:j<L.length
 ·obtain⟨x,e,hx,hxn⟩:=h.each j hjl
  have e2:(L++[l])[j]=L[j]:=List.getElem_append_left hjl
  rw[e2]
  exact⟨x,by rw[List.getElem?_append_left (by rw[h.len];exact hjl)];exact e,one x _ hx hxn⟩
 ·have hjl':j=L.length:=by simp at hj;omega
  subst hjl'
  have e2:(L++[l])[L.length]=l:=by simp
  rw[e2]
  exact⟨u,by rw[List.getElem?_append_right (by rw[h.len];exact Nat.le_refl _),h.len];simp,one u _ hs hn⟩
theorem RowsO.rows (h:RowsO tG base W v us L):RowsV W v L :=
 ⟨us,h.len,own_sl (enc:=oneC) (k:=1) (l:=us) (fun _=>rfl) (by rw[oneC_flat];exact h.own),fun j hj=>by obtain⟨u,e,hs,_⟩:=h.each j hj;exact⟨u,e,hs⟩⟩
end
def anyE (L:Nat→List Sn) (n:Nat):Bool:=(List.range n).any fun k=>fE (L k) != 0
def bldE (L:Nat→List Sn) (n:Nat):Int:=if anyE L n then 51 else 0
def rowsF (L:Nat→List Sn) (n:Nat):List (List Sn):=(List.range n).map fun k=>fR (L k)
def bldR (L:Nat→List Sn) (n:Nat):List (List Sn):=if anyE L n then []else rowsF L n
theorem rowsF_succ (L:Nat→List Sn) (n:Nat):rowsF L (n+1)=rowsF L n++[fR (L n)]:=by unfold rowsF;rw[List.range_succ,List.map_append];rfl
theorem rowsF_len (L:Nat→List Sn) (n:Nat):(rowsF L n).length=n:=by unfold rowsF;simp
theorem anyE_false {L:Nat→List Sn} {n:Nat} (h:∀ k,k<n→fE (L k)=0):anyE L n=false:=by
 unfold anyE
 rw[List.any_eq_false]
 intro k hk
 rw[h k (List.mem_range.1 hk)]
 simp
theorem anyE_true {L:Nat→List Sn} {n k:Nat} (hk:k<n) (h:fE (L k)≠0):anyE L n=true:=List.any_eq_true.2 ⟨k,List.mem_range.2 hk,by simpa using h⟩
theorem fE_two (l:List Sn):fE l=0∨fE l=51:=by unfold fE;split <;> simp
theorem rows_info:(Tryz.prog.info? 147).map (fun i=>(i.zero,i.size,i.bytes))=some (some (.slice none 0 0),1,24):=by kernel_rfl
end Go.Proofs.YtmhghnbgllaihaaGreatDoor
