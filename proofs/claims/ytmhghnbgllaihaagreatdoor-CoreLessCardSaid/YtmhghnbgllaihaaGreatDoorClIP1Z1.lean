import Derived.Test.YtmhghnbgllaihaaGreatDoorClCP1Z1
import Derived.Test.YtmhghnbgllaihaaGreatDoorClBP1Z1
import Derived.Test.YtmhghnbgllaihaaGreatDoorWholeCP1Z1
import Derived.Outline
import Derived.Deep.DeepCutAuto
import Derived.Deep.LoopGhost
import Derived.Test.YtmhghnbgllaihaaGreatDoorWholeHP1Z1

namespace Go.Proofs.YtmhghnbgllaihaaGreatDoor
open Go.RowKit
set_option linter.unusedVariables false
set_option maxHeartbeats 1000000 in
theorem k_within (a p lo hi:Int) (w:World) (ha : -1073741824≤a∧a≤1073741824) (hp:1≤p∧p≤1048576) (hl : -64≤lo∧lo≤64) (hh : -64≤hi∧hi≤64) :
    Calls Tryz.prog 296 #[.agg #[.int .i64 a,.int .i64 p],.int .i64 lo,.int .i64 hi] w fun e w'=>e=.returned (.bool (decide (lo*p≤a)&&decide (a≤hi*p)))∧New w w':=by
  have h1:=mul_bd (a:=lo) (b:=p) (A:=64) (B:=1048576) hl (by omega)
  have h2:=mul_bd (a:=hi) (b:=p) (A:=64) (B:=1048576) hh (by omega)
  cases t1:decide (lo*p≤a)
  · go_enter Tryz.func296,Tryz.ntmps296
    go_wp2_with fail
    go_ret
    exact⟨rfl,by exact nw⟩
  · go_enter Tryz.func296,Tryz.ntmps296
    go_wp2_with fail
    go_ret
    exact⟨rfl,by exact nw⟩
theorem holdsB_two (x z:Int) (c:Co):holdsB x z c=((decide (x*c.d≤c.x)&&decide (c.x≤(x+1)*c.d))&&(decide (z*c.d≤c.z)&&decide (c.z≤(z+1)*c.d))):=by
  unfold holdsB
  simp only[Bool.and_assoc]
set_option maxHeartbeats 2000000 in
set_option maxRecDepth 100000 in
theorem k_holds (x z:Int) (c:Co) (w:World) (hc:Okc c) (hx : -1≤x∧x≤32) (hz : -1≤z∧z≤32) :
    Calls Tryz.prog 280 #[.agg #[.int .i64 x,.int .i64 z],.agg #[.int .i64 c.x,.int .i64 c.z,.int .i64 c.y,.int .i64 c.d]] w fun e w'=>e=.returned (.bool (holdsB x z c))∧New w w':=by
  rw[holdsB_two]
  have KP:=Lib.hid (fun W=>k_parts c.x c.z c.y c.d W)
  have K1:=fun W=>k_within c.x c.d x (x+1) W hc.2.1 hc.1 (by omega) (by omega)
  have K2:=fun W=>k_within c.z c.d z (z+1) W hc.2.2.1 hc.1 (by omega) (by omega)
  generalize (decide (x*c.d≤c.x)&&decide (c.x≤(x+1)*c.d))=b1 at *
  generalize (decide (z*c.d≤c.z)&&decide (c.z≤(z+1)*c.d))=b2 at *
  replace K1:=Lib.hid K1
  replace K2:=Lib.hid K2
  clear hc
  go_enter Tryz.func280,Tryz.ntmps280
  go_wp2_with fail
  refine(KP.out _).mono ?_
  rintro e W1 ⟨rfl,g1⟩
  have c0:W1.cell? ⟨w.heap.size,0,none⟩=some (.int .i64 x):=g1.1.keep (by go_simp)
  have c1:W1.cell? ⟨w.heap.size,1,none⟩=some (.int .i64 z):=g1.1.keep (by go_simp)
  have n1:New w W1:=New.trans (by exact nw) g1.1
  have z1:=n1.size
  clear g1
  go_upto_region 2 with fail
  refine Code.at (fun W2 hW=>?_)
  have n2:New W1 W2:=by subst hW;exact nw
  have e0:W2.cell? ⟨W1.heap.size,0,none⟩=some (.int .i64 c.x):=by subst hW;go_simp
  have e1:W2.cell? ⟨W1.heap.size,1,none⟩=some (.int .i64 c.d):=by subst hW;go_simp
  have e2:W2.cell? ⟨W1.heap.size+1,0,none⟩=some (.int .i64 c.z):=by subst hW;go_simp
  have e3:W2.cell? ⟨W1.heap.size+1,1,none⟩=some (.int .i64 c.d):=by subst hW;go_simp
  clear hW
  replace c0:=n2.keep c0
  replace c1:=n2.keep c1
  replace n2:=n1.trans n2
  clear n1
  cases b1
  · clear K2
    go_wp2_with fail
    refine(K1.out _).mono ?_
    rintro e W3 ⟨rfl,n3⟩
    go_wp2_with fail
    go_ret
    exact⟨rfl,n2.trans n3⟩
  · go_wp2_with fail
    refine(K1.out _).mono ?_
    rintro e W3 ⟨rfl,n3⟩
    replace c1:=n3.keep c1
    replace e2:=n3.keep e2
    replace e3:=n3.keep e3
    clear c0 e0 e1
    replace n2:=n2.trans n3
    clear n3
    go_wp2_with fail
    refine(K2.out _).mono ?_
    rintro e W4 ⟨rfl,n4⟩
    go_wp2_with fail
    go_ret
    exact⟨rfl,n2.trans n4⟩
def flC (c:Co):Int:=floorI c.y c.d
def clC (c:Co):Int:=ceilI c.y c.d
set_option maxHeartbeats 400000 in
theorem k_floor (y d:Int) (w:World):Calls Tryz.prog 229 #[.agg #[.int .i64 y,.int .i64 d]] w fun e w'=>e=.returned (.int .i64 (floorI y d))∧New w w':=by
  have K:=Lib.hid (fun W=>floor_any y d W)
  go_enter Tryz.func229,Tryz.ntmps229
  go_wp2_with fail
  refine(K.out _).mono ?_
  rintro e w' ⟨rfl,rfl⟩
  go_wp2_with fail
  go_ret
  exact⟨rfl,by exact nw⟩
set_option maxHeartbeats 400000 in
theorem k_ceil (y d:Int) (w:World):Calls Tryz.prog 230 #[.agg #[.int .i64 y,.int .i64 d]] w fun e w'=>e=.returned (.int .i64 (ceilI y d))∧New w w':=by
  have K:=Lib.hid (fun W=>ceil_any y d W)
  go_enter Tryz.func230,Tryz.ntmps230
  go_wp2_with fail
  refine(K.out _).mono ?_
  rintro e w' ⟨rfl,rfl⟩
  go_wp2_with fail
  go_ret
  exact⟨rfl,by exact nw⟩
def colB (n:Int):Bool:=decide (-1≤n∧n≤32)
set_option maxHeartbeats 400000 in
theorem k_col (n:Int) (w:World):Calls Tryz.prog 246 #[.int .i64 n] w fun e w'=>e=.returned (.bool (colB n))∧w=w':=by
  have hb:colB n=(decide (-1≤n)&&decide (n≤32)):=by unfold colB;rw[Bool.decide_and]
  rw[hb]
  clear hb
  cases t:decide (-1≤n)
  · go_enter Tryz.func246,Tryz.ntmps246
    go_wp2_with fail
    go_ret
    exact⟨rfl,rfl⟩
  · go_enter Tryz.func246,Tryz.ntmps246
    go_wp2_with fail
    go_ret
    exact⟨rfl,rfl⟩
def chkE (T:TriR):Int:=if okT T then 0 else 40
set_option maxHeartbeats 1000000 in
set_option maxRecDepth 100000 in
theorem k_check (T:TriR) (w:World):Calls Tryz.prog 226 #[.agg #[.int .i64 T.i,.int .i64 T.x0,.int .i64 T.y0,.int .i64 T.z0,.int .i64 T.x1,.int .i64 T.y1,.int .i64 T.z1,.int .i64 T.x2,.int .i64 T.y2,.int .i64 T.z2]] w fun e w'=>e=.returned (.int .i64 (chkE T))∧New w w':=by
  have K:=fun W=>t_normal T.i T.x0 T.y0 T.z0 T.x1 T.y1 T.z1 T.x2 T.y2 T.z2 W
  have e:normE T.x0 T.y0 T.z0 T.x1 T.y1 T.z1 T.x2 T.y2 T.z2=chkE T:=rfl
  rw[e]at K
  clear e
  generalize chkE T=v at *
  replace K:=Lib.hid K
  go_enter Tryz.func226,Tryz.ntmps226
  go_wp2_with fail
  refine(K.out _).mono ?_
  rintro e w' ⟨rfl,n1⟩
  go_wp2_with fail
  go_ret
  exact⟨rfl,New.trans (by exact nw) n1⟩
set_option maxHeartbeats 400000 in
theorem k_beyond (l:Ln) (vx vy vz:Int) (w:World) (h1:0≤l.bx∧l.bx≤1) (h2:0≤l.bz∧l.bz≤1) (h3 : -64≤l.at'∧l.at'≤64) (hx:0≤vx∧vx≤32) (hz:0≤vz∧vz≤32) :
    Calls Tryz.prog 283 #[.agg #[.int .i64 l.bx,.int .i64 l.bz,.int .i64 l.at'],.agg #[.int .i64 vx,.int .i64 vy,.int .i64 vz]] w fun e w'=>e=.returned (.int .i64 (l.off vx vz))∧New w w':=by
  have m1:=mul_bd (a:=l.bx) (b:=vx) (A:=1) (B:=32) (by omega) (by omega)
  have m2:=mul_bd (a:=l.bz) (b:=vz) (A:=1) (B:=32) (by omega) (by omega)
  unfold Ln.off
  go_enter Tryz.func283,Tryz.ntmps283
  go_wp2_with fail
  go_ret
  exact⟨rfl,by exact nw⟩
set_option maxHeartbeats 400000 in
theorem k_btw (p q m n:Int) (b b':Nat) (w:World) (hp:w.cell? ⟨b,0,none⟩=some (.int .i64 p)) (hq:w.cell? ⟨b',0,none⟩=some (.int .i64 q)) (bp : -1024≤p∧p≤1024) (bq : -1024≤q∧q≤1024) (bm : -4096≤m∧m≤4096) (bn : -4096≤n∧n≤4096) :
    Calls Tryz.prog 285 #[.int .i64 m,.int .i64 n,.pointer (some ⟨b,0,none⟩),.pointer (some ⟨b',0,none⟩)] w fun e w'=>e=.returned (.int .i64 (p*n - q*m))∧New w w':=by
  have m1:=mul_bd (a:=p) (b:=n) (A:=1024) (B:=4096) bp bn
  have m2:=mul_bd (a:=q) (b:=m) (A:=1024) (B:=4096) bq bm
  go_enter Tryz.func285,Tryz.ntmps285
  go_wp2_with fail
  go_ret
  exact⟨rfl,by exact nw⟩
def La.enc (p:Int×Int):List Value:=#[.int .i64 p.1,.int .i64 p.2].toList
theorem La.enc_len (p:Int×Int):(La.enc p).length=2:=rfl
def Ln.enc (l:Ln):List Value:=#[.int .i64 l.bx,.int .i64 l.bz,.int .i64 l.at'].toList
theorem Ln.enc_len (l:Ln):l.enc.length=3:=rfl
theorem rowAt_four {α:Type} {enc:α→List Value} {k:Nat} {w:World} {b:Nat} (x0 x1 x2 x3:α) (h0:CellsAt w b 0 (enc x0)) (h1:CellsAt w b k (enc x1)) (h2:CellsAt w b (2*k) (enc x2)) (h3:CellsAt w b (3*k) (enc x3)):RowAt enc k w b 0 [x0,x1,x2,x3]:=fun j hj=>by
  match j,hj with
  | 0,_=>simpa using h0
  | 1,_=>simpa using h1
  | 2,_=>simpa using h2
  | 3,_=>simpa using h3
  | j+4,hj=>exact absurd hj (by simp)
theorem heap_two (w:World) (o o':Obj):((w.alloc o).alloc o').heap[w.heap.size+1]? = some o':=by
  have h:=heap_new (w.alloc o) o'
  rwa [show(w.alloc o).heap.size=w.heap.size+1 by simp]at h
set_option maxHeartbeats 1000000 in
theorem k_corners (x z:Int) (w:World) (hx : -1≤x∧x≤32) (hz : -1≤z∧z≤32) :
    Calls Tryz.prog 267 #[.agg #[.int .i64 x,.int .i64 z]] w fun e w'=>∃ g,e=.returned (.slice (some ⟨g,0,none⟩) 4 4)∧RowAt La.enc 2 w' g 0 (cornL x z)∧(∃ cs fr,w'.heap[g]? = some (.cells cs 312 fr))∧New w w':=by
  go_enter Tryz.func267,Tryz.ntmps267
  go_wp2_with fail
  refine bodyPost_ret (v:=.slice (some ⟨w.heap.size+1,0,none⟩) 4 4) (by simp[results,Tryz.results267,go_sem]) rfl ?_
  refine⟨_,rfl,rowAt_four _ _ _ _ ?_ ?_ ?_ ?_,⟨_,_,heap_two _ _ _⟩,by exact nw⟩
  · intro i hi
    match i,hi with
    | 0,_=>go_simp;rfl
    | 1,_=>go_simp;rfl
    | i+2,hi=>exact absurd hi (by rw[La.enc_len];omega)
  · intro i hi
    match i,hi with
    | 0,_=>go_simp;rfl
    | 1,_=>go_simp;rfl
    | i+2,hi=>exact absurd hi (by rw[La.enc_len];omega)
  · intro i hi
    match i,hi with
    | 0,_=>go_simp;rfl
    | 1,_=>go_simp;rfl
    | i+2,hi=>exact absurd hi (by rw[La.enc_len];omega)
  · intro i hi
    match i,hi with
    | 0,_=>go_simp;rfl
    | 1,_=>go_simp;rfl
    | i+2,hi=>exact absurd hi (by rw[La.enc_len];omega)
set_option maxHeartbeats 1000000 in
theorem k_lines (x z:Int) (w:World) (hx : -1≤x∧x≤32) (hz : -1≤z∧z≤32) :
    Calls Tryz.prog 271 #[.agg #[.int .i64 x,.int .i64 z]] w fun e w'=>∃ g,e=.returned (.slice (some ⟨g,0,none⟩) 4 4)∧RowAt Ln.enc 3 w' g 0 (lineL x z)∧(∃ cs fr,w'.heap[g]? = some (.cells cs 340 fr))∧New w w':=by
  go_enter Tryz.func271,Tryz.ntmps271
  go_wp2_with fail
  refine bodyPost_ret (v:=.slice (some ⟨w.heap.size+1,0,none⟩) 4 4) (by simp[results,Tryz.results271,go_sem]) rfl ?_
  refine⟨_,rfl,rowAt_four _ _ _ _ ?_ ?_ ?_ ?_,⟨_,_,heap_two _ _ _⟩,by exact nw⟩
  · intro i hi
    match i,hi with
    | 0,_=>go_simp;rfl
    | 1,_=>go_simp;rfl
    | 2,_=>go_simp;rfl
    | i+3,hi=>exact absurd hi (by rw[Ln.enc_len];omega)
  · intro i hi
    match i,hi with
    | 0,_=>go_simp;rfl
    | 1,_=>go_simp;rfl
    | 2,_=>go_simp;rfl
    | i+3,hi=>exact absurd hi (by rw[Ln.enc_len];omega)
  · intro i hi
    match i,hi with
    | 0,_=>go_simp;rfl
    | 1,_=>go_simp;rfl
    | 2,_=>go_simp;rfl
    | i+3,hi=>exact absurd hi (by rw[Ln.enc_len];omega)
  · intro i hi
    match i,hi with
    | 0,_=>go_simp;rfl
    | 1,_=>go_simp;rfl
    | 2,_=>go_simp;rfl
    | i+3,hi=>exact absurd hi (by rw[Ln.enc_len];omega)
end Go.Proofs.YtmhghnbgllaihaaGreatDoor

namespace Go.Proofs.YtmhghnbgllaihaaGreatDoor
open Go.RowKit
set_option linter.unusedVariables false
structure Euc (G:Nat) (c r:Int):Prop where
  ne:c≠0
  g:Nat.gcd c.natAbs r.natAbs=G
theorem Euc.step {G:Nat} {c r:Int} (h:Euc G c r) (hr:r≠0):Euc G r (c.tmod r) :=
  ⟨hr,by have:=igcd_step c r hr;unfold Int.gcd at this;rw[this];exact h.g⟩
theorem Euc.stop {G:Nat} {c:Int} (h:Euc G c 0):c.natAbs=G:=by have:=h.g;simpa using this
theorem low_q {x z y d c:Int} (hd:d≠0) (h:c.natAbs=cg x z y d):c*(clampI c (-1) 1*clampI d (-1) 1)=d.sign*(cg x z y d:Int):=by
  have hc:c≠0:=by have:=cg_pos (x:=x) (z:=z) (y:=y) hd;omega
  rw[clamp_sign,clamp_sign,←h,abs_sign hc]
  grind
theorem low_val (x z y d:Int):low x z y d=⟨x.tdiv (d.sign*(cg x z y d:Int)),z.tdiv (d.sign*(cg x z y d:Int)),y.tdiv (d.sign*(cg x z y d:Int)),d.tdiv (d.sign*(cg x z y d:Int))⟩:=rfl
structure Lk (h:Nat) (x z y d:Int) (w:World):Prop where
  c0:w.cell? ⟨h,0,none⟩=some (.int .i64 x)
  c1:w.cell? ⟨h,1,none⟩=some (.int .i64 z)
  c2:w.cell? ⟨h,2,none⟩=some (.int .i64 y)
  c3:w.cell? ⟨h,3,none⟩=some (.int .i64 d)
  e0:w.cell? ⟨h+1,0,none⟩=some (.int .i64 0)
  e1:w.cell? ⟨h+1,1,none⟩=some (.int .i64 0)
  e2:w.cell? ⟨h+1,2,none⟩=some (.int .i64 0)
  e3:w.cell? ⟨h+1,3,none⟩=some (.int .i64 0)
  f0:w.frozen? ⟨h+1,0,none⟩=false
  f1:w.frozen? ⟨h+1,1,none⟩=false
  f2:w.frozen? ⟨h+1,2,none⟩=false
  f3:w.frozen? ⟨h+1,3,none⟩=false
theorem Lk.keep {h:Nat} {x z y d:Int} {w w':World} (H:Lk h x z y d w) (n:New w w'):Lk h x z y d w' :=
  ⟨n.keep H.c0,n.keep H.c1,n.keep H.c2,n.keep H.c3,n.keep H.e0,n.keep H.e1,n.keep H.e2,n.keep H.e3,n.keepF H.e0 H.f0,n.keepF H.e1 H.f1,n.keepF H.e2 H.f2,n.keepF H.e3 H.f3⟩
set_option maxHeartbeats 4000000 in
set_option maxRecDepth 100000 in
theorem k_lowest (x z y d:Int) (w:World) (hd:d≠0) (bx : -1099511627776≤x∧x≤1099511627776) (bz : -1099511627776≤z∧z≤1099511627776) (by' : -1099511627776≤y∧y≤1099511627776) (bd : -1099511627776≤d∧d≤1099511627776) :
    Calls Tryz.prog 286 #[.agg #[.int .i64 x,.int .i64 z,.int .i64 y,.int .i64 d]] w fun e w'=>e=.returned (.agg #[.int .i64 (low x z y d).x,.int .i64 (low x z y d).z,.int .i64 (low x z y d).y,.int .i64 (low x z y d).d])∧New w w':=by
  have HV:=Lib.hid (low_val x z y d)
  have HD:=Lib.hid hd
  have hlb:=low_bd (x:=x) (z:=z) (y:=y) hd
  obtain⟨L,hL⟩:∃ L,L=low x z y d:=⟨_,rfl⟩
  rw[←hL]at hlb HV ⊢
  clear hL
  have HLB:=Lib.hid hlb
  clear hd hlb
  have i0:∀ w,(Instr.index 365 (.agg #[.int .i64 x,.int .i64 z,.int .i64 y]) (.int .i64 0)).run Tryz.prog w=.ok (.int .i64 x) w:=fun _=>by kernel_rfl
  have i1:∀ w,(Instr.index 365 (.agg #[.int .i64 x,.int .i64 z,.int .i64 y]) (.int .i64 1)).run Tryz.prog w=.ok (.int .i64 z) w:=fun _=>by kernel_rfl
  have i2:∀ w,(Instr.index 365 (.agg #[.int .i64 x,.int .i64 z,.int .i64 y]) (.int .i64 2)).run Tryz.prog w=.ok (.int .i64 y) w:=fun _=>by kernel_rfl
  go_enter Tryz.func286,Tryz.ntmps286
  go_wp2_with fail
  refine Code.at (fun W0 hW=>?_)
  have hn:New w W0:=by subst hW;exact nw
  have c0:W0.cell? ⟨w.heap.size,0,none⟩=some (.int .i64 x):=by subst hW;go_simp
  have c1:W0.cell? ⟨w.heap.size,1,none⟩=some (.int .i64 z):=by subst hW;go_simp
  have c2:W0.cell? ⟨w.heap.size,2,none⟩=some (.int .i64 y):=by subst hW;go_simp
  have c3:W0.cell? ⟨w.heap.size,3,none⟩=some (.int .i64 d):=by subst hW;go_simp
  have e0:W0.cell? ⟨w.heap.size+1,0,none⟩=some (.int .i64 0):=by subst hW;go_simp
  have e1:W0.cell? ⟨w.heap.size+1,1,none⟩=some (.int .i64 0):=by subst hW;go_simp
  have e2:W0.cell? ⟨w.heap.size+1,2,none⟩=some (.int .i64 0):=by subst hW;go_simp
  have e3:W0.cell? ⟨w.heap.size+1,3,none⟩=some (.int .i64 0):=by subst hW;go_simp
  have f0:W0.frozen? ⟨w.heap.size+1,0,none⟩=false:=by subst hW;go_simp
  have f1:W0.frozen? ⟨w.heap.size+1,1,none⟩=false:=by subst hW;go_simp
  have f2:W0.frozen? ⟨w.heap.size+1,2,none⟩=false:=by subst hW;go_simp
  have f3:W0.frozen? ⟨w.heap.size+1,3,none⟩=false:=by subst hW;go_simp
  clear hW
  refine wp_loop_rounds 4 ?_
  have HK:Lk w.heap.size x z y d W0:=⟨c0,c1,c2,c3,e0,e1,e2,e3,f0,f1,f2,f3⟩
  clear c0 c1 c2 c3 e0 e1 e2 e3 f0 f1 f2 f3
  rw[rounds_succ]
  go_wp2_with fail
  go_loopg [3,5] x.natAbs (fun kx s3 s5 wr=>∃ c r:Int,s3=.int .i64 c∧s5=.int .i64 r∧r.natAbs≤kx∧Hid (Euc (Nat.gcd d.natAbs x.natAbs) c r)∧(-1099511627776≤c∧c≤1099511627776)∧(-1099511627776≤r∧r≤1099511627776)∧New w wr∧Lk w.heap.size x z y d wr)
  case atStart=>exact⟨d,x,rfl,rfl,Nat.le_refl _,Lib.hid ⟨HD.out,rfl⟩,bd,bx,hn,HK⟩
  case round =>
    obtain⟨c1,r,rfl,rfl,hkr,HE,hc1,hr,hn1,HK1⟩:=hrel
    by_cases h0:r=0
    rotate_left
    · have hz:(r==0)=false:=by rw[beq_eq_false_iff_ne];omega
      have hnz:(r != 0)=true:=by rw[bne_iff_ne];omega
      obtain⟨q,hq⟩:∃ q,c1.tmod r=q:=⟨_,rfl⟩
      have hlt:q.natAbs<r.natAbs:=by rw[←hq,Int.natAbs_tmod];exact Nat.mod_lt _ (by omega)
      have HE2:Hid (Euc (Nat.gcd d.natAbs x.natAbs) r q):=by rw[←hq];exact Lib.hid (HE.out.step h0)
      clear HE h0
      go_wp2_with fail
      go_quiet (fail)
      go_wp2_with fail
      go_roundg q.natAbs
      case measure=>omega
      case rel=>exact⟨r,q,rfl,rfl,Nat.le_refl _,HE2,hr,by omega,by exact nw,HK1.keep (by exact nw)⟩
    subst h0
    have N1:Hid (c1≠0∧c1.natAbs=Nat.gcd d.natAbs x.natAbs):=Lib.hid ⟨HE.out.ne,HE.out.stop⟩
    clear HE hkr hr HK
    go_wp2_with fail
    rw[rounds_succ]
    go_wp2_with fail
    go_loopg [3,5] z.natAbs (fun kx s3 s5 wr=>∃ c r:Int,s3=.int .i64 c∧s5=.int .i64 r∧r.natAbs≤kx∧Hid (Euc (Nat.gcd (Nat.gcd d.natAbs x.natAbs) z.natAbs) c r)∧(-1099511627776≤c∧c≤1099511627776)∧(-1099511627776≤r∧r≤1099511627776)∧New w wr∧Lk w.heap.size x z y d wr)
    case atStart=>exact⟨c1,z,rfl,rfl,Nat.le_refl _,Lib.hid ⟨N1.out.1,by rw[N1.out.2]⟩,hc1,bz,hn1,HK1⟩
    case round =>
      obtain⟨c2,r,rfl,rfl,hkr,HE,hc2,hr,hn2,HK2⟩:=hrel
      by_cases h0:r=0
      rotate_left
      · have hz:(r==0)=false:=by rw[beq_eq_false_iff_ne];omega
        have hnz:(r != 0)=true:=by rw[bne_iff_ne];omega
        obtain⟨q,hq⟩:∃ q,c2.tmod r=q:=⟨_,rfl⟩
        have hlt:q.natAbs<r.natAbs:=by rw[←hq,Int.natAbs_tmod];exact Nat.mod_lt _ (by omega)
        have HE2:Hid (Euc (Nat.gcd (Nat.gcd d.natAbs x.natAbs) z.natAbs) r q):=by rw[←hq];exact Lib.hid (HE.out.step h0)
        clear HE h0
        go_wp2_with fail
        go_quiet (fail)
        go_wp2_with fail
        go_roundg q.natAbs
        case measure=>omega
        case rel=>exact⟨r,q,rfl,rfl,Nat.le_refl _,HE2,hr,by omega,by exact nw,HK2.keep (by exact nw)⟩
      subst h0
      have N2:Hid (c2≠0∧c2.natAbs=Nat.gcd (Nat.gcd d.natAbs x.natAbs) z.natAbs):=Lib.hid ⟨HE.out.ne,HE.out.stop⟩
      clear HE hkr hr HK1
      go_wp2_with fail
      rw[rounds_succ]
      go_wp2_with fail
      go_loopg [3,5] y.natAbs (fun kx s3 s5 wr=>∃ c r:Int,s3=.int .i64 c∧s5=.int .i64 r∧r.natAbs≤kx∧Hid (Euc (Nat.gcd (Nat.gcd (Nat.gcd d.natAbs x.natAbs) z.natAbs) y.natAbs) c r)∧(-1099511627776≤c∧c≤1099511627776)∧(-1099511627776≤r∧r≤1099511627776)∧New w wr∧Lk w.heap.size x z y d wr)
      case atStart=>exact⟨c2,y,rfl,rfl,Nat.le_refl _,Lib.hid ⟨N2.out.1,by rw[N2.out.2]⟩,hc2,by',hn2,HK2⟩
      case round =>
        obtain⟨c3,r,rfl,rfl,hkr,HE,hc3,hr,hn3,HK3⟩:=hrel
        by_cases h0:r=0
        rotate_left
        · have hz:(r==0)=false:=by rw[beq_eq_false_iff_ne];omega
          have hnz:(r != 0)=true:=by rw[bne_iff_ne];omega
          obtain⟨q,hq⟩:∃ q,c3.tmod r=q:=⟨_,rfl⟩
          have hlt:q.natAbs<r.natAbs:=by rw[←hq,Int.natAbs_tmod];exact Nat.mod_lt _ (by omega)
          have HE2:Hid (Euc (Nat.gcd (Nat.gcd (Nat.gcd d.natAbs x.natAbs) z.natAbs) y.natAbs) r q):=by rw[←hq];exact Lib.hid (HE.out.step h0)
          clear HE h0
          go_wp2_with fail
          go_quiet (fail)
          go_wp2_with fail
          go_roundg q.natAbs
          case measure=>omega
          case rel=>exact⟨r,q,rfl,rfl,Nat.le_refl _,HE2,hr,by omega,by exact nw,HK3.keep (by exact nw)⟩
        subst h0
        have N3:Hid (c3≠0∧c3.natAbs=Nat.gcd (Nat.gcd (Nat.gcd d.natAbs x.natAbs) z.natAbs) y.natAbs):=Lib.hid ⟨HE.out.ne,HE.out.stop⟩
        clear HE hkr hr HK2
        go_wp2_with fail
        rw[rounds_succ]
        obtain⟨q,hq⟩:∃ q,q=c3*(clampI c3 (-1) 1*clampI d (-1) 1):=⟨_,rfl⟩
        have hq':q=d.sign*(cg x z y d:Int):=by rw[hq];exact low_q HD.out N3.out.2
        obtain⟨q0,QX,QZ,QY,QD⟩:q≠0∧x.tdiv q=L.x∧z.tdiv q=L.z∧y.tdiv q=L.y∧d.tdiv q=L.d:=by
          rw[HV.out,←hq']
          refine⟨?_,rfl,rfl,rfl,rfl⟩
          intro e
          rw[hq]at e
          have hcne:=N3.out.1
          have h1:=Int.mul_eq_zero.1 e
          rw[clamp_sign,clamp_sign]at h1
          rcases h1 with h1|h1
          · exact hcne h1
          · rcases Int.mul_eq_zero.1 h1 with h2|h2
            · exact hcne (Int.sign_eq_zero_iff_zero.1 h2)
            · exact HD.out (Int.sign_eq_zero_iff_zero.1 h2)
        obtain⟨s1,hs1⟩:∃ s,s=clampI c3 (-1) 1:=⟨_,rfl⟩
        obtain⟨s2,hs2⟩:∃ s,s=clampI d (-1) 1:=⟨_,rfl⟩
        have T1:∀ w,Calls Tryz.prog 284 #[.int .i64 c3] w fun e w'=>e=.returned (.int .i64 s1)∧w=w':=fun w=>by rw[hs1];exact sign_any c3 w
        have T2:∀ w,Calls Tryz.prog 284 #[.int .i64 d] w fun e w'=>e=.returned (.int .i64 s2)∧w=w':=fun w=>by rw[hs2];exact sign_any d w
        have b4 : -1≤s1∧s1≤1:=by rw[hs1];unfold clampI;omega
        have b5 : -1≤s2∧s2≤1:=by rw[hs2];unfold clampI;omega
        rw[←hs1,←hs2]at hq
        have bm:=mul_bd (a:=s1) (b:=s2) (A:=1) (B:=1) b4 b5
        obtain⟨m,hm⟩:∃ m,s1*s2=m:=⟨_,rfl⟩
        rw[hm]at hq bm
        have bq:=mul_bd (a:=c3) (b:=m) (A:=1099511627776) (B:=1) hc3 bm
        have hq2:c3*m=q:=hq.symm
        rw[hq2]at bq
        have hz:(q==0)=false:=by rw[beq_eq_false_iff_ne];exact q0
        obtain⟨l1,l2,l3,l4⟩:=HLB.out
        obtain⟨c0,g1,g2,g3,e0,e1,e2,e3,f0,f1,f2,f3⟩:=HK3
        replace T1:=Lib.hid T1
        replace T2:=Lib.hid T2
        clear hs1 hs2 hq hq' HV HLB N1 N2 N3 hn hn1 hn2 hc1 hc2
        go_wp2_with fail
        (refine wp_region_hat (by kernel_rfl) (by kernel_rfl) ?_;intro hatc hatf;(repeat(go_big_quiet_step ((go_at_call 284;first|(with_reducible exact Calls.hat_same (T1.out _))|(with_reducible exact Calls.hat_same (T2.out _))))));refine wpQuiet_nil ?_;rintro _ ⟨X,rfl⟩)
        clear hatc hatf T1 T2
        replace hn3:=hn3.trans X.h
        (replace c0:=New.keep X.h c0;replace g1:=New.keep X.h g1;replace g2:=New.keep X.h g2;replace g3:=New.keep X.h g3)
        (replace f0:=New.keepF X.h e0 f0;replace f1:=New.keepF X.h e1 f1;replace f2:=New.keepF X.h e2 f2;replace f3:=New.keepF X.h e3 f3)
        (replace e0:=New.keep X.h e0;replace e1:=New.keep X.h e1;replace e2:=New.keep X.h e2;replace e3:=New.keep X.h e3)
        generalize X.w=W9 at *
        clear X
        go_wp2_with fail
        have wx:IntKind.i64.wrap L.x=L.x:=IntWalk.i64_in _ (by omega)
        have wz:IntKind.i64.wrap L.z=L.z:=IntWalk.i64_in _ (by omega)
        have wy:IntKind.i64.wrap L.y=L.y:=IntWalk.i64_in _ (by omega)
        have wd:IntKind.i64.wrap L.d=L.d:=IntWalk.i64_in _ (by omega)
        go_region
        all_goals
          go_wp2_with fail
          refine bodyPost_ret (v:=.agg #[.int .i64 L.x,.int .i64 L.z,.int .i64 L.y,.int .i64 L.d]) (by simp[results,Tryz.results286,go_sem, *]) rfl ?_
          exact⟨rfl,by exact nw⟩
end Go.Proofs.YtmhghnbgllaihaaGreatDoor

namespace Go.Proofs.YtmhghnbgllaihaaGreatDoor
open Go.RowKit
set_option linter.unusedVariables false
theorem c_cross (a b c d:Int) (w:World) (ha : -1024≤a∧a≤1024) (hb : -1024≤b∧b≤1024) (hc : -1024≤c∧c≤1024) (hd : -1024≤d∧d≤1024) :
    Calls Tryz.prog 184 #[.int .i64 a,.int .i64 b,.int .i64 c,.int .i64 d] w fun e w'=>e=.returned (.tuple #[.int .i64 (a*d - b*c),.int .i64 0])∧w=w':=by
  have h:crossB a b c d=true:=by
    unfold crossB
    rw[nearB_iff,nearB_iff,nearB_iff,nearB_iff]
    simp only[Bool.and_eq_true,decide_eq_true_eq]
    omega
  have:=cross_any a b c d w
  unfold crossI at this
  rw[h]at this
  exact this
theorem insB_not {T:TriR} {px pz:Int}:insB T px pz=((min 0 (min (s0 T px pz) (min (s1 T px pz) (s2 T px pz)))==0)||(max 0 (max (s0 T px pz) (max (s1 T px pz) (s2 T px pz)))==0)):=by
  rw[Bool.eq_iff_iff,insB_iff]
  simp only[Bool.or_eq_true,beq_iff_eq]
  omega
set_option maxHeartbeats 4000000 in
set_option maxRecDepth 100000 in
theorem k_inside (T:TriR) (px pz:Int) (w:World) (hs:StP 32 32 T.x0 T.y0 T.z0 T.x1 T.y1 T.z1 T.x2 T.y2 T.z2) (hx : -64≤px∧px≤64) (hz : -64≤pz∧pz≤64) :
    Calls Tryz.prog 281 #[.agg #[.int .i64 T.i,.int .i64 T.x0,.int .i64 T.y0,.int .i64 T.z0,.int .i64 T.x1,.int .i64 T.y1,.int .i64 T.z1,.int .i64 T.x2,.int .i64 T.y2,.int .i64 T.z2],.agg #[.int .i64 px,.int .i64 pz]] w fun e w'=>e=.returned (.bool (insB T px pz))∧New w w':=by
  unfold StP StV at hs
  obtain⟨⟨⟨X0,X0'⟩,⟨Z0,Z0'⟩,-⟩,⟨⟨X1,X1'⟩,⟨Z1,Z1'⟩,-⟩,⟨⟨X2,X2'⟩,⟨Z2,Z2'⟩,-⟩⟩:=hs
  have K0:∀ W,Calls Tryz.prog 184 #[.int .i64 (T.x1 - T.x0),.int .i64 (T.z1 - T.z0),.int .i64 (px - T.x0),.int .i64 (pz - T.z0)] W fun e w'=>e=.returned (.tuple #[.int .i64 (s0 T px pz),.int .i64 0])∧W=w':=fun W=>c_cross _ _ _ _ W (by omega) (by omega) (by omega) (by omega)
  have K1:∀ W,Calls Tryz.prog 184 #[.int .i64 (T.x2 - T.x1),.int .i64 (T.z2 - T.z1),.int .i64 (px - T.x1),.int .i64 (pz - T.z1)] W fun e w'=>e=.returned (.tuple #[.int .i64 (s1 T px pz),.int .i64 0])∧W=w':=fun W=>c_cross _ _ _ _ W (by omega) (by omega) (by omega) (by omega)
  have K2:∀ W,Calls Tryz.prog 184 #[.int .i64 (T.x0 - T.x2),.int .i64 (T.z0 - T.z2),.int .i64 (px - T.x2),.int .i64 (pz - T.z2)] W fun e w'=>e=.returned (.tuple #[.int .i64 (s2 T px pz),.int .i64 0])∧W=w':=fun W=>c_cross _ _ _ _ W (by omega) (by omega) (by omega) (by omega)
  have HB:=Lib.hid (insB_not (T:=T) (px:=px) (pz:=pz))
  generalize s0 T px pz=k0 at *
  generalize s1 T px pz=k1 at *
  generalize s2 T px pz=k2 at *
  generalize insB T px pz=r at *
  replace K0:=Lib.hid K0
  replace K1:=Lib.hid K1
  replace K2:=Lib.hid K2
  go_enter Tryz.func281,Tryz.ntmps281
  go_wp2_with fail
  refine Code.at (fun W0 hW=>?_)
  have hn:New w W0:=by subst hW;exact nw
  have c1:W0.cell? ⟨w.heap.size,1,none⟩=some (.int .i64 T.x0):=by subst hW;go_simp
  have c2:W0.cell? ⟨w.heap.size,2,none⟩=some (.int .i64 T.y0):=by subst hW;go_simp
  have c3:W0.cell? ⟨w.heap.size,3,none⟩=some (.int .i64 T.z0):=by subst hW;go_simp
  have c4:W0.cell? ⟨w.heap.size,4,none⟩=some (.int .i64 T.x1):=by subst hW;go_simp
  have c5:W0.cell? ⟨w.heap.size,5,none⟩=some (.int .i64 T.y1):=by subst hW;go_simp
  have c6:W0.cell? ⟨w.heap.size,6,none⟩=some (.int .i64 T.z1):=by subst hW;go_simp
  have c7:W0.cell? ⟨w.heap.size,7,none⟩=some (.int .i64 T.x2):=by subst hW;go_simp
  have c8:W0.cell? ⟨w.heap.size,8,none⟩=some (.int .i64 T.y2):=by subst hW;go_simp
  have c9:W0.cell? ⟨w.heap.size,9,none⟩=some (.int .i64 T.z2):=by subst hW;go_simp
  have b0:W0.cell? ⟨w.heap.size+1,0,none⟩=some (.int .i64 px):=by subst hW;go_simp
  have b1:W0.cell? ⟨w.heap.size+1,1,none⟩=some (.int .i64 pz):=by subst hW;go_simp
  clear hW
  have zz:=World.block_lt_of_cell? _ _ c1
  simp only[]at zz
  refine wp_loop_rounds 4 ?_
  rw[rounds_succ]
  go_upto_region 5 with fail
  go_cut [8,9] (fun s8 s9 Z=>∃ b b':Nat,s8=.pointer (some ⟨b,0,none⟩)∧s9=.pointer (some ⟨b',0,none⟩)∧New W0 Z∧Z.cell? ⟨b,0,none⟩=some (.int .i64 T.x0)∧Z.cell? ⟨b,2,none⟩=some (.int .i64 T.z0)∧Z.cell? ⟨b',0,none⟩=some (.int .i64 T.x1)∧Z.cell? ⟨b',2,none⟩=some (.int .i64 T.z1))
  case first =>
    go_region
    all_goals
      go_wp2_with fail
      go_meet
      exact⟨_,_,rfl,rfl,by exact nw,by go_simp,by go_simp,by go_simp,by go_simp⟩
  case rest =>
    obtain⟨u0,v0,rfl,rfl,nZ,p0,p2,q0,q2⟩:=hcut
    replace c1:=nZ.keep c1
    replace c2:=nZ.keep c2
    replace c3:=nZ.keep c3
    replace c4:=nZ.keep c4
    replace c5:=nZ.keep c5
    replace c6:=nZ.keep c6
    replace c7:=nZ.keep c7
    replace c8:=nZ.keep c8
    replace c9:=nZ.keep c9
    replace zz:=World.block_lt_of_cell? _ _ c1
    simp only[]at zz
    replace b0:=nZ.keep b0
    replace b1:=nZ.keep b1
    replace hn:=hn.trans nZ
    clear nZ
    rename World=>W1
    go_wp2_with fail
    refine(K0.out _).mono ?_
    rintro e w' ⟨rfl,rfl⟩
    clear p0 p2 q0 q2 K0
    go_wp2_with fail
    rw[rounds_succ]
    go_upto_region 5 with fail
    go_cut [8,9] (fun s8 s9 Z=>∃ b b':Nat,s8=.pointer (some ⟨b,0,none⟩)∧s9=.pointer (some ⟨b',0,none⟩)∧New W1 Z∧Z.cell? ⟨b,0,none⟩=some (.int .i64 T.x1)∧Z.cell? ⟨b,2,none⟩=some (.int .i64 T.z1)∧Z.cell? ⟨b',0,none⟩=some (.int .i64 T.x2)∧Z.cell? ⟨b',2,none⟩=some (.int .i64 T.z2))
    case first =>
      go_region
      all_goals
        go_wp2_with fail
        go_meet
        exact⟨_,_,rfl,rfl,by exact nw,by go_simp,by go_simp,by go_simp,by go_simp⟩
    case rest =>
      obtain⟨u1,v1,rfl,rfl,nZ,p0,p2,q0,q2⟩:=hcut
      replace c1:=nZ.keep c1
      replace c2:=nZ.keep c2
      replace c3:=nZ.keep c3
      replace c4:=nZ.keep c4
      replace c5:=nZ.keep c5
      replace c6:=nZ.keep c6
      replace c7:=nZ.keep c7
      replace c8:=nZ.keep c8
      replace c9:=nZ.keep c9
      replace zz:=World.block_lt_of_cell? _ _ c1
      simp only[]at zz
      replace b0:=nZ.keep b0
      replace b1:=nZ.keep b1
      replace hn:=hn.trans nZ
      clear nZ
      rename World=>W2
      go_wp2_with fail
      refine(K1.out _).mono ?_
      rintro e w' ⟨rfl,rfl⟩
      clear p0 p2 q0 q2 K1
      go_wp2_with fail
      rw[rounds_succ]
      go_upto_region 5 with fail
      go_cut [8,9] (fun s8 s9 Z=>∃ b b':Nat,s8=.pointer (some ⟨b,0,none⟩)∧s9=.pointer (some ⟨b',0,none⟩)∧New W2 Z∧Z.cell? ⟨b,0,none⟩=some (.int .i64 T.x2)∧Z.cell? ⟨b,2,none⟩=some (.int .i64 T.z2)∧Z.cell? ⟨b',0,none⟩=some (.int .i64 T.x0)∧Z.cell? ⟨b',2,none⟩=some (.int .i64 T.z0))
      case first =>
        go_region
        all_goals
          go_wp2_with fail
          go_meet
          exact⟨_,_,rfl,rfl,by exact nw,by go_simp,by go_simp,by go_simp,by go_simp⟩
      case rest =>
        obtain⟨u2,v2,rfl,rfl,nZ,p0,p2,q0,q2⟩:=hcut
        replace b0:=nZ.keep b0
        replace b1:=nZ.keep b1
        replace hn:=hn.trans nZ
        clear nZ
        rename World=>W3
        go_wp2_with fail
        refine(K2.out _).mono ?_
        rintro e w' ⟨rfl,rfl⟩
        clear p0 p2 q0 q2 K2
        go_wp2_with fail
        rw[rounds_succ]
        go_wp2_with fail
        all_goals
          go_ret
          refine⟨retB ?_,hn⟩
          first|exact HB.out.symm|(rw[HB.out];symm;simp only[Bool.or_eq_true,beq_iff_eq];omega)|(rw[HB.out];symm;simp only[Bool.or_eq_false_iff,beq_eq_false_iff_ne];omega)
set_option maxHeartbeats 4000000 in
set_option maxRecDepth 100000 in
theorem k_above (T:TriR) (hk:okT T=true) (px pz:Int) (w:World) (hx : -64≤px∧px≤64) (hz : -64≤pz∧pz≤64) (r:Option Co) (hr:aboveO T (px,pz)=r) :
    Calls Tryz.prog 269 #[.agg #[.int .i64 T.i,.int .i64 T.x0,.int .i64 T.y0,.int .i64 T.z0,.int .i64 T.x1,.int .i64 T.y1,.int .i64 T.z1,.int .i64 T.x2,.int .i64 T.y2,.int .i64 T.z2],.agg #[.int .i64 px,.int .i64 pz]] w fun e w'=>e=.returned (.tuple #[.agg #[.int .i64 (r.elim 0 Co.x),.int .i64 (r.elim 0 Co.z),.int .i64 (r.elim 0 Co.y),.int .i64 (r.elim 0 Co.d)],.bool r.isSome])∧New w w':=by
  have KI:=fun W=>k_inside T px pz W (ok_in hk) hx hz
  have KH:=fun W=>t_height T.i T.x0 T.y0 T.z0 T.x1 T.y1 T.z1 T.x2 T.y2 T.z2 px pz W
  rw[(hT_ok hk hx hz).2.2]at KH
  have hb:=abC_bd hk hx hz
  change ∀ W,Calls Tryz.prog 282 _ W fun e w'=>e=.returned (.tuple #[.int .i64 (hnT T px pz),.int .i64 (hdT T px pz),.int .i64 0])∧New W w' at KH
  unfold aboveO at hr
  simp only[abC]at hr
  generalize hnT T px pz=hn' at *
  generalize hdT T px pz=hd' at *
  have m1:=mul_bd (a:=px) (b:=hd') (A:=64) (B:=2048) hx (by omega)
  have m2:=mul_bd (a:=pz) (b:=hd') (A:=64) (B:=2048) hz (by omega)
  replace KH:=Lib.hid KH
  cases hi:insB T px pz
  · rw[hi]at KI hr
    have e:r=none:=by rw[←hr];rfl
    subst e
    simp only[Option.elim_none,Option.isSome_none]
    replace KI:=Lib.hid KI
    clear hr hi KH
    go_enter Tryz.func269,Tryz.ntmps269
    go_wp2_with fail
    refine(KI.out _).mono ?_
    rintro e W1 ⟨rfl,n1⟩
    have fz:W1.cell? ⟨w.heap.size+1+1,0,none⟩=some (.int .i64 0):=n1.keep (by go_simp)
    have f0:∀ o,o<4→W1.frozen? ⟨w.heap.size+1+1,o,none⟩=false∧W1.cell? ⟨w.heap.size+1+1,o,none⟩=some (.int .i64 0):=fun o ho=>by
      match o,ho with
      | 0,_=>exact⟨n1.keepF (v:=.int .i64 0) (by go_simp) (by go_simp),n1.keep (by go_simp)⟩
      | 1,_=>exact⟨n1.keepF (v:=.int .i64 0) (by go_simp) (by go_simp),n1.keep (by go_simp)⟩
      | 2,_=>exact⟨n1.keepF (v:=.int .i64 0) (by go_simp) (by go_simp),n1.keep (by go_simp)⟩
      | 3,_=>exact⟨n1.keepF (v:=.int .i64 0) (by go_simp) (by go_simp),n1.keep (by go_simp)⟩
    obtain⟨g0,c0⟩:=f0 0 (by omega)
    obtain⟨g1,c1⟩:=f0 1 (by omega)
    obtain⟨g2,c2⟩:=f0 2 (by omega)
    obtain⟨g3,c3⟩:=f0 3 (by omega)
    have hn:New w W1:=New.trans (by exact nw) n1
    clear f0 fz n1
    go_wp2_with fail
    refine bodyPost_ret (v:=.tuple #[.agg #[.int .i64 0,.int .i64 0,.int .i64 0,.int .i64 0],.bool false]) (by simp[results,Tryz.results269,go_sem, *]) rfl ?_
    exact⟨rfl,by exact nw⟩
  · rw[hi]at KI hr
    have e:r=some ⟨px*hd',pz*hd',hn',hd'⟩:=by rw[←hr];rfl
    subst e
    simp only[Option.elim_some,Option.isSome_some]
    replace KI:=Lib.hid KI
    clear hr hi
    go_enter Tryz.func269,Tryz.ntmps269
    go_wp2_with fail
    refine(KI.out _).mono ?_
    rintro e W1 ⟨rfl,n1⟩
    have c0:W1.cell? ⟨w.heap.size,0,none⟩=some (.int .i64 T.i):=n1.keep (by go_simp)
    have c1:W1.cell? ⟨w.heap.size,1,none⟩=some (.int .i64 T.x0):=n1.keep (by go_simp)
    have c2:W1.cell? ⟨w.heap.size,2,none⟩=some (.int .i64 T.y0):=n1.keep (by go_simp)
    have c3:W1.cell? ⟨w.heap.size,3,none⟩=some (.int .i64 T.z0):=n1.keep (by go_simp)
    have c4:W1.cell? ⟨w.heap.size,4,none⟩=some (.int .i64 T.x1):=n1.keep (by go_simp)
    have c5:W1.cell? ⟨w.heap.size,5,none⟩=some (.int .i64 T.y1):=n1.keep (by go_simp)
    have c6:W1.cell? ⟨w.heap.size,6,none⟩=some (.int .i64 T.z1):=n1.keep (by go_simp)
    have c7:W1.cell? ⟨w.heap.size,7,none⟩=some (.int .i64 T.x2):=n1.keep (by go_simp)
    have c8:W1.cell? ⟨w.heap.size,8,none⟩=some (.int .i64 T.y2):=n1.keep (by go_simp)
    have c9:W1.cell? ⟨w.heap.size,9,none⟩=some (.int .i64 T.z2):=n1.keep (by go_simp)
    have b0:W1.cell? ⟨w.heap.size+1,0,none⟩=some (.int .i64 px):=n1.keep (by go_simp)
    have b1:W1.cell? ⟨w.heap.size+1,1,none⟩=some (.int .i64 pz):=n1.keep (by go_simp)
    have f0:W1.frozen? ⟨w.heap.size+1+1,0,none⟩=false:=n1.keepF (v:=.int .i64 0) (by go_simp) (by go_simp)
    have e0:W1.cell? ⟨w.heap.size+1+1,0,none⟩=some (.int .i64 0):=n1.keep (by go_simp)
    have f1:W1.frozen? ⟨w.heap.size+1+1,1,none⟩=false:=n1.keepF (v:=.int .i64 0) (by go_simp) (by go_simp)
    have e1:W1.cell? ⟨w.heap.size+1+1,1,none⟩=some (.int .i64 0):=n1.keep (by go_simp)
    have f2:W1.frozen? ⟨w.heap.size+1+1,2,none⟩=false:=n1.keepF (v:=.int .i64 0) (by go_simp) (by go_simp)
    have e2:W1.cell? ⟨w.heap.size+1+1,2,none⟩=some (.int .i64 0):=n1.keep (by go_simp)
    have f3:W1.frozen? ⟨w.heap.size+1+1,3,none⟩=false:=n1.keepF (v:=.int .i64 0) (by go_simp) (by go_simp)
    have e3:W1.cell? ⟨w.heap.size+1+1,3,none⟩=some (.int .i64 0):=n1.keep (by go_simp)
    have hn:New w W1:=New.trans (by exact nw) n1
    clear n1
    go_wp2_with fail
    refine(KH.out _).mono ?_
    rintro e W2 ⟨rfl,n2⟩
    replace b0:=n2.keep b0
    replace b1:=n2.keep b1
    replace f0:=n2.keepF e0 f0
    replace e0:=n2.keep e0
    replace f1:=n2.keepF e1 f1
    replace e1:=n2.keep e1
    replace f2:=n2.keepF e2 f2
    replace e2:=n2.keep e2
    replace f3:=n2.keepF e3 f3
    replace e3:=n2.keep e3
    replace hn:=hn.trans n2
    clear n2 c0 c1 c2 c3 c4 c5 c6 c7 c8 c9
    go_wp2_with fail
    refine bodyPost_ret (v:=.tuple #[.agg #[.int .i64 (px*hd'),.int .i64 (pz*hd'),.int .i64 hn',.int .i64 hd'],.bool true]) (by simp[results,Tryz.results269,go_sem, *]) rfl ?_
    exact⟨rfl,by exact nw⟩
end Go.Proofs.YtmhghnbgllaihaaGreatDoor
