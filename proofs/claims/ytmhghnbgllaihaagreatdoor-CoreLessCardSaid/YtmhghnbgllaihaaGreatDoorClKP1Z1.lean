import Derived.Test.YtmhghnbgllaihaaGreatDoorClIP1Z1
import Derived.Deep.DeepCutAuto
import Derived.Test.YtmhghnbgllaihaaGreatDoorRaMP1Z1

namespace Go.Proofs.YtmhghnbgllaihaaGreatDoor
open Go.RowKit
set_option linter.unusedVariables false
structure SdOk (s:Sd):Prop where
  ax:0≤s.ax∧s.ax≤32
  az:0≤s.az∧s.az≤32
  ay : -2048≤s.ay∧s.ay≤2048
  bx:0≤s.bx∧s.bx≤32
  bz:0≤s.bz∧s.bz≤32
  by' : -2048≤s.by'∧s.by'≤2048
structure LnOk (l:Ln):Prop where
  bx:0≤l.bx∧l.bx≤1
  bz:0≤l.bz∧l.bz≤1
  at' : -64≤l.at'∧l.at'≤64
theorem off_bd {l:Ln} (hl:LnOk l) {vx vz:Int} (hx:0≤vx∧vx≤32) (hz:0≤vz∧vz≤32) : -128≤l.off vx vz∧l.off vx vz≤128:=by
  have m1:=mul_bd (a:=l.bx) (b:=vx) (A:=1) (B:=32) (by have:=hl.bx;omega) (by omega)
  have m2:=mul_bd (a:=l.bz) (b:=vz) (A:=1) (B:=32) (by have:=hl.bz;omega) (by omega)
  have:=hl.at'
  unfold Ln.off
  omega
theorem crC_ok {s:Sd} {l:Ln} (hs:SdOk s) (hl:LnOk l) (h:(s.p l).sign≠(s.q l).sign):Okc (crC s l):=by
  have b1:=off_bd hl hs.ax hs.az
  have b2:=off_bd hl hs.bx hs.bz
  have hp:=(crC_at h).1.1
  have hne:=(sg_ne h).1
  unfold crC at *
  have hb:=low_bd (x:=s.p l*s.bx - s.q l*s.ax) (z:=s.p l*s.bz - s.q l*s.az) (y:=s.p l*s.by' - s.q l*s.ay) hne
  have h1 : -128≤s.p l∧s.p l≤128:=b1
  have h2 : -128≤s.q l∧s.q l≤128:=b2
  obtain⟨k1,k2,k3,k4,k5,k6⟩:=hs
  have m1:=mul_bd (a:=s.p l) (b:=s.bx) (A:=128) (B:=32) h1 (by omega)
  have m2:=mul_bd (a:=s.q l) (b:=s.ax) (A:=128) (B:=32) h2 (by omega)
  have m3:=mul_bd (a:=s.p l) (b:=s.bz) (A:=128) (B:=32) h1 (by omega)
  have m4:=mul_bd (a:=s.q l) (b:=s.az) (A:=128) (B:=32) h2 (by omega)
  have m5:=mul_bd (a:=s.p l) (b:=s.by') (A:=128) (B:=2048) h1 (by omega)
  have m6:=mul_bd (a:=s.q l) (b:=s.ay) (A:=128) (B:=2048) h2 (by omega)
  unfold Okc
  omega
set_option maxHeartbeats 4000000 in
set_option maxRecDepth 100000 in
theorem k_cross (s:Sd) (l:Ln) (w:World) (hs:SdOk s) (hl:LnOk l) (r:Option Co) (hr:crossO s l=r) :
    Calls Tryz.prog 272 #[.agg #[.int .i64 s.ax,.int .i64 s.ay,.int .i64 s.az,.int .i64 s.bx,.int .i64 s.by',.int .i64 s.bz],.agg #[.int .i64 l.bx,.int .i64 l.bz,.int .i64 l.at']] w fun e w'=>e=.returned (.tuple #[.agg #[.int .i64 (r.elim 0 Co.x),.int .i64 (r.elim 0 Co.z),.int .i64 (r.elim 0 Co.y),.int .i64 (r.elim 0 Co.d)],.bool r.isSome])∧New w w':=by
  have b1:=off_bd hl hs.ax hs.az
  have b2:=off_bd hl hs.bx hs.bz
  have KA:=fun W=>k_beyond l s.ax s.ay s.az W hl.bx hl.bz hl.at' hs.ax hs.az
  have KB:=fun W=>k_beyond l s.bx s.by' s.bz W hl.bx hl.bz hl.at' hs.bx hs.bz
  change ∀ W,Calls _ _ _ _ (fun e w'=>e=.returned (.int .i64 (s.p l))∧New W w')at KA
  change ∀ W,Calls _ _ _ _ (fun e w'=>e=.returned (.int .i64 (s.q l))∧New W w')at KB
  have S1:=fun W=>sign_any (s.p l) W
  have S2:=fun W=>sign_any (s.q l) W
  rw[clamp_sign]at S1 S2
  unfold crossO at hr
  have KL:(s.p l).sign≠(s.q l).sign→Hid (∀ W,Calls Tryz.prog 286 #[.agg #[.int .i64 (s.p l*s.bx - s.q l*s.ax),.int .i64 (s.p l*s.bz - s.q l*s.az),.int .i64 (s.p l*s.by' - s.q l*s.ay),.int .i64 (s.p l - s.q l)]] W fun e w'=>e=.returned (.agg #[.int .i64 (crC s l).x,.int .i64 (crC s l).z,.int .i64 (crC s l).y,.int .i64 (crC s l).d])∧New W w'):=fun h=>by
    have h1 : -128≤s.p l∧s.p l≤128:=b1
    have h2 : -128≤s.q l∧s.q l≤128:=b2
    obtain⟨k1,k2,k3,k4,k5,k6⟩:=hs
    have m1:=mul_bd (a:=s.p l) (b:=s.bx) (A:=128) (B:=32) h1 (by omega)
    have m2:=mul_bd (a:=s.q l) (b:=s.ax) (A:=128) (B:=32) h2 (by omega)
    have m3:=mul_bd (a:=s.p l) (b:=s.bz) (A:=128) (B:=32) h1 (by omega)
    have m4:=mul_bd (a:=s.q l) (b:=s.az) (A:=128) (B:=32) h2 (by omega)
    have m5:=mul_bd (a:=s.p l) (b:=s.by') (A:=128) (B:=2048) h1 (by omega)
    have m6:=mul_bd (a:=s.q l) (b:=s.ay) (A:=128) (B:=2048) h2 (by omega)
    exact Lib.hid (fun W=>k_lowest _ _ _ _ W (sg_ne h).1 (by omega) (by omega) (by omega) (by omega))
  have h1 : -128≤s.p l∧s.p l≤128:=b1
  have h2 : -128≤s.q l∧s.q l≤128:=b2
  have KX:∀ p q:Int,p=s.p l→q=s.q l→Hid (∀ (m n:Int) (b b':Nat) (W:World),-4096≤m∧m≤4096 → -4096≤n∧n≤4096→W.cell? ⟨b,0,none⟩=some (.int .i64 p)→W.cell? ⟨b',0,none⟩=some (.int .i64 q)→Calls Tryz.prog 285 #[.int .i64 m,.int .i64 n,.pointer (some ⟨b,0,none⟩),.pointer (some ⟨b',0,none⟩)] W fun e w'=>e=.returned (.int .i64 (p*n - q*m))∧New W w'):=fun p q hp hq =>
    Lib.hid (fun m n b b' W hm hn h1 h2=>k_btw p q m n b b' W h1 h2 (by rw[hp];omega) (by rw[hq];omega) hm hn)
  clear b1 b2
  generalize s.p l=p at *
  generalize s.q l=q at *
  replace KX:=KX p q rfl rfl
  generalize crC s l=c at *
  replace KA:=Lib.hid KA
  replace KB:=Lib.hid KB
  replace S1:=Lib.hid S1
  replace S2:=Lib.hid S2
  have HS:=Lib.hid hs
  have HR:=Lib.hid hr
  clear hs hl hr
  go_enter Tryz.func272,Tryz.ntmps272
  go_upto_region 1 with fail
  refine Code.at (fun W0 hW=>?_)
  have hn:New w W0:=by subst hW;exact nw
  have c0:W0.cell? ⟨w.heap.size,0,none⟩=some (.int .i64 s.ax):=by subst hW;go_simp
  have c1:W0.cell? ⟨w.heap.size,1,none⟩=some (.int .i64 s.ay):=by subst hW;go_simp
  have c2:W0.cell? ⟨w.heap.size,2,none⟩=some (.int .i64 s.az):=by subst hW;go_simp
  have c3:W0.cell? ⟨w.heap.size,3,none⟩=some (.int .i64 s.bx):=by subst hW;go_simp
  have c4:W0.cell? ⟨w.heap.size,4,none⟩=some (.int .i64 s.by'):=by subst hW;go_simp
  have c5:W0.cell? ⟨w.heap.size,5,none⟩=some (.int .i64 s.bz):=by subst hW;go_simp
  have d0:W0.cell? ⟨w.heap.size+1,0,none⟩=some (.int .i64 l.bx):=by subst hW;go_simp
  have d1:W0.cell? ⟨w.heap.size+1,1,none⟩=some (.int .i64 l.bz):=by subst hW;go_simp
  have d2:W0.cell? ⟨w.heap.size+1,2,none⟩=some (.int .i64 l.at'):=by subst hW;go_simp
  have e0:W0.cell? ⟨w.heap.size+1+1,0,none⟩=some (.int .i64 0):=by subst hW;go_simp
  have f0:W0.frozen? ⟨w.heap.size+1+1,0,none⟩=false:=by subst hW;go_simp
  have e1:W0.cell? ⟨w.heap.size+1+1,1,none⟩=some (.int .i64 0):=by subst hW;go_simp
  have f1:W0.frozen? ⟨w.heap.size+1+1,1,none⟩=false:=by subst hW;go_simp
  have e2:W0.cell? ⟨w.heap.size+1+1,2,none⟩=some (.int .i64 0):=by subst hW;go_simp
  have f2:W0.frozen? ⟨w.heap.size+1+1,2,none⟩=false:=by subst hW;go_simp
  have e3:W0.cell? ⟨w.heap.size+1+1,3,none⟩=some (.int .i64 0):=by subst hW;go_simp
  have f3:W0.frozen? ⟨w.heap.size+1+1,3,none⟩=false:=by subst hW;go_simp
  clear hW
  have zz:w.heap.size+1+1<W0.heap.size:=World.block_lt_of_cell? _ _ e0
  have z0:w.heap.size<W0.heap.size:=by omega
  have z1:w.heap.size+1<W0.heap.size:=by omega
  go_cut [6,7] (fun s6 s7 Z=>∃ b b':Nat,s6=.pointer (some ⟨b,0,none⟩)∧s7=.pointer (some ⟨b',0,none⟩)∧New W0 Z∧Z.cell? ⟨b,0,none⟩=some (.int .i64 s.ax)∧Z.cell? ⟨b,1,none⟩=some (.int .i64 s.ay)∧Z.cell? ⟨b,2,none⟩=some (.int .i64 s.az) ∧
      Z.cell? ⟨b',0,none⟩=some (.int .i64 s.bx)∧Z.cell? ⟨b',1,none⟩=some (.int .i64 s.by')∧Z.cell? ⟨b',2,none⟩=some (.int .i64 s.bz))
  case first =>
    go_region
    all_goals
      go_wp2_with fail
      go_meet
      exact⟨_,_,rfl,rfl,by exact nw,by go_simp,by go_simp,by go_simp,by go_simp,by go_simp,by go_simp⟩
  case rest =>
    obtain⟨u,v,rfl,rfl,nZ,p0,p1,p2,q0,q1,q2⟩:=hcut
    replace d0:=New.keep nZ d0
    replace d1:=New.keep nZ d1
    replace d2:=New.keep nZ d2
    replace f0:=New.keepF nZ e0 f0
    replace e0:=New.keep nZ e0
    replace f1:=New.keepF nZ e1 f1
    replace e1:=New.keep nZ e1
    replace f2:=New.keepF nZ e2 f2
    replace e2:=New.keep nZ e2
    replace f3:=New.keepF nZ e3 f3
    replace e3:=New.keep nZ e3
    replace hn:=hn.trans nZ
    clear nZ c0 c1 c2 c3 c4 c5 zz z0 z1
    rename World=>W1
    have zz:w.heap.size+1+1<W1.heap.size:=World.block_lt_of_cell? _ _ e0
    have zu:u<W1.heap.size:=World.block_lt_of_cell? _ _ p0
    have zv:v<W1.heap.size:=World.block_lt_of_cell? _ _ q0
    go_upto_region 2 with fail
    (refine wp_region_steady2 8 6 8 7 9 (ob:=.cells #[.int .i64 0] 3) (ob':=.cells #[.int .i64 0] 3) (by kernel_rfl) (by kernel_rfl) (by decide) (by decide) rfl rfl rfl (fun _ _=>by kernel_rfl) (by kernel_rfl) (by simp) rfl rfl rfl (fun _ _=>by kernel_rfl) (by kernel_rfl) (by simp) ?_;(intro hatc hatf;simp only[List.take_succ_cons,List.take_zero,List.drop_succ_cons,List.drop_zero];(repeat(first|(refine mildWalk_made (by decide) ?_;simp only[Act.put,List.setIfInBounds_toArray,List.set_cons_zero,List.set_cons_succ])|(refine mildWalk_step (by decide) (fun K hK=>?_);go_simp;first|(refine hK _ ?_;clear hK K)|(apply Exists.intro;refine⟨fun _=>?_,hK _ ?_⟩;(first|(go_at_call 283;with_reducible exact KA.out _)|(go_at_call 283;with_reducible exact KB.out _));clear hK K))));refine mildWalk_nil ?_;(try simp only[List.setIfInBounds_toArray,List.set_cons_zero,List.set_cons_succ])))
    intro y b b' hb hb' hbb hh hh'
    have j0:=cell_of_heap (o:=0) hh rfl
    have j1:=cell_of_heap (o:=0) hh' rfl
    have jf:=fun o=>frozen_of_heap (o:=o) hh
    have jf':=fun o=>frozen_of_heap (o:=o) hh'
    have nZ:New W1 y.w:=New.hat (New.refl W1) y
    replace p0:=New.keep nZ p0
    replace p1:=New.keep nZ p1
    replace p2:=New.keep nZ p2
    replace q0:=New.keep nZ q0
    replace q1:=New.keep nZ q1
    replace q2:=New.keep nZ q2
    replace f0:=New.keepF nZ e0 f0
    replace e0:=New.keep nZ e0
    replace f1:=New.keepF nZ e1 f1
    replace e1:=New.keep nZ e1
    replace f2:=New.keepF nZ e2 f2
    replace e2:=New.keep nZ e2
    replace f3:=New.keepF nZ e3 f3
    replace e3:=New.keep nZ e3
    replace hn:=hn.trans nZ
    generalize y.w=W2 at *
    clear hh hh' hatc hatf nZ d0 d1 d2 KA KB
    have zb:w.heap.size+1+1<b:=by omega
    have zb':w.heap.size+1+1<b':=by omega
    have n1:u≠b:=by omega
    have n2:u≠b':=by omega
    have n3:v≠b:=by omega
    have n4:v≠b':=by omega
    have n5:w.heap.size+1+1≠b:=by omega
    have n6:w.heap.size+1+1≠b':=by omega
    go_upto_region 3 with fail
    refine Code.at (fun W3 hW=>?_)
    have hn3:New w W3:=by subst hW;exact nw
    have cb:W3.cell? ⟨b,0,none⟩=some (.int .i64 p):=by subst hW;go_simp
    have cb':W3.cell? ⟨b',0,none⟩=some (.int .i64 q):=by subst hW;go_simp
    replace p0:W3.cell? ⟨u,0,none⟩=some (.int .i64 s.ax):=by subst hW;go_simp
    replace p1:W3.cell? ⟨u,1,none⟩=some (.int .i64 s.ay):=by subst hW;go_simp
    replace p2:W3.cell? ⟨u,2,none⟩=some (.int .i64 s.az):=by subst hW;go_simp
    replace q0:W3.cell? ⟨v,0,none⟩=some (.int .i64 s.bx):=by subst hW;go_simp
    replace q1:W3.cell? ⟨v,1,none⟩=some (.int .i64 s.by'):=by subst hW;go_simp
    replace q2:W3.cell? ⟨v,2,none⟩=some (.int .i64 s.bz):=by subst hW;go_simp
    replace e0:W3.cell? ⟨w.heap.size+1+1,0,none⟩=some (.int .i64 0):=by subst hW;go_simp
    replace e1:W3.cell? ⟨w.heap.size+1+1,1,none⟩=some (.int .i64 0):=by subst hW;go_simp
    replace e2:W3.cell? ⟨w.heap.size+1+1,2,none⟩=some (.int .i64 0):=by subst hW;go_simp
    replace e3:W3.cell? ⟨w.heap.size+1+1,3,none⟩=some (.int .i64 0):=by subst hW;go_simp
    replace f0:W3.frozen? ⟨w.heap.size+1+1,0,none⟩=false:=by subst hW;go_simp
    replace f1:W3.frozen? ⟨w.heap.size+1+1,1,none⟩=false:=by subst hW;go_simp
    replace f2:W3.frozen? ⟨w.heap.size+1+1,2,none⟩=false:=by subst hW;go_simp
    replace f3:W3.frozen? ⟨w.heap.size+1+1,3,none⟩=false:=by subst hW;go_simp
    clear hW j0 j1 jf jf' hn zb zb' n1 n2 n3 n4 n5 n6 zu zv zz hb hb' hbb
    clear W2
    by_cases hsg:p.sign=q.sign
    · have hq:(p.sign==q.sign)=true:=by simpa using hsg
      have e:r=none:=by rw[←HR.out,if_pos hsg]
      subst e
      clear hsg KL KX HR p0 p1 p2 q0 q1 q2 HS
      (refine wp_region_hat (by kernel_rfl) (by kernel_rfl) ?_;intro hatc hatf;(repeat(go_big_quiet_step ((go_at_call 284;first|(with_reducible exact Calls.hat_same (S1.out _))|(with_reducible exact Calls.hat_same (S2.out _))))));refine wpQuiet_nil ?_;rintro _ ⟨X,rfl⟩)
      clear hatc hatf S1 S2
      have hn:=hn3.trans X.h
      replace f0:=New.keepF X.h e0 f0
      replace e0:=New.keep X.h e0
      replace f1:=New.keepF X.h e1 f1
      replace e1:=New.keep X.h e1
      replace f2:=New.keepF X.h e2 f2
      replace e2:=New.keep X.h e2
      replace f3:=New.keepF X.h e3 f3
      replace e3:=New.keep X.h e3
      generalize X.w=W9 at *
      clear X
      go_wp2_with fail
      refine bodyPost_ret (v:=.tuple #[.agg #[.int .i64 0,.int .i64 0,.int .i64 0,.int .i64 0],.bool false]) (by simp[results,Tryz.results272,go_sem, *]) rfl ?_
      exact⟨rfl,by exact nw⟩
    · have hq:(p.sign==q.sign)=false:=by simpa using hsg
      have e:r=some c:=by rw[←HR.out,if_neg hsg]
      subst e
      have KL:=KL hsg
      clear hsg HR
      (refine wp_region_hat (by kernel_rfl) (by kernel_rfl) ?_;intro hatc hatf;(repeat(go_big_quiet_step ((go_at_call 284;first|(with_reducible exact Calls.hat_same (S1.out _))|(with_reducible exact Calls.hat_same (S2.out _))))));refine wpQuiet_nil ?_;rintro _ ⟨X,rfl⟩)
      clear hatc hatf S1 S2
      have hn:=hn3.trans X.h
      replace f0:=New.keepF X.h e0 f0
      replace e0:=New.keep X.h e0
      replace f1:=New.keepF X.h e1 f1
      replace e1:=New.keep X.h e1
      replace f2:=New.keepF X.h e2 f2
      replace e2:=New.keep X.h e2
      replace f3:=New.keepF X.h e3 f3
      replace e3:=New.keep X.h e3
      replace p0:=New.keep X.h p0
      replace p1:=New.keep X.h p1
      replace p2:=New.keep X.h p2
      replace q0:=New.keep X.h q0
      replace q1:=New.keep X.h q1
      replace q2:=New.keep X.h q2
      replace cb:=New.keep X.h cb
      replace cb':=New.keep X.h cb'
      generalize X.w=W9 at *
      clear X
      have KC1:∀ x:Hat W9,Calls Tryz.prog 285 #[.int .i64 s.ax,.int .i64 s.bx,.pointer (some ⟨b,0,none⟩),.pointer (some ⟨b',0,none⟩)] x.w fun e w'=>e=.returned (.int .i64 (p*s.bx - q*s.ax))∧New x.w w':=fun x=>KX.out _ _ b b' x.w (by have:=HS.out.ax;omega) (by have:=HS.out.bx;omega) (New.keep x.h cb) (New.keep x.h cb')
      have KC2:∀ x:Hat W9,Calls Tryz.prog 285 #[.int .i64 s.az,.int .i64 s.bz,.pointer (some ⟨b,0,none⟩),.pointer (some ⟨b',0,none⟩)] x.w fun e w'=>e=.returned (.int .i64 (p*s.bz - q*s.az))∧New x.w w':=fun x=>KX.out _ _ b b' x.w (by have:=HS.out.az;omega) (by have:=HS.out.bz;omega) (New.keep x.h cb) (New.keep x.h cb')
      have KC3:∀ x:Hat W9,Calls Tryz.prog 285 #[.int .i64 s.ay,.int .i64 s.by',.pointer (some ⟨b,0,none⟩),.pointer (some ⟨b',0,none⟩)] x.w fun e w'=>e=.returned (.int .i64 (p*s.by' - q*s.ay))∧New x.w w':=fun x=>KX.out _ _ b b' x.w (by have:=HS.out.ay;omega) (by have:=HS.out.by';omega) (New.keep x.h cb) (New.keep x.h cb')
      replace KC1:=Lib.hid KC1
      replace KC2:=Lib.hid KC2
      replace KC3:=Lib.hid KC3
      have hpq:IntKind.i64.wrap (p - q)=p - q:=IntWalk.i64_in _ (by omega)
      clear KX HS
      go_upto_region 6 with fail
      (refine wp_region_steady 23 (by kernel_rfl) (by kernel_rfl) ?_;(intro hatc hatf;simp only[List.take_succ_cons,List.take_zero,List.drop_succ_cons,List.drop_zero];(repeat(first|(refine mildWalk_made (by decide) ?_;simp only[Act.put,List.setIfInBounds_toArray,List.set_cons_zero,List.set_cons_succ])|(refine mildWalk_step (by decide) (fun K hK=>?_);go_simp;first|(refine hK _ ?_;clear hK K)|(apply Exists.intro;refine⟨fun _=>?_,hK _ ?_⟩;(first|(go_at_call 285;with_reducible exact KC1.out _)|(go_at_call 285;with_reducible exact KC2.out _)|(go_at_call 285;with_reducible exact KC3.out _)|(go_at_call 286;with_reducible exact KL.out _));clear hK K))));refine mildWalk_nil ?_;(try simp only[List.setIfInBounds_toArray,List.set_cons_zero,List.set_cons_succ])))
      intro y
      have hny:=New.hat hn y
      clear hatc hatf KC1 KC2 KC3 KL cb cb' p0 p1 p2 q0 q1 q2
      replace f0:=New.keepF y.h e0 f0
      replace e0:=New.keep y.h e0
      replace f1:=New.keepF y.h e1 f1
      replace e1:=New.keep y.h e1
      replace f2:=New.keepF y.h e2 f2
      replace e2:=New.keep y.h e2
      replace f3:=New.keepF y.h e3 f3
      replace e3:=New.keep y.h e3
      generalize y.w=W10 at *
      clear y
      go_wp2_with fail
      refine bodyPost_ret (v:=.tuple #[.agg #[.int .i64 c.x,.int .i64 c.z,.int .i64 c.y,.int .i64 c.d],.bool true]) (by simp[results,Tryz.results272,go_sem, *]) rfl ?_
      exact⟨rfl,by exact nw⟩
end Go.Proofs.YtmhghnbgllaihaaGreatDoor
