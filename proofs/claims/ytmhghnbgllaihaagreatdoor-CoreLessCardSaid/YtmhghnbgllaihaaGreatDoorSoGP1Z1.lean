import Derived.Test.YtmhghnbgllaihaaGreatDoorWholeMP1Z1
import Derived.Test.YtmhghnbgllaihaaGreatDoorSoCBP1Z1
import Derived.Test.YtmhghnbgllaihaaGreatDoorSoDP1Z1
import Derived.Test.YtmhghnbgllaihaaGreatDoorTriGP1Z1
import Derived.Test.YtmhghnbgllaihaaGreatDoorClBP1Z1
import Derived.Deep.DeepCutAuto
import Derived.Deep.CutBlock
import Derived.Deep.Quiet
import Derived.BigQuiet

namespace Go.Proofs.YtmhghnbgllaihaaGreatDoor
open Go.RowKit
set_option linter.unusedVariables false
def mrg (l:List Sn):List Sn:=l.foldl (fun R s=>putS s R false) []
theorem mrg_is_aux:∀ (m l R:List Sn),Proper l→Proper m→IsM l R→IsM (l++m) (m.foldl (fun R s=>putS s R false) R)
  | [],l,R,_,_,h=>by simpa using h
  | s::m,l,R,hl,hm,h=>by
    have hs:=hm s List.mem_cons_self
    have h1:=IsM.put hl h hs
    have:=mrg_is_aux m (l++[s]) _ (fun p hp=>by
      rcases List.mem_append.1 hp with k|k
      · exact hl p k
      · rw[List.mem_singleton]at k;subst k;exact hs) (fun p hp=>hm p (List.mem_cons_of_mem _ hp)) h1
    rw[List.append_assoc]at this
    exact this
theorem mrg_is {l:List Sn} (h:Proper l):IsM l (mrg l):=by
  have:=mrg_is_aux l [] [] (fun p hp=>by simp at hp) h IsM.nil
  unfold mrg
  simpa using this
theorem mrg_eq {l R:List Sn} (h:Proper l) (hR:IsM l R):R=mrg l:=IsM.uniq h hR (mrg_is h) (fun _=>Iff.rfl)
def walkT (C:CfgR) (T:TriR):Bool:=walkB C.cl C.cb C.ht C.ri C.ru C.wd C.dp T.x0 T.y0 T.z0 T.x1 T.y1 T.z1 T.x2 T.y2 T.z2
def mayL (C:CfgR) (l:List TriR):Bool:=decide (l.length≤200)&&l.all (mayTB C.wd C.dp)
def rchk (C:CfgR) (l:List TriR):Int:=if C.err≠0 then C.err else if mayL C l then 0 else 2
theorem err_two (C:CfgR):C.err=0∨C.err=20:=checkE_two _ _ _ _ _ _ _
theorem rchk_zero {C:CfgR} {l:List TriR} (h:rchk C l=0):C.err=0∧l.length≤200∧∀ T∈l,mayTB C.wd C.dp T=true:=by
  unfold rchk at h
  split at h
  · rename_i h1;exact absurd h h1
  · rename_i h1
    split at h
    · rename_i h2
      unfold mayL at h2
      rw[Bool.and_eq_true,decide_eq_true_eq,List.all_eq_true]at h2
      exact⟨by simpa using h1,h2.1,h2.2⟩
    · omega
theorem rchk_of {C:CfgR} {l:List TriR} (h0:C.err=0) (h1:l.length≤200) (h2:∀ T∈l,mayTB C.wd C.dp T=true):rchk C l=0:=by
  unfold rchk mayL
  have e:(decide (l.length≤200)&&l.all (mayTB C.wd C.dp))=true:=by rw[Bool.and_eq_true,decide_eq_true_eq,List.all_eq_true];exact⟨h1,h2⟩
  rw[if_neg (by simpa using h0),if_pos e]
theorem mayT_iff {wd dp:Int} {T:TriR}:mayTB wd dp T=true↔StP wd dp T.x0 T.y0 T.z0 T.x1 T.y1 T.z1 T.x2 T.y2 T.z2∧tny T≠0:=by
  unfold mayTB outV heiB StP StV tny nyI
  simp only[Bool.and_eq_true,Bool.not_eq_true',Bool.or_eq_false_iff,decide_eq_false_iff_not,bne_iff_ne,Bool.not_eq_false',decide_eq_true_eq]
  constructor
  · rintro⟨⟨⟨h0,h1⟩,h2⟩,h3⟩
    refine⟨⟨⟨?_,?_,?_⟩,⟨?_,?_,?_⟩,⟨?_,?_,?_⟩⟩,fun e=>h3 (by grind)⟩ <;> omega
  · rintro⟨⟨h0,h1,h2⟩,h3⟩
    refine⟨⟨⟨?_,?_⟩,?_⟩,fun e=>h3 (by grind)⟩ <;> omega
theorem okT_iff' {T:TriR}:okT T=true↔StP 32 32 T.x0 T.y0 T.z0 T.x1 T.y1 T.z1 T.x2 T.y2 T.z2∧tny T≠0:=by
  unfold okT okB tny
  rw[Bool.and_eq_true,stB_iff,bne_iff_ne]
theorem mayT_ok {C:CfgR} (hC:C.fine) {T:TriR} (h:mayTB C.wd C.dp T=true):okT T=true:=by
  obtain⟨h1,h2⟩:=mayT_iff.1 h
  have:=hC.w2
  have:=hC.d2
  refine okT_iff'.2 ⟨?_,h2⟩
  unfold StP StV at h1 ⊢
  omega
theorem mayT_check {C:CfgR} (hC:C.fine) (T:TriR):tCheckE C.cl C.cb C.ht C.ri C.ru C.wd C.dp 1 T.x0 T.y0 T.z0 T.x1 T.y1 T.z1 T.x2 T.y2 T.z2=if mayTB C.wd C.dp T then 0 else 40:=by
  have h0:checkE C.cl C.cb C.ht C.ri C.ru C.wd C.dp=0:=hC.err
  unfold tCheckE
  rw[if_neg (by simpa using h0)]
  by_cases h:mayTB C.wd C.dp T=true
  · rw[if_pos h,if_pos ⟨by decide,stB_iff.2 (mayT_iff.1 h).1,mayT_ok hC h⟩]
  · rw[if_neg h,if_neg]
    rintro⟨-,h1,h2⟩
    exact h (mayT_iff.2 ⟨stB_iff.1 h1,(okT_iff'.1 h2).2⟩)
def plX (x w:Int) (n:Nat):Int:=x+(n:Int) % w
def plZ (z w:Int) (n:Nat):Int:=z+(n:Int) / w
def boxB (x z w d:Int):Bool:=decide (-64≤x)&&decide (x≤64)&&decide (-64≤z)&&decide (z≤64)&&decide (0≤w)&&decide (w≤64)&&decide (0≤d)&&decide (d≤64)
theorem boxB_iff {x z w d:Int}:boxB x z w d=true↔(-64≤x∧x≤64)∧(-64≤z∧z≤64)∧(0≤w∧w≤64)∧(0≤d∧d≤64):=by
  unfold boxB;simp only[Bool.and_eq_true,decide_eq_true_eq,and_assoc]
structure Bx where
  (x z w d:Int)
def i64B (n:Int):Prop := -9223372036854775808≤n∧n≤9223372036854775807
structure Bx.ok (b:Bx):Prop where
  w0:0≤b.w
  w1:b.w≤64
  d0:0≤b.d
  d1:b.d≤64
  x0:i64B b.x
  z0:i64B b.z
  x1:i64B (b.x+(b.w - 1))
  z1:i64B (b.z+(b.d - 1))
def Bx.n (b:Bx):Nat:=(b.w*b.d).toNat
theorem Bx.n_le {b:Bx} (h:b.ok):b.n≤4096:=by
  have h1:b.w*b.d≤64*64:=Int.mul_le_mul h.w1 h.d1 h.d0 (by omega)
  unfold Bx.n;omega
def Bx.inside (b:Bx) (x z:Int):Prop:=(b.x≤x∧x≤b.x+(b.w - 1))∧(b.z≤z∧z≤b.z+(b.d - 1))
instance (b:Bx) (x z:Int):Decidable (b.inside x z):=by unfold Bx.inside;infer_instance
def Bx.pl (b:Bx) (x z:Int):Int:=(z - b.z)*b.w+x - b.x
theorem Bx.pl_lt {b:Bx} {x z:Int} (h:b.inside x z):0≤b.pl x z∧b.pl x z<b.w*b.d∧(b.pl x z).toNat<b.n:=by
  obtain⟨⟨h1,h2⟩,h3,h4⟩:=h
  have k0:0≤(z - b.z)*b.w:=Int.mul_nonneg (by omega) (by omega)
  have k1:(z - b.z)*b.w≤(b.d - 1)*b.w:=Int.mul_le_mul_of_nonneg_right (by omega) (by omega)
  have k2:(b.d - 1)*b.w=b.w*b.d - b.w:=by grind
  unfold Bx.n Bx.pl
  omega
theorem Bx.pl_at {b:Bx} {x z:Int} (h:b.inside x z):plX b.x b.w (b.pl x z).toNat=x∧plZ b.z b.w (b.pl x z).toNat=z:=by
  obtain⟨k1,k2,k3⟩:=Bx.pl_lt h
  obtain⟨⟨h1,h2⟩,h3,h4⟩:=h
  unfold plX plZ
  have e:((b.pl x z).toNat:Int)=(x - b.x)+(z - b.z)*b.w:=by unfold Bx.pl at *;omega
  have hw:0<b.w:=by omega
  rw[e]
  constructor
  · rw[Int.add_mul_emod_self_right,Int.emod_eq_of_lt (by omega) (by omega)];omega
  · rw[Int.add_mul_ediv_right _ _ (by omega),Int.ediv_eq_zero_of_lt (by omega) (by omega)];omega
theorem Bx.pl_inside {b:Bx} (hb:b.ok) {n:Nat} (h:n<b.n):b.inside (plX b.x b.w n) (plZ b.z b.w n)∧(b.pl (plX b.x b.w n) (plZ b.z b.w n)).toNat=n:=by
  have hn:(n:Int)<b.w*b.d:=by unfold Bx.n at h;omega
  have hw:0<b.w:=by
    rcases Int.lt_or_eq_of_le hb.w0 with k|k
    · exact k
    · rw[←k]at hn;simp at hn;omega
  have h1:=Int.emod_nonneg (n:Int) (Int.ne_of_gt hw)
  have h2:=Int.emod_lt_of_pos (n:Int) hw
  have h3:0≤(n:Int) / b.w:=Int.ediv_nonneg (by omega) (by omega)
  have h4:(n:Int) / b.w<b.d:=Int.ediv_lt_of_lt_mul hw (by rw[Int.mul_comm];exact hn)
  have h5:=Int.mul_ediv_add_emod (n:Int) b.w
  unfold Bx.inside plX plZ Bx.pl
  refine⟨⟨⟨by omega,by omega⟩,by omega,by omega⟩,?_⟩
  have e:(b.z+(n:Int) / b.w - b.z)*b.w+(b.x+(n:Int) % b.w) - b.x=n:=by grind
  rw[e];simp
end Go.Proofs.YtmhghnbgllaihaaGreatDoor

namespace Go.Proofs.YtmhghnbgllaihaaGreatDoor
open Go.RowKit
set_option linter.unusedVariables false
set_option maxHeartbeats 400000 in
theorem a_within (n lo hi:Int) (w:World) :
    Calls Tryz.prog 156 #[.int .i64 n,.int .i64 lo,.int .i64 hi] w fun e w'=>e=.returned (.bool (decide (lo≤n∧n≤hi)))∧w=w':=by
  go_enter Tryz.func156,Tryz.ntmps156
  go_wp2
  all_goals
    go_ret
    refine⟨retB ?_,rfl⟩
    simp[*] <;> omega
theorem box4 (x z w d:Int):boxB x z w d=(decide (-64≤x∧x≤64)&&decide (-64≤z∧z≤64)&&decide (0≤w∧w≤64)&&decide (0≤d∧d≤64)):=by
  rw[Bool.eq_iff_iff,boxB_iff]
  simp only[Bool.and_eq_true,decide_eq_true_eq,and_assoc]
set_option maxHeartbeats 1000000 in
theorem a_may (x z w d:Int) (W:World) :
    Calls Tryz.prog 131 #[.agg #[.int .i64 x,.int .i64 z,.int .i64 w,.int .i64 d]] W fun e W'=>e=.returned (.bool (boxB x z w d))∧New W W':=by
  rw[box4]
  have k1:=fun V=>a_within x (-64) 64 V
  have k2:=fun V=>a_within z (-64) 64 V
  have k3:=fun V=>a_within w 0 64 V
  have k4:=fun V=>a_within d 0 64 V
  generalize decide (-64≤x∧x≤64)=b1 at *
  generalize decide (-64≤z∧z≤64)=b2 at *
  generalize decide (0≤w∧w≤64)=b3 at *
  generalize decide (0≤d∧d≤64)=b4 at *
  go_enter Tryz.func131,Tryz.ntmps131
  go_wp2_with fail
  refine(k1 _).mono ?_
  rintro e V ⟨rfl,rfl⟩
  cases b1
  · go_wp2_with fail
    go_ret
    exact⟨rfl,by exact nw⟩
  go_wp2_with fail
  refine(k2 _).mono ?_
  rintro e V ⟨rfl,rfl⟩
  cases b2
  · go_wp2_with fail
    go_ret
    exact⟨rfl,by exact nw⟩
  go_wp2_with fail
  refine(k3 _).mono ?_
  rintro e V ⟨rfl,rfl⟩
  cases b3
  · go_wp2_with fail
    go_ret
    exact⟨rfl,by exact nw⟩
  go_wp2_with fail
  refine(k4 _).mono ?_
  rintro e V ⟨rfl,rfl⟩
  go_wp2_with fail
  go_ret
  exact⟨rfl,by exact nw⟩
set_option maxHeartbeats 400000 in
theorem a_last (b:Bx) (hb:b.ok) (W:World) :
    Calls Tryz.prog 195 #[.agg #[.int .i64 b.x,.int .i64 b.z,.int .i64 b.w,.int .i64 b.d]] W fun e W'=>e=.returned (.tuple #[.int .i64 (b.x+(b.w - 1)),.int .i64 (b.z+(b.d - 1))])∧New W W':=by
  obtain⟨h1,h2,h3,h4,h5,h6,h7,h8⟩:=hb
  unfold i64B at h7 h8
  have w1:IntKind.i64.wrap (b.w - 1)=b.w - 1:=IntWalk.i64_in _ (by omega)
  have w2:IntKind.i64.wrap (b.d - 1)=b.d - 1:=IntWalk.i64_in _ (by omega)
  have w3:IntKind.i64.wrap (b.x+(b.w - 1))=b.x+(b.w - 1):=IntWalk.i64_in _ (by omega)
  have w4:IntKind.i64.wrap (b.z+(b.d - 1))=b.z+(b.d - 1):=IntWalk.i64_in _ (by omega)
  obtain⟨x,z,w,d⟩:=b
  dsimp only at *
  go_enter Tryz.func195,Tryz.ntmps195
  go_wp2_with fail
  go_quiet (fail)
  go_wp2_with fail
  go_ret2
  exact⟨rfl,by exact nw⟩
set_option maxHeartbeats 400000 in
theorem a_place (b:Bx) (hb:b.ok) (x z:Int) (hi:b.inside x z) (W:World) :
    Calls Tryz.prog 197 #[.agg #[.int .i64 b.x,.int .i64 b.z,.int .i64 b.w,.int .i64 b.d],.int .i64 x,.int .i64 z] W fun e W'=>e=.returned (.int .i64 (b.pl x z))∧New W W':=by
  obtain⟨k1,k2,k3⟩:=Bx.pl_lt hi
  have hn:=Bx.n_le hb
  obtain⟨h1,h2,h3,h4,h5,h6,h7,h8⟩:=hb
  obtain⟨⟨i1,i2⟩,i3,i4⟩:=hi
  unfold i64B at h5 h6 h7 h8
  have q0:0≤(z - b.z)*b.w:=Int.mul_nonneg (by omega) (by omega)
  have q1:(z - b.z)*b.w≤64*64:=Int.mul_le_mul (by omega) h2 (by omega) (by omega)
  have e:b.pl x z=(z - b.z)*b.w+x - b.x:=rfl
  rw[e]
  clear e k1 k2 k3 hn
  obtain⟨bx,bz,bw,bd⟩:=b
  dsimp only at *
  generalize hq:(z - bz)*bw=q at *
  have w1:IntKind.i64.wrap (z - bz)=z - bz:=IntWalk.i64_in _ (by omega)
  have w2:IntKind.i64.wrap q=q:=IntWalk.i64_in _ (by omega)
  have w4:wrap64 (wrap64 (q+x) - bx)=q+x - bx:=by
    unfold wrap64
    omega
  go_enter Tryz.func197,Tryz.ntmps197
  go_wp2_with fail
  go_ret
  exact⟨by show Ending.returned (.int .i64 (wrap64 (wrap64 (q+x) - bx)))=_;rw[w4],by exact nw⟩
end Go.Proofs.YtmhghnbgllaihaaGreatDoor

namespace Go.Proofs.YtmhghnbgllaihaaGreatDoor
open Go.RowKit
set_option linter.unusedVariables false
set_option maxHeartbeats 400000 in
theorem b_id (x:BoxR) (w:World):Calls Tryz.prog 83 #[.agg #[.int .i64 x.i,.int .i64 x.x0,.int .i64 x.z0,.int .i64 x.x1,.int .i64 x.z1,.int .i64 x.y0,.int .i64 x.y1,.int .i64 x.ar]] w fun e w'=>e=.returned (.int .i64 x.i)∧New w w':=by
  go_enter Tryz.func83,Tryz.ntmps83
  go_wp2_with fail
  go_ret
  exact⟨rfl,by exact nw⟩
set_option maxHeartbeats 400000 in
theorem b_list (b:Nat) (w:World):Calls Tryz.prog 82 #[.pointer (some ⟨b,0,none⟩)] w fun e w'=>e=.returned (.pointer (some ⟨b,1,none⟩))∧w=w':=by
  go_enter Tryz.func82,Tryz.ntmps82
  go_wp2_with fail
  go_ret
  exact⟨rfl,rfl⟩
def BoxR.may (C:CfgR) (x:BoxR):Bool:=ordB [1,x.i,1073741824]&&x.tests C
set_option maxHeartbeats 2000000 in
set_option maxRecDepth 100000 in
theorem b_may (C:CfgR) (hC:C.fine) (x:BoxR) (w:World) :
    Calls Tryz.prog 81 #[.agg #[.int .i64 C.cl,.int .i64 C.cb,.int .i64 C.ht,.int .i64 C.ri,.int .i64 C.ru,.int .i64 C.wd,.int .i64 C.dp],.agg #[.int .i64 x.i,.int .i64 x.x0,.int .i64 x.z0,.int .i64 x.x1,.int .i64 x.z1,.int .i64 x.y0,.int .i64 x.y1,.int .i64 x.ar],.agg #[.func (.func 82) #[] #[],.func (.func 83) #[] #[],.int .i64 16,.int .i64 2,.func (.func 84) #[] #[]]] w fun e w'=>e=.returned (.bool (x.may C))∧New w w':=by
  have hid:=fun W=>b_id x W
  have HCH:=Lib.hid (fun W=>BoxR.checks C hC x W)
  obtain⟨v,hv⟩:∃ v,v=x.may C:=⟨_,rfl⟩
  rw[←hv]
  unfold BoxR.may at hv
  generalize BoxR.tests C x=tv at *
  cases h1:ordB [1,x.i,1073741824]
  · have HV:Hid (v=false):=by show v=false;rw[hv,h1];rfl
    clear hv HCH
    have k1:=Lib.hid (fun b W (H:IntsAt W b [1,x.i,1073741824])=>by have q:=l_inOrder b 3 [1,x.i,1073741824] (by simp) (by simp) W H;rw[h1]at q;exact q:∀ b W,IntsAt W b [1,x.i,1073741824]→Calls Tryz.prog 86 #[.slice (some ⟨b,0,none⟩) 3 3] W fun e w'=>e=.returned (.bool false)∧New W w')
    clear h1 hC
    go_enter Tryz.func81,Tryz.ntmps81
    go_wp2_with fail
    generalize hW:World.alloc _ _=W
    have hn:New w W:=by subst hW;exact nw
    clear hW
    refine(hid _).mono ?_
    rintro e W1 ⟨rfl,n1⟩
    replace hn:=hn.trans n1
    clear n1 hid
    go_wp2_with fail
    refine(k1.out _ _ (ints_at _ [1,x.i,1073741824] _ _ rfl)).mono ?_
    rintro e W2 ⟨rfl,n1⟩
    replace hn:New w W2:=New.trans (hn.alloc _) n1
    clear n1 k1
    go_wp2_with fail
    go_ret
    exact⟨retBo HV.out.symm,hn⟩
  · rw[h1,Bool.true_and]at hv
    subst hv
    have k1:=Lib.hid (fun b W (H:IntsAt W b [1,x.i,1073741824])=>by have q:=l_inOrder b 3 [1,x.i,1073741824] (by simp) (by simp) W H;rw[h1]at q;exact q:∀ b W,IntsAt W b [1,x.i,1073741824]→Calls Tryz.prog 86 #[.slice (some ⟨b,0,none⟩) 3 3] W fun e w'=>e=.returned (.bool true)∧New W w')
    clear h1 hC
    go_enter Tryz.func81,Tryz.ntmps81
    go_wp2_with fail
    generalize hW:World.alloc _ _=W
    have hn:New w W:=by subst hW;exact nw
    have kc:W.cell? ⟨w.heap.size+1+1,4,none⟩=some (.func (.func 84) #[] #[]):=by subst hW;go_simp
    ((have g0:World.cell? (W) ⟨w.heap.size,0,none⟩=some (.int .i64 C.cl):=(by subst hW;go_simp));(have g1:World.cell? (W) ⟨w.heap.size,1,none⟩=some (.int .i64 C.cb):=(by subst hW;go_simp));(have g2:World.cell? (W) ⟨w.heap.size,2,none⟩=some (.int .i64 C.ht):=(by subst hW;go_simp));(have g3:World.cell? (W) ⟨w.heap.size,3,none⟩=some (.int .i64 C.ri):=(by subst hW;go_simp));(have g4:World.cell? (W) ⟨w.heap.size,4,none⟩=some (.int .i64 C.ru):=(by subst hW;go_simp));(have g5:World.cell? (W) ⟨w.heap.size,5,none⟩=some (.int .i64 C.wd):=(by subst hW;go_simp));(have g6:World.cell? (W) ⟨w.heap.size,6,none⟩=some (.int .i64 C.dp):=(by subst hW;go_simp)))
    ((have c0:World.cell? (W) ⟨w.heap.size+1,0,none⟩=some (.int .i64 x.i):=(by subst hW;go_simp));(have c1:World.cell? (W) ⟨w.heap.size+1,1,none⟩=some (.int .i64 x.x0):=(by subst hW;go_simp));(have c2:World.cell? (W) ⟨w.heap.size+1,2,none⟩=some (.int .i64 x.z0):=(by subst hW;go_simp));(have c3:World.cell? (W) ⟨w.heap.size+1,3,none⟩=some (.int .i64 x.x1):=(by subst hW;go_simp));(have c4:World.cell? (W) ⟨w.heap.size+1,4,none⟩=some (.int .i64 x.z1):=(by subst hW;go_simp));(have c5:World.cell? (W) ⟨w.heap.size+1,5,none⟩=some (.int .i64 x.y0):=(by subst hW;go_simp));(have c6:World.cell? (W) ⟨w.heap.size+1,6,none⟩=some (.int .i64 x.y1):=(by subst hW;go_simp));(have c7:World.cell? (W) ⟨w.heap.size+1,7,none⟩=some (.int .i64 x.ar):=(by subst hW;go_simp)))
    clear hW
    refine(hid _).mono ?_
    rintro e W1 ⟨rfl,n1⟩
    replace hn:=hn.trans n1
    replace kc:=New.keep n1 kc
    (replace g0:=New.keep (n1) g0;replace g1:=New.keep (n1) g1;replace g2:=New.keep (n1) g2;replace g3:=New.keep (n1) g3;replace g4:=New.keep (n1) g4;replace g5:=New.keep (n1) g5;replace g6:=New.keep (n1) g6)
    (replace c0:=New.keep (n1) c0;replace c1:=New.keep (n1) c1;replace c2:=New.keep (n1) c2;replace c3:=New.keep (n1) c3;replace c4:=New.keep (n1) c4;replace c5:=New.keep (n1) c5;replace c6:=New.keep (n1) c6;replace c7:=New.keep (n1) c7)
    clear n1 hid
    go_wp2_with fail
    refine(k1.out _ _ (ints_at _ [1,x.i,1073741824] _ _ rfl)).mono ?_
    rintro e W2 ⟨rfl,n1⟩
    replace n1:=New.trans ((New.refl _).alloc _) n1
    replace hn:New w W2:=New.trans hn n1
    replace kc:=New.keep n1 kc
    (replace g0:=New.keep (n1) g0;replace g1:=New.keep (n1) g1;replace g2:=New.keep (n1) g2;replace g3:=New.keep (n1) g3;replace g4:=New.keep (n1) g4;replace g5:=New.keep (n1) g5;replace g6:=New.keep (n1) g6)
    (replace c0:=New.keep (n1) c0;replace c1:=New.keep (n1) c1;replace c2:=New.keep (n1) c2;replace c3:=New.keep (n1) c3;replace c4:=New.keep (n1) c4;replace c5:=New.keep (n1) c5;replace c6:=New.keep (n1) c6;replace c7:=New.keep (n1) c7)
    clear n1 k1
    go_wp2_with fail
    refine(HCH.out _).mono ?_
    rintro e W3 ⟨B,fl,rfl,hl,hall,hg,hat,n1⟩
    have HA:=Lib.hid (l_all W3 B fl.length fl hl hg W3 (New.refl _) hat)
    rw[hall]at HA
    replace hn:=New.trans hn n1
    clear n1 hall hg hat HCH kc hl
    clear c0 c1 c2 c3 c4 c5 c6 c7
    clear g0 g1 g2 g3 g4 g5 g6
    go_wp2_with fail
    refine HA.out.mono ?_
    rintro e W4 ⟨rfl,n1⟩
    replace hn:=New.trans hn n1
    go_wp2_with fail
    go_ret
    exact⟨rfl,hn⟩
end Go.Proofs.YtmhghnbgllaihaaGreatDoor

namespace Go.Proofs.YtmhghnbgllaihaaGreatDoor
open Go.RowKit
set_option linter.unusedVariables false
set_option maxHeartbeats 400000 in
theorem t_id (x:TriR) (w:World):Calls Tryz.prog 77 #[.agg #[.int .i64 x.i,.int .i64 x.x0,.int .i64 x.y0,.int .i64 x.z0,.int .i64 x.x1,.int .i64 x.y1,.int .i64 x.z1,.int .i64 x.x2,.int .i64 x.y2,.int .i64 x.z2]] w fun e w'=>e=.returned (.int .i64 x.i)∧New w w':=by
  go_enter Tryz.func77,Tryz.ntmps77
  go_wp2_with fail
  go_ret
  exact⟨rfl,by exact nw⟩
set_option maxHeartbeats 400000 in
theorem t_list (b:Nat) (w:World):Calls Tryz.prog 76 #[.pointer (some ⟨b,0,none⟩)] w fun e w'=>e=.returned (.pointer (some ⟨b,0,none⟩))∧w=w':=by
  go_enter Tryz.func76,Tryz.ntmps76
  go_wp2_with fail
  go_ret
  exact⟨rfl,rfl⟩
def TriR.may (C:CfgR) (x:TriR):Bool:=ordB [1,x.i,1073741824]&&x.tests C
set_option maxHeartbeats 2000000 in
set_option maxRecDepth 100000 in
theorem t_may (C:CfgR) (hC:C.fine) (x:TriR) (w:World) :
    Calls Tryz.prog 75 #[.agg #[.int .i64 C.cl,.int .i64 C.cb,.int .i64 C.ht,.int .i64 C.ri,.int .i64 C.ru,.int .i64 C.wd,.int .i64 C.dp],.agg #[.int .i64 x.i,.int .i64 x.x0,.int .i64 x.y0,.int .i64 x.z0,.int .i64 x.x1,.int .i64 x.y1,.int .i64 x.z1,.int .i64 x.x2,.int .i64 x.y2,.int .i64 x.z2],.agg #[.func (.func 76) #[] #[],.func (.func 77) #[] #[],.int .i64 200,.int .i64 40,.func (.func 78) #[] #[]]] w fun e w'=>e=.returned (.bool (x.may C))∧New w w':=by
  have hid:=fun W=>t_id x W
  have HCH:=Lib.hid (fun W=>TriR.checks C hC x W)
  obtain⟨v,hv⟩:∃ v,v=x.may C:=⟨_,rfl⟩
  rw[←hv]
  unfold TriR.may at hv
  generalize TriR.tests C x=tv at *
  cases h1:ordB [1,x.i,1073741824]
  · have HV:Hid (v=false):=by show v=false;rw[hv,h1];rfl
    clear hv HCH
    have k1:=Lib.hid (fun b W (H:IntsAt W b [1,x.i,1073741824])=>by have q:=l_inOrder b 3 [1,x.i,1073741824] (by simp) (by simp) W H;rw[h1]at q;exact q:∀ b W,IntsAt W b [1,x.i,1073741824]→Calls Tryz.prog 86 #[.slice (some ⟨b,0,none⟩) 3 3] W fun e w'=>e=.returned (.bool false)∧New W w')
    clear h1 hC
    go_enter Tryz.func75,Tryz.ntmps75
    go_wp2_with fail
    generalize hW:World.alloc _ _=W
    have hn:New w W:=by subst hW;exact nw
    clear hW
    refine(hid _).mono ?_
    rintro e W1 ⟨rfl,n1⟩
    replace hn:=hn.trans n1
    clear n1 hid
    go_wp2_with fail
    refine(k1.out _ _ (ints_at _ [1,x.i,1073741824] _ _ rfl)).mono ?_
    rintro e W2 ⟨rfl,n1⟩
    replace hn:New w W2:=New.trans (hn.alloc _) n1
    clear n1 k1
    go_wp2_with fail
    go_ret
    exact⟨retBo HV.out.symm,hn⟩
  · rw[h1,Bool.true_and]at hv
    subst hv
    have k1:=Lib.hid (fun b W (H:IntsAt W b [1,x.i,1073741824])=>by have q:=l_inOrder b 3 [1,x.i,1073741824] (by simp) (by simp) W H;rw[h1]at q;exact q:∀ b W,IntsAt W b [1,x.i,1073741824]→Calls Tryz.prog 86 #[.slice (some ⟨b,0,none⟩) 3 3] W fun e w'=>e=.returned (.bool true)∧New W w')
    clear h1 hC
    go_enter Tryz.func75,Tryz.ntmps75
    go_wp2_with fail
    generalize hW:World.alloc _ _=W
    have hn:New w W:=by subst hW;exact nw
    have kc:W.cell? ⟨w.heap.size+1+1,4,none⟩=some (.func (.func 78) #[] #[]):=by subst hW;go_simp
    ((have g0:World.cell? (W) ⟨w.heap.size,0,none⟩=some (.int .i64 C.cl):=(by subst hW;go_simp));(have g1:World.cell? (W) ⟨w.heap.size,1,none⟩=some (.int .i64 C.cb):=(by subst hW;go_simp));(have g2:World.cell? (W) ⟨w.heap.size,2,none⟩=some (.int .i64 C.ht):=(by subst hW;go_simp));(have g3:World.cell? (W) ⟨w.heap.size,3,none⟩=some (.int .i64 C.ri):=(by subst hW;go_simp));(have g4:World.cell? (W) ⟨w.heap.size,4,none⟩=some (.int .i64 C.ru):=(by subst hW;go_simp));(have g5:World.cell? (W) ⟨w.heap.size,5,none⟩=some (.int .i64 C.wd):=(by subst hW;go_simp));(have g6:World.cell? (W) ⟨w.heap.size,6,none⟩=some (.int .i64 C.dp):=(by subst hW;go_simp)))
    ((have c0:World.cell? (W) ⟨w.heap.size+1,0,none⟩=some (.int .i64 x.i):=(by subst hW;go_simp));(have c1:World.cell? (W) ⟨w.heap.size+1,1,none⟩=some (.int .i64 x.x0):=(by subst hW;go_simp));(have c2:World.cell? (W) ⟨w.heap.size+1,2,none⟩=some (.int .i64 x.y0):=(by subst hW;go_simp));(have c3:World.cell? (W) ⟨w.heap.size+1,3,none⟩=some (.int .i64 x.z0):=(by subst hW;go_simp));(have c4:World.cell? (W) ⟨w.heap.size+1,4,none⟩=some (.int .i64 x.x1):=(by subst hW;go_simp));(have c5:World.cell? (W) ⟨w.heap.size+1,5,none⟩=some (.int .i64 x.y1):=(by subst hW;go_simp));(have c6:World.cell? (W) ⟨w.heap.size+1,6,none⟩=some (.int .i64 x.z1):=(by subst hW;go_simp));(have c7:World.cell? (W) ⟨w.heap.size+1,7,none⟩=some (.int .i64 x.x2):=(by subst hW;go_simp));(have c8:World.cell? (W) ⟨w.heap.size+1,8,none⟩=some (.int .i64 x.y2):=(by subst hW;go_simp));(have c9:World.cell? (W) ⟨w.heap.size+1,9,none⟩=some (.int .i64 x.z2):=(by subst hW;go_simp)))
    clear hW
    refine(hid _).mono ?_
    rintro e W1 ⟨rfl,n1⟩
    replace hn:=hn.trans n1
    replace kc:=New.keep n1 kc
    (replace g0:=New.keep (n1) g0;replace g1:=New.keep (n1) g1;replace g2:=New.keep (n1) g2;replace g3:=New.keep (n1) g3;replace g4:=New.keep (n1) g4;replace g5:=New.keep (n1) g5;replace g6:=New.keep (n1) g6)
    (replace c0:=New.keep (n1) c0;replace c1:=New.keep (n1) c1;replace c2:=New.keep (n1) c2;replace c3:=New.keep (n1) c3;replace c4:=New.keep (n1) c4;replace c5:=New.keep (n1) c5;replace c6:=New.keep (n1) c6;replace c7:=New.keep (n1) c7;replace c8:=New.keep (n1) c8;replace c9:=New.keep (n1) c9)
    clear n1 hid
    go_wp2_with fail
    refine(k1.out _ _ (ints_at _ [1,x.i,1073741824] _ _ rfl)).mono ?_
    rintro e W2 ⟨rfl,n1⟩
    replace n1:=New.trans ((New.refl _).alloc _) n1
    replace hn:New w W2:=New.trans hn n1
    replace kc:=New.keep n1 kc
    (replace g0:=New.keep (n1) g0;replace g1:=New.keep (n1) g1;replace g2:=New.keep (n1) g2;replace g3:=New.keep (n1) g3;replace g4:=New.keep (n1) g4;replace g5:=New.keep (n1) g5;replace g6:=New.keep (n1) g6)
    (replace c0:=New.keep (n1) c0;replace c1:=New.keep (n1) c1;replace c2:=New.keep (n1) c2;replace c3:=New.keep (n1) c3;replace c4:=New.keep (n1) c4;replace c5:=New.keep (n1) c5;replace c6:=New.keep (n1) c6;replace c7:=New.keep (n1) c7;replace c8:=New.keep (n1) c8;replace c9:=New.keep (n1) c9)
    clear n1 k1
    go_wp2_with fail
    refine(HCH.out _).mono ?_
    rintro e W3 ⟨B,fl,rfl,hl,hall,hg,hat,n1⟩
    have HA:=Lib.hid (l_all W3 B fl.length fl hl hg W3 (New.refl _) hat)
    rw[hall]at HA
    replace hn:=New.trans hn n1
    clear n1 hall hg hat HCH kc hl
    clear c0 c1 c2 c3 c4 c5 c6 c7 c8 c9
    clear g0 g1 g2 g3 g4 g5 g6
    go_wp2_with fail
    refine HA.out.mono ?_
    rintro e W4 ⟨rfl,n1⟩
    replace hn:=New.trans hn n1
    go_wp2_with fail
    go_ret
    exact⟨rfl,hn⟩
end Go.Proofs.YtmhghnbgllaihaaGreatDoor

namespace Go.Proofs.YtmhghnbgllaihaaGreatDoor
open Go.RowKit
set_option linter.unusedVariables false
set_option maxHeartbeats 400000 in
theorem h_id (x:HopR) (w:World):Calls Tryz.prog 92 #[.agg #[.int .i64 x.i,.int .i64 x.fx,.int .i64 x.fz,.int .i64 x.fy,.int .i64 x.tx,.int .i64 x.tz,.int .i64 x.ty,.bool x.bo,.int .i64 x.ar,.int .i64 x.co]] w fun e w'=>e=.returned (.int .i64 x.i)∧New w w':=by
  go_enter Tryz.func92,Tryz.ntmps92
  go_wp2_with fail
  go_ret
  exact⟨rfl,by exact nw⟩
set_option maxHeartbeats 400000 in
theorem h_list (b:Nat) (w:World):Calls Tryz.prog 91 #[.pointer (some ⟨b,0,none⟩)] w fun e w'=>e=.returned (.pointer (some ⟨b,2,none⟩))∧w=w':=by
  go_enter Tryz.func91,Tryz.ntmps91
  go_wp2_with fail
  go_ret
  exact⟨rfl,rfl⟩
def HopR.may (C:CfgR) (x:HopR):Bool:=ordB [1,x.i,1073741824]&&x.tests C
set_option maxHeartbeats 2000000 in
set_option maxRecDepth 100000 in
theorem h_may (C:CfgR) (hC:C.fine) (x:HopR) (w:World) :
    Calls Tryz.prog 90 #[.agg #[.int .i64 C.cl,.int .i64 C.cb,.int .i64 C.ht,.int .i64 C.ri,.int .i64 C.ru,.int .i64 C.wd,.int .i64 C.dp],.agg #[.int .i64 x.i,.int .i64 x.fx,.int .i64 x.fz,.int .i64 x.fy,.int .i64 x.tx,.int .i64 x.tz,.int .i64 x.ty,.bool x.bo,.int .i64 x.ar,.int .i64 x.co],.agg #[.func (.func 91) #[] #[],.func (.func 92) #[] #[],.int .i64 16,.int .i64 2,.func (.func 93) #[] #[]]] w fun e w'=>e=.returned (.bool (x.may C))∧New w w':=by
  have hid:=fun W=>h_id x W
  have HCH:=Lib.hid (fun W=>HopR.checks C hC x W)
  obtain⟨v,hv⟩:∃ v,v=x.may C:=⟨_,rfl⟩
  rw[←hv]
  unfold HopR.may at hv
  generalize HopR.tests C x=tv at *
  cases h1:ordB [1,x.i,1073741824]
  · have HV:Hid (v=false):=by show v=false;rw[hv,h1];rfl
    clear hv HCH
    have k1:=Lib.hid (fun b W (H:IntsAt W b [1,x.i,1073741824])=>by have q:=l_inOrder b 3 [1,x.i,1073741824] (by simp) (by simp) W H;rw[h1]at q;exact q:∀ b W,IntsAt W b [1,x.i,1073741824]→Calls Tryz.prog 86 #[.slice (some ⟨b,0,none⟩) 3 3] W fun e w'=>e=.returned (.bool false)∧New W w')
    clear h1 hC
    go_enter Tryz.func90,Tryz.ntmps90
    go_wp2_with fail
    generalize hW:World.alloc _ _=W
    have hn:New w W:=by subst hW;exact nw
    clear hW
    refine(hid _).mono ?_
    rintro e W1 ⟨rfl,n1⟩
    replace hn:=hn.trans n1
    clear n1 hid
    go_wp2_with fail
    refine(k1.out _ _ (ints_at _ [1,x.i,1073741824] _ _ rfl)).mono ?_
    rintro e W2 ⟨rfl,n1⟩
    replace hn:New w W2:=New.trans (hn.alloc _) n1
    clear n1 k1
    go_wp2_with fail
    go_ret
    exact⟨retBo HV.out.symm,hn⟩
  · rw[h1,Bool.true_and]at hv
    subst hv
    have k1:=Lib.hid (fun b W (H:IntsAt W b [1,x.i,1073741824])=>by have q:=l_inOrder b 3 [1,x.i,1073741824] (by simp) (by simp) W H;rw[h1]at q;exact q:∀ b W,IntsAt W b [1,x.i,1073741824]→Calls Tryz.prog 86 #[.slice (some ⟨b,0,none⟩) 3 3] W fun e w'=>e=.returned (.bool true)∧New W w')
    clear h1 hC
    go_enter Tryz.func90,Tryz.ntmps90
    go_wp2_with fail
    generalize hW:World.alloc _ _=W
    have hn:New w W:=by subst hW;exact nw
    have kc:W.cell? ⟨w.heap.size+1+1,4,none⟩=some (.func (.func 93) #[] #[]):=by subst hW;go_simp
    ((have g0:World.cell? (W) ⟨w.heap.size,0,none⟩=some (.int .i64 C.cl):=(by subst hW;go_simp));(have g1:World.cell? (W) ⟨w.heap.size,1,none⟩=some (.int .i64 C.cb):=(by subst hW;go_simp));(have g2:World.cell? (W) ⟨w.heap.size,2,none⟩=some (.int .i64 C.ht):=(by subst hW;go_simp));(have g3:World.cell? (W) ⟨w.heap.size,3,none⟩=some (.int .i64 C.ri):=(by subst hW;go_simp));(have g4:World.cell? (W) ⟨w.heap.size,4,none⟩=some (.int .i64 C.ru):=(by subst hW;go_simp));(have g5:World.cell? (W) ⟨w.heap.size,5,none⟩=some (.int .i64 C.wd):=(by subst hW;go_simp));(have g6:World.cell? (W) ⟨w.heap.size,6,none⟩=some (.int .i64 C.dp):=(by subst hW;go_simp)))
    ((have c0:World.cell? (W) ⟨w.heap.size+1,0,none⟩=some (.int .i64 x.i):=(by subst hW;go_simp));(have c1:World.cell? (W) ⟨w.heap.size+1,1,none⟩=some (.int .i64 x.fx):=(by subst hW;go_simp));(have c2:World.cell? (W) ⟨w.heap.size+1,2,none⟩=some (.int .i64 x.fz):=(by subst hW;go_simp));(have c3:World.cell? (W) ⟨w.heap.size+1,3,none⟩=some (.int .i64 x.fy):=(by subst hW;go_simp));(have c4:World.cell? (W) ⟨w.heap.size+1,4,none⟩=some (.int .i64 x.tx):=(by subst hW;go_simp));(have c5:World.cell? (W) ⟨w.heap.size+1,5,none⟩=some (.int .i64 x.tz):=(by subst hW;go_simp));(have c6:World.cell? (W) ⟨w.heap.size+1,6,none⟩=some (.int .i64 x.ty):=(by subst hW;go_simp));(have c7:World.cell? (W) ⟨w.heap.size+1,7,none⟩=some (.bool x.bo):=(by subst hW;go_simp));(have c8:World.cell? (W) ⟨w.heap.size+1,8,none⟩=some (.int .i64 x.ar):=(by subst hW;go_simp));(have c9:World.cell? (W) ⟨w.heap.size+1,9,none⟩=some (.int .i64 x.co):=(by subst hW;go_simp)))
    clear hW
    refine(hid _).mono ?_
    rintro e W1 ⟨rfl,n1⟩
    replace hn:=hn.trans n1
    replace kc:=New.keep n1 kc
    (replace g0:=New.keep (n1) g0;replace g1:=New.keep (n1) g1;replace g2:=New.keep (n1) g2;replace g3:=New.keep (n1) g3;replace g4:=New.keep (n1) g4;replace g5:=New.keep (n1) g5;replace g6:=New.keep (n1) g6)
    (replace c0:=New.keep (n1) c0;replace c1:=New.keep (n1) c1;replace c2:=New.keep (n1) c2;replace c3:=New.keep (n1) c3;replace c4:=New.keep (n1) c4;replace c5:=New.keep (n1) c5;replace c6:=New.keep (n1) c6;replace c7:=New.keep (n1) c7;replace c8:=New.keep (n1) c8;replace c9:=New.keep (n1) c9)
    clear n1 hid
    go_wp2_with fail
    refine(k1.out _ _ (ints_at _ [1,x.i,1073741824] _ _ rfl)).mono ?_
    rintro e W2 ⟨rfl,n1⟩
    replace n1:=New.trans ((New.refl _).alloc _) n1
    replace hn:New w W2:=New.trans hn n1
    replace kc:=New.keep n1 kc
    (replace g0:=New.keep (n1) g0;replace g1:=New.keep (n1) g1;replace g2:=New.keep (n1) g2;replace g3:=New.keep (n1) g3;replace g4:=New.keep (n1) g4;replace g5:=New.keep (n1) g5;replace g6:=New.keep (n1) g6)
    (replace c0:=New.keep (n1) c0;replace c1:=New.keep (n1) c1;replace c2:=New.keep (n1) c2;replace c3:=New.keep (n1) c3;replace c4:=New.keep (n1) c4;replace c5:=New.keep (n1) c5;replace c6:=New.keep (n1) c6;replace c7:=New.keep (n1) c7;replace c8:=New.keep (n1) c8;replace c9:=New.keep (n1) c9)
    clear n1 k1
    go_wp2_with fail
    refine(HCH.out _).mono ?_
    rintro e W3 ⟨B,fl,rfl,hl,hall,hg,hat,n1⟩
    have HA:=Lib.hid (l_all W3 B fl.length fl hl hg W3 (New.refl _) hat)
    rw[hall]at HA
    replace hn:=New.trans hn n1
    clear n1 hall hg hat HCH kc hl
    clear c0 c1 c2 c3 c4 c5 c6 c7 c8 c9
    clear g0 g1 g2 g3 g4 g5 g6
    go_wp2_with fail
    refine HA.out.mono ?_
    rintro e W4 ⟨rfl,n1⟩
    replace hn:=New.trans hn n1
    go_wp2_with fail
    go_ret
    exact⟨rfl,hn⟩
end Go.Proofs.YtmhghnbgllaihaaGreatDoor

namespace Go.Proofs.YtmhghnbgllaihaaGreatDoor
open Go.RowKit
set_option linter.unusedVariables false
def BoxR.okAt (C:CfgR) (l:List BoxR) (i:Nat):Bool:=(l[i]!).may C&&(i==0||decide ((l[i - 1]!).i<(l[i]!).i))
def BoxR.listB (C:CfgR) (l:List BoxR):Bool:=decide (l.length≤16)&&(List.range l.length).all (BoxR.okAt C l)
theorem BoxR.okAt_zero (C:CfgR) (l:List BoxR) (h:0<l.length):BoxR.okAt C l 0=l[0].may C:=by
  unfold BoxR.okAt
  rw[getElem!_pos l 0 h]
  simp
theorem BoxR.okAt_succ (C:CfgR) (l:List BoxR) (i:Nat) (h:i+1<l.length):BoxR.okAt C l (i+1)=(l[i+1].may C&&decide (l[i].i<l[i+1].i)):=by
  unfold BoxR.okAt
  rw[getElem!_pos l (i+1) h,Nat.add_sub_cancel,getElem!_pos l i (by omega)]
  simp
theorem BoxR.listB_no {C:CfgR} {l:List BoxR} {i:Nat} (h:i<l.length) (k:BoxR.okAt C l i=false):BoxR.listB C l=false:=by
  unfold BoxR.listB
  rw[Bool.and_eq_false_iff]
  exact Or.inr (List.all_eq_false.2 ⟨i,List.mem_range.2 h,by rw[k];simp⟩)
set_option maxHeartbeats 4000000 in
set_option maxRecDepth 100000 in
theorem b_listMay (C:CfgR) (hC:C.fine) (S:SoupV) (w:World) (hS:S.ok w) :
    Calls Tryz.prog 54 #[.agg #[.int .i64 C.cl,.int .i64 C.cb,.int .i64 C.ht,.int .i64 C.ri,.int .i64 C.ru,.int .i64 C.wd,.int .i64 C.dp],.agg #[.slice S.a0 S.ts.length S.c0,.slice S.a1 S.bs.length S.c1,.slice S.a2 S.hs.length S.c2],.agg #[.func (.func 82) #[] #[],.func (.func 83) #[] #[],.int .i64 16,.int .i64 2,.func (.func 84) #[] #[]]] w fun e w'=>e=.returned (.bool (BoxR.listB C S.bs))∧New w w':=by
  have hL:=Lib.hid (fun b W=>b_list b W)
  have hM:=Lib.hid (fun x W=>b_may C hC x W)
  have hI:=Lib.hid (fun x W=>b_id x W)
  have hR:=hS.b
  obtain⟨ts,bs,hs,a0,a1,a2,c0,c1,c2⟩:=S
  simp only at hR ⊢
  obtain⟨-,hc1,hc2,-,HR⟩:=hR.row
  unfold maxLen at hc2
  clear hR hS hC
  have hlen:bs.length≤9223372036854775807:=by omega
  go_enter Tryz.func54,Tryz.ntmps54
  go_wp2_with fail
  generalize hW:World.alloc _ _=W
  have hn:New w W:=by subst hW;exact nw
  have q1:W.cell? ⟨w.heap.size+1,1,none⟩=some (.slice a1 bs.length c1):=by subst hW;go_simp
  have k0:W.cell? ⟨w.heap.size+1+1,0,none⟩=some (.func (.func 82) #[] #[]):=by subst hW;go_simp
  have k1:W.cell? ⟨w.heap.size+1+1,1,none⟩=some (.func (.func 83) #[] #[]):=by subst hW;go_simp
  have k2:W.cell? ⟨w.heap.size+1+1,2,none⟩=some (.int .i64 16):=by subst hW;go_simp
  have k3:W.cell? ⟨w.heap.size+1+1,3,none⟩=some (.int .i64 2):=by subst hW;go_simp
  have k4:W.cell? ⟨w.heap.size+1+1,4,none⟩=some (.func (.func 84) #[] #[]):=by subst hW;go_simp
  ((have g0:World.cell? (W) ⟨w.heap.size,0,none⟩=some (.int .i64 C.cl):=(by subst hW;go_simp));(have g1:World.cell? (W) ⟨w.heap.size,1,none⟩=some (.int .i64 C.cb):=(by subst hW;go_simp));(have g2:World.cell? (W) ⟨w.heap.size,2,none⟩=some (.int .i64 C.ht):=(by subst hW;go_simp));(have g3:World.cell? (W) ⟨w.heap.size,3,none⟩=some (.int .i64 C.ri):=(by subst hW;go_simp));(have g4:World.cell? (W) ⟨w.heap.size,4,none⟩=some (.int .i64 C.ru):=(by subst hW;go_simp));(have g5:World.cell? (W) ⟨w.heap.size,5,none⟩=some (.int .i64 C.wd):=(by subst hW;go_simp));(have g6:World.cell? (W) ⟨w.heap.size,6,none⟩=some (.int .i64 C.dp):=(by subst hW;go_simp)))
  clear hW
  refine(hL.out _ _).mono ?_
  rintro e w' ⟨rfl,rfl⟩
  clear hL
  by_cases hm:bs.length≤16
  rotate_left
  · have hd:decide ((16:Int)<(bs.length:Int))=true:=by simp;omega
    go_wp2_with fail
    go_ret
    exact⟨retBo (by unfold BoxR.listB;simp[hm]),hn⟩
  have hd:decide ((16:Int)<(bs.length:Int))=false:=by simp;omega
  clear hlen hc1 hc2
  have HR':=Lib.hid (HR.keep hn)
  clear HR
  go_wp2_with fail
  clear hd q1
  go_loopg [22] bs.length (fun k s wr=>∃ i:Nat,s=.int .i64 i∧i+k=bs.length∧(List.range i).all (BoxR.okAt C bs)=true∧New W wr)
  case atStart=>exact⟨0,by simp,by omega,by simp,New.refl _⟩
  case round =>
    obtain⟨i,rfl,hik,hall,hnW⟩:=hrel
    have HA:=Lib.hid hall
    clear hall
    by_cases hlt:i<bs.length
    · cases i with
      | zero =>
        have hsr:=List.range_succ (n:=0)
        have HSR:=Lib.hid hsr
        clear hsr
        obtain⟨b,off,rfl,hA⟩:=HR'.out (by omega)
        have hA':=hA.keep hnW
        obtain⟨c0,c1,c2,c3,c4,c5,c6,c7⟩:=BoxR.cells hA' (0) hlt
        simp only[Nat.zero_mul,Nat.add_zero]at c0 c1 c2 c3 c4 c5 c6 c7
        (replace k0:=New.keep (hnW) k0;replace k1:=New.keep (hnW) k1;replace k2:=New.keep (hnW) k2;replace k3:=New.keep (hnW) k3;replace k4:=New.keep (hnW) k4)
        (replace g0:=New.keep (hnW) g0;replace g1:=New.keep (hnW) g1;replace g2:=New.keep (hnW) g2;replace g3:=New.keep (hnW) g3;replace g4:=New.keep (hnW) g4;replace g5:=New.keep (hnW) g5;replace g6:=New.keep (hnW) g6)
        clear hA hA'
        go_upto_region 7 with fail
        generalize hZ:World.alloc _ _=Z
        have nZ:New wr Z:=by subst hZ;exact nw
        ((have z0:World.cell? (Z) ⟨wr.heap.size,0,none⟩=some (.int .i64 bs[0].i):=(by subst hZ;go_simp));(have z1:World.cell? (Z) ⟨wr.heap.size,1,none⟩=some (.int .i64 bs[0].x0):=(by subst hZ;go_simp));(have z2:World.cell? (Z) ⟨wr.heap.size,2,none⟩=some (.int .i64 bs[0].z0):=(by subst hZ;go_simp));(have z3:World.cell? (Z) ⟨wr.heap.size,3,none⟩=some (.int .i64 bs[0].x1):=(by subst hZ;go_simp));(have z4:World.cell? (Z) ⟨wr.heap.size,4,none⟩=some (.int .i64 bs[0].z1):=(by subst hZ;go_simp));(have z5:World.cell? (Z) ⟨wr.heap.size,5,none⟩=some (.int .i64 bs[0].y0):=(by subst hZ;go_simp));(have z6:World.cell? (Z) ⟨wr.heap.size,6,none⟩=some (.int .i64 bs[0].y1):=(by subst hZ;go_simp));(have z7:World.cell? (Z) ⟨wr.heap.size,7,none⟩=some (.int .i64 bs[0].ar):=(by subst hZ;go_simp)))
        (replace k0:=New.keep (nZ) k0;replace k1:=New.keep (nZ) k1;replace k2:=New.keep (nZ) k2;replace k3:=New.keep (nZ) k3;replace k4:=New.keep (nZ) k4)
        (replace g0:=New.keep (nZ) g0;replace g1:=New.keep (nZ) g1;replace g2:=New.keep (nZ) g2;replace g3:=New.keep (nZ) g3;replace g4:=New.keep (nZ) g4;replace g5:=New.keep (nZ) g5;replace g6:=New.keep (nZ) g6)
        clear c0 c1 c2 c3 c4 c5 c6 c7
        clear hZ
        have hok:=BoxR.okAt_zero C bs hlt
        cases hmay:bs[0].may C
        · have HM':=Lib.hid (fun W=>by have q:=hM.out bs[0] W;rw[hmay]at q;exact q:∀ W,Calls Tryz.prog 81 #[.agg #[.int .i64 C.cl,.int .i64 C.cb,.int .i64 C.ht,.int .i64 C.ri,.int .i64 C.ru,.int .i64 C.wd,.int .i64 C.dp],.agg #[.int .i64 bs[0].i,.int .i64 bs[0].x0,.int .i64 bs[0].z0,.int .i64 bs[0].x1,.int .i64 bs[0].z1,.int .i64 bs[0].y0,.int .i64 bs[0].y1,.int .i64 bs[0].ar],.agg #[.func (.func 82) #[] #[],.func (.func 83) #[] #[],.int .i64 16,.int .i64 2,.func (.func 84) #[] #[]]] W fun e w'=>e=.returned (.bool false)∧New W w')
          have HNO:Hid (BoxR.listB C bs=false):=BoxR.listB_no hlt (by rw[BoxR.okAt_zero C bs hlt,hmay])
          clear hmay hM
          (refine wp_region_hat (by kernel_rfl) (by kernel_rfl) ?_;intro hatc hatf;(repeat(go_big_quiet_step ((first|(go_at_call 81;exact Calls.hat (HM'.out _))|(go_at_call 83;exact Calls.hat (hI.out _ _))))));refine wpQuiet_nil ?_;rintro _ ⟨x,rfl⟩)
          go_wp2_with fail
          go_ret
          exact⟨retBo HNO.out.symm,((hn.trans hnW).trans nZ).hat x⟩
        · have HM':=Lib.hid (fun W=>by have q:=hM.out bs[0] W;rw[hmay]at q;exact q:∀ W,Calls Tryz.prog 81 #[.agg #[.int .i64 C.cl,.int .i64 C.cb,.int .i64 C.ht,.int .i64 C.ri,.int .i64 C.ru,.int .i64 C.wd,.int .i64 C.dp],.agg #[.int .i64 bs[0].i,.int .i64 bs[0].x0,.int .i64 bs[0].z0,.int .i64 bs[0].x1,.int .i64 bs[0].z1,.int .i64 bs[0].y0,.int .i64 bs[0].y1,.int .i64 bs[0].ar],.agg #[.func (.func 82) #[] #[],.func (.func 83) #[] #[],.int .i64 16,.int .i64 2,.func (.func 84) #[] #[]]] W fun e w'=>e=.returned (.bool true)∧New W w')
          have HOK:=Lib.hid (hok.trans hmay)
          clear hok hmay hM
          (refine wp_region_hat (by kernel_rfl) (by kernel_rfl) ?_;intro hatc hatf;(repeat(go_big_quiet_step ((first|(go_at_call 81;exact Calls.hat (HM'.out _))|(go_at_call 83;exact Calls.hat (hI.out _ _))))));refine wpQuiet_nil ?_;rintro _ ⟨x,rfl⟩)
          go_wp2_with fail
          go_roundg (gk - 1)
          case measure=>omega
          case rel=>exact⟨1,by go_num,by omega,by rw[HSR.out,List.all_append,HA.out];simp[HOK.out],(hnW.trans nZ).hat x⟩
      | succ i =>
        have hsr:=List.range_succ (n:=i+1)
        have HSR:=Lib.hid hsr
        clear hsr
        obtain⟨b,off,rfl,hA⟩:=HR'.out (by omega)
        have hA':=hA.keep hnW
        obtain⟨c0,c1,c2,c3,c4,c5,c6,c7⟩:=BoxR.cells hA' (i+1) hlt
        (replace k0:=New.keep (hnW) k0;replace k1:=New.keep (hnW) k1;replace k2:=New.keep (hnW) k2;replace k3:=New.keep (hnW) k3;replace k4:=New.keep (hnW) k4)
        (replace g0:=New.keep (hnW) g0;replace g1:=New.keep (hnW) g1;replace g2:=New.keep (hnW) g2;replace g3:=New.keep (hnW) g3;replace g4:=New.keep (hnW) g4;replace g5:=New.keep (hnW) g5;replace g6:=New.keep (hnW) g6)
        obtain⟨d0,d1,d2,d3,d4,d5,d6,d7⟩:=BoxR.cells hA' i (by omega)
        clear hA hA'
        go_upto_region 7 with fail
        generalize hZ:World.alloc _ _=Z
        have nZ:New wr Z:=by subst hZ;exact nw
        ((have z0:World.cell? (Z) ⟨wr.heap.size,0,none⟩=some (.int .i64 bs[i+1].i):=(by subst hZ;go_simp));(have z1:World.cell? (Z) ⟨wr.heap.size,1,none⟩=some (.int .i64 bs[i+1].x0):=(by subst hZ;go_simp));(have z2:World.cell? (Z) ⟨wr.heap.size,2,none⟩=some (.int .i64 bs[i+1].z0):=(by subst hZ;go_simp));(have z3:World.cell? (Z) ⟨wr.heap.size,3,none⟩=some (.int .i64 bs[i+1].x1):=(by subst hZ;go_simp));(have z4:World.cell? (Z) ⟨wr.heap.size,4,none⟩=some (.int .i64 bs[i+1].z1):=(by subst hZ;go_simp));(have z5:World.cell? (Z) ⟨wr.heap.size,5,none⟩=some (.int .i64 bs[i+1].y0):=(by subst hZ;go_simp));(have z6:World.cell? (Z) ⟨wr.heap.size,6,none⟩=some (.int .i64 bs[i+1].y1):=(by subst hZ;go_simp));(have z7:World.cell? (Z) ⟨wr.heap.size,7,none⟩=some (.int .i64 bs[i+1].ar):=(by subst hZ;go_simp)))
        (replace k0:=New.keep (nZ) k0;replace k1:=New.keep (nZ) k1;replace k2:=New.keep (nZ) k2;replace k3:=New.keep (nZ) k3;replace k4:=New.keep (nZ) k4)
        (replace g0:=New.keep (nZ) g0;replace g1:=New.keep (nZ) g1;replace g2:=New.keep (nZ) g2;replace g3:=New.keep (nZ) g3;replace g4:=New.keep (nZ) g4;replace g5:=New.keep (nZ) g5;replace g6:=New.keep (nZ) g6)
        clear c0 c1 c2 c3 c4 c5 c6 c7
        (replace d0:=New.keep (nZ) d0;replace d1:=New.keep (nZ) d1;replace d2:=New.keep (nZ) d2;replace d3:=New.keep (nZ) d3;replace d4:=New.keep (nZ) d4;replace d5:=New.keep (nZ) d5;replace d6:=New.keep (nZ) d6;replace d7:=New.keep (nZ) d7)
        clear hZ
        have hok:=BoxR.okAt_succ C bs i hlt
        cases hmay:bs[i+1].may C
        · have HM':=Lib.hid (fun W=>by have q:=hM.out bs[i+1] W;rw[hmay]at q;exact q:∀ W,Calls Tryz.prog 81 #[.agg #[.int .i64 C.cl,.int .i64 C.cb,.int .i64 C.ht,.int .i64 C.ri,.int .i64 C.ru,.int .i64 C.wd,.int .i64 C.dp],.agg #[.int .i64 bs[i+1].i,.int .i64 bs[i+1].x0,.int .i64 bs[i+1].z0,.int .i64 bs[i+1].x1,.int .i64 bs[i+1].z1,.int .i64 bs[i+1].y0,.int .i64 bs[i+1].y1,.int .i64 bs[i+1].ar],.agg #[.func (.func 82) #[] #[],.func (.func 83) #[] #[],.int .i64 16,.int .i64 2,.func (.func 84) #[] #[]]] W fun e w'=>e=.returned (.bool false)∧New W w')
          have HNO:Hid (BoxR.listB C bs=false):=BoxR.listB_no hlt (by rw[BoxR.okAt_succ C bs i hlt,hmay];rfl)
          clear hmay hM
          (refine wp_region_hat (by kernel_rfl) (by kernel_rfl) ?_;intro hatc hatf;(repeat(go_big_quiet_step ((first|(go_at_call 81;exact Calls.hat (HM'.out _))|(go_at_call 83;exact Calls.hat (hI.out _ _))))));refine wpQuiet_nil ?_;rintro _ ⟨x,rfl⟩)
          go_wp2_with fail
          go_ret
          exact⟨retBo HNO.out.symm,((hn.trans hnW).trans nZ).hat x⟩
        · have HM':=Lib.hid (fun W=>by have q:=hM.out bs[i+1] W;rw[hmay]at q;exact q:∀ W,Calls Tryz.prog 81 #[.agg #[.int .i64 C.cl,.int .i64 C.cb,.int .i64 C.ht,.int .i64 C.ri,.int .i64 C.ru,.int .i64 C.wd,.int .i64 C.dp],.agg #[.int .i64 bs[i+1].i,.int .i64 bs[i+1].x0,.int .i64 bs[i+1].z0,.int .i64 bs[i+1].x1,.int .i64 bs[i+1].z1,.int .i64 bs[i+1].y0,.int .i64 bs[i+1].y1,.int .i64 bs[i+1].ar],.agg #[.func (.func 82) #[] #[],.func (.func 83) #[] #[],.int .i64 16,.int .i64 2,.func (.func 84) #[] #[]]] W fun e w'=>e=.returned (.bool true)∧New W w')
          rw[hmay,Bool.true_and]at hok
          clear hmay hM
          cases hle:decide (bs[i+1].i≤bs[i].i)
          · have HOK:Hid (BoxR.okAt C bs (i+1)=true):=by
              show _=true
              rw[hok]
              simp at hle ⊢
              first|done|omega
            clear hok
            (refine wp_region_hat (by kernel_rfl) (by kernel_rfl) ?_;intro hatc hatf;(repeat(go_big_quiet_step ((first|(go_at_call 81;exact Calls.hat (HM'.out _))|(go_at_call 83;exact Calls.hat (hI.out _ _))))));refine wpQuiet_nil ?_;rintro _ ⟨x,rfl⟩)
            go_wp2_with fail
            go_roundg (gk - 1)
            case measure=>omega
            case rel=>exact⟨i+1+1,by go_num,by omega,by rw[HSR.out,List.all_append,HA.out];simp[HOK.out],(hnW.trans nZ).hat x⟩
          · have HNO:Hid (BoxR.listB C bs=false):=BoxR.listB_no hlt (by rw[hok];simp at hle ⊢;first|done|omega)
            clear hok
            (refine wp_region_hat (by kernel_rfl) (by kernel_rfl) ?_;intro hatc hatf;(repeat(go_big_quiet_step ((first|(go_at_call 81;exact Calls.hat (HM'.out _))|(go_at_call 83;exact Calls.hat (hI.out _ _))))));refine wpQuiet_nil ?_;rintro _ ⟨x,rfl⟩)
            go_wp2_with fail
            go_ret
            exact⟨retBo HNO.out.symm,((hn.trans hnW).trans nZ).hat x⟩
    · go_wp2_with fail
      go_ret
      refine⟨retBo ?_,hn.trans hnW⟩
      have:=HA.out
      rw[show i=bs.length by omega]at this
      unfold BoxR.listB
      rw[this]
      simp[hm]
end Go.Proofs.YtmhghnbgllaihaaGreatDoor

namespace Go.Proofs.YtmhghnbgllaihaaGreatDoor
open Go.RowKit
set_option linter.unusedVariables false
def TriR.okAt (C:CfgR) (l:List TriR) (i:Nat):Bool:=(l[i]!).may C&&(i==0||decide ((l[i - 1]!).i<(l[i]!).i))
def TriR.listB (C:CfgR) (l:List TriR):Bool:=decide (l.length≤200)&&(List.range l.length).all (TriR.okAt C l)
theorem TriR.okAt_zero (C:CfgR) (l:List TriR) (h:0<l.length):TriR.okAt C l 0=l[0].may C:=by
  unfold TriR.okAt
  rw[getElem!_pos l 0 h]
  simp
theorem TriR.okAt_succ (C:CfgR) (l:List TriR) (i:Nat) (h:i+1<l.length):TriR.okAt C l (i+1)=(l[i+1].may C&&decide (l[i].i<l[i+1].i)):=by
  unfold TriR.okAt
  rw[getElem!_pos l (i+1) h,Nat.add_sub_cancel,getElem!_pos l i (by omega)]
  simp
theorem TriR.listB_no {C:CfgR} {l:List TriR} {i:Nat} (h:i<l.length) (k:TriR.okAt C l i=false):TriR.listB C l=false:=by
  unfold TriR.listB
  rw[Bool.and_eq_false_iff]
  exact Or.inr (List.all_eq_false.2 ⟨i,List.mem_range.2 h,by rw[k];simp⟩)
set_option maxHeartbeats 4000000 in
set_option maxRecDepth 100000 in
theorem t_listMay (C:CfgR) (hC:C.fine) (S:SoupV) (w:World) (hS:S.ok w) :
    Calls Tryz.prog 51 #[.agg #[.int .i64 C.cl,.int .i64 C.cb,.int .i64 C.ht,.int .i64 C.ri,.int .i64 C.ru,.int .i64 C.wd,.int .i64 C.dp],.agg #[.slice S.a0 S.ts.length S.c0,.slice S.a1 S.bs.length S.c1,.slice S.a2 S.hs.length S.c2],.agg #[.func (.func 76) #[] #[],.func (.func 77) #[] #[],.int .i64 200,.int .i64 40,.func (.func 78) #[] #[]]] w fun e w'=>e=.returned (.bool (TriR.listB C S.ts))∧New w w':=by
  have hL:=Lib.hid (fun b W=>t_list b W)
  have hM:=Lib.hid (fun x W=>t_may C hC x W)
  have hI:=Lib.hid (fun x W=>t_id x W)
  have hR:=hS.t
  obtain⟨ts,bs,hs,a0,a1,a2,c0,c1,c2⟩:=S
  simp only at hR ⊢
  obtain⟨-,hc1,hc2,-,HR⟩:=hR.row
  unfold maxLen at hc2
  clear hR hS hC
  have hlen:ts.length≤9223372036854775807:=by omega
  go_enter Tryz.func51,Tryz.ntmps51
  go_wp2_with fail
  generalize hW:World.alloc _ _=W
  have hn:New w W:=by subst hW;exact nw
  have q0:W.cell? ⟨w.heap.size+1,0,none⟩=some (.slice a0 ts.length c0):=by subst hW;go_simp
  have k0:W.cell? ⟨w.heap.size+1+1,0,none⟩=some (.func (.func 76) #[] #[]):=by subst hW;go_simp
  have k1:W.cell? ⟨w.heap.size+1+1,1,none⟩=some (.func (.func 77) #[] #[]):=by subst hW;go_simp
  have k2:W.cell? ⟨w.heap.size+1+1,2,none⟩=some (.int .i64 200):=by subst hW;go_simp
  have k3:W.cell? ⟨w.heap.size+1+1,3,none⟩=some (.int .i64 40):=by subst hW;go_simp
  have k4:W.cell? ⟨w.heap.size+1+1,4,none⟩=some (.func (.func 78) #[] #[]):=by subst hW;go_simp
  ((have g0:World.cell? (W) ⟨w.heap.size,0,none⟩=some (.int .i64 C.cl):=(by subst hW;go_simp));(have g1:World.cell? (W) ⟨w.heap.size,1,none⟩=some (.int .i64 C.cb):=(by subst hW;go_simp));(have g2:World.cell? (W) ⟨w.heap.size,2,none⟩=some (.int .i64 C.ht):=(by subst hW;go_simp));(have g3:World.cell? (W) ⟨w.heap.size,3,none⟩=some (.int .i64 C.ri):=(by subst hW;go_simp));(have g4:World.cell? (W) ⟨w.heap.size,4,none⟩=some (.int .i64 C.ru):=(by subst hW;go_simp));(have g5:World.cell? (W) ⟨w.heap.size,5,none⟩=some (.int .i64 C.wd):=(by subst hW;go_simp));(have g6:World.cell? (W) ⟨w.heap.size,6,none⟩=some (.int .i64 C.dp):=(by subst hW;go_simp)))
  clear hW
  refine(hL.out _ _).mono ?_
  rintro e w' ⟨rfl,rfl⟩
  clear hL
  by_cases hm:ts.length≤200
  rotate_left
  · have hd:decide ((200:Int)<(ts.length:Int))=true:=by simp;omega
    go_wp2_with fail
    go_ret
    exact⟨retBo (by unfold TriR.listB;simp[hm]),hn⟩
  have hd:decide ((200:Int)<(ts.length:Int))=false:=by simp;omega
  clear hlen hc1 hc2
  have HR':=Lib.hid (HR.keep hn)
  clear HR
  go_wp2_with fail
  clear hd q0
  go_loopg [22] ts.length (fun k s wr=>∃ i:Nat,s=.int .i64 i∧i+k=ts.length∧(List.range i).all (TriR.okAt C ts)=true∧New W wr)
  case atStart=>exact⟨0,by simp,by omega,by simp,New.refl _⟩
  case round =>
    obtain⟨i,rfl,hik,hall,hnW⟩:=hrel
    have HA:=Lib.hid hall
    clear hall
    by_cases hlt:i<ts.length
    · cases i with
      | zero =>
        have hsr:=List.range_succ (n:=0)
        have HSR:=Lib.hid hsr
        clear hsr
        obtain⟨b,off,rfl,hA⟩:=HR'.out (by omega)
        have hA':=hA.keep hnW
        obtain⟨c0,c1,c2,c3,c4,c5,c6,c7,c8,c9⟩:=TriR.cells hA' (0) hlt
        simp only[Nat.zero_mul,Nat.add_zero]at c0 c1 c2 c3 c4 c5 c6 c7 c8 c9
        (replace k0:=New.keep (hnW) k0;replace k1:=New.keep (hnW) k1;replace k2:=New.keep (hnW) k2;replace k3:=New.keep (hnW) k3;replace k4:=New.keep (hnW) k4)
        (replace g0:=New.keep (hnW) g0;replace g1:=New.keep (hnW) g1;replace g2:=New.keep (hnW) g2;replace g3:=New.keep (hnW) g3;replace g4:=New.keep (hnW) g4;replace g5:=New.keep (hnW) g5;replace g6:=New.keep (hnW) g6)
        clear hA hA'
        go_upto_region 7 with fail
        generalize hZ:World.alloc _ _=Z
        have nZ:New wr Z:=by subst hZ;exact nw
        ((have z0:World.cell? (Z) ⟨wr.heap.size,0,none⟩=some (.int .i64 ts[0].i):=(by subst hZ;go_simp));(have z1:World.cell? (Z) ⟨wr.heap.size,1,none⟩=some (.int .i64 ts[0].x0):=(by subst hZ;go_simp));(have z2:World.cell? (Z) ⟨wr.heap.size,2,none⟩=some (.int .i64 ts[0].y0):=(by subst hZ;go_simp));(have z3:World.cell? (Z) ⟨wr.heap.size,3,none⟩=some (.int .i64 ts[0].z0):=(by subst hZ;go_simp));(have z4:World.cell? (Z) ⟨wr.heap.size,4,none⟩=some (.int .i64 ts[0].x1):=(by subst hZ;go_simp));(have z5:World.cell? (Z) ⟨wr.heap.size,5,none⟩=some (.int .i64 ts[0].y1):=(by subst hZ;go_simp));(have z6:World.cell? (Z) ⟨wr.heap.size,6,none⟩=some (.int .i64 ts[0].z1):=(by subst hZ;go_simp));(have z7:World.cell? (Z) ⟨wr.heap.size,7,none⟩=some (.int .i64 ts[0].x2):=(by subst hZ;go_simp));(have z8:World.cell? (Z) ⟨wr.heap.size,8,none⟩=some (.int .i64 ts[0].y2):=(by subst hZ;go_simp));(have z9:World.cell? (Z) ⟨wr.heap.size,9,none⟩=some (.int .i64 ts[0].z2):=(by subst hZ;go_simp)))
        (replace k0:=New.keep (nZ) k0;replace k1:=New.keep (nZ) k1;replace k2:=New.keep (nZ) k2;replace k3:=New.keep (nZ) k3;replace k4:=New.keep (nZ) k4)
        (replace g0:=New.keep (nZ) g0;replace g1:=New.keep (nZ) g1;replace g2:=New.keep (nZ) g2;replace g3:=New.keep (nZ) g3;replace g4:=New.keep (nZ) g4;replace g5:=New.keep (nZ) g5;replace g6:=New.keep (nZ) g6)
        clear c0 c1 c2 c3 c4 c5 c6 c7 c8 c9
        clear hZ
        have hok:=TriR.okAt_zero C ts hlt
        cases hmay:ts[0].may C
        · have HM':=Lib.hid (fun W=>by have q:=hM.out ts[0] W;rw[hmay]at q;exact q:∀ W,Calls Tryz.prog 75 #[.agg #[.int .i64 C.cl,.int .i64 C.cb,.int .i64 C.ht,.int .i64 C.ri,.int .i64 C.ru,.int .i64 C.wd,.int .i64 C.dp],.agg #[.int .i64 ts[0].i,.int .i64 ts[0].x0,.int .i64 ts[0].y0,.int .i64 ts[0].z0,.int .i64 ts[0].x1,.int .i64 ts[0].y1,.int .i64 ts[0].z1,.int .i64 ts[0].x2,.int .i64 ts[0].y2,.int .i64 ts[0].z2],.agg #[.func (.func 76) #[] #[],.func (.func 77) #[] #[],.int .i64 200,.int .i64 40,.func (.func 78) #[] #[]]] W fun e w'=>e=.returned (.bool false)∧New W w')
          have HNO:Hid (TriR.listB C ts=false):=TriR.listB_no hlt (by rw[TriR.okAt_zero C ts hlt,hmay])
          clear hmay hM
          (refine wp_region_hat (by kernel_rfl) (by kernel_rfl) ?_;intro hatc hatf;(repeat(go_big_quiet_step ((first|(go_at_call 75;exact Calls.hat (HM'.out _))|(go_at_call 77;exact Calls.hat (hI.out _ _))))));refine wpQuiet_nil ?_;rintro _ ⟨x,rfl⟩)
          go_wp2_with fail
          go_ret
          exact⟨retBo HNO.out.symm,((hn.trans hnW).trans nZ).hat x⟩
        · have HM':=Lib.hid (fun W=>by have q:=hM.out ts[0] W;rw[hmay]at q;exact q:∀ W,Calls Tryz.prog 75 #[.agg #[.int .i64 C.cl,.int .i64 C.cb,.int .i64 C.ht,.int .i64 C.ri,.int .i64 C.ru,.int .i64 C.wd,.int .i64 C.dp],.agg #[.int .i64 ts[0].i,.int .i64 ts[0].x0,.int .i64 ts[0].y0,.int .i64 ts[0].z0,.int .i64 ts[0].x1,.int .i64 ts[0].y1,.int .i64 ts[0].z1,.int .i64 ts[0].x2,.int .i64 ts[0].y2,.int .i64 ts[0].z2],.agg #[.func (.func 76) #[] #[],.func (.func 77) #[] #[],.int .i64 200,.int .i64 40,.func (.func 78) #[] #[]]] W fun e w'=>e=.returned (.bool true)∧New W w')
          have HOK:=Lib.hid (hok.trans hmay)
          clear hok hmay hM
          (refine wp_region_hat (by kernel_rfl) (by kernel_rfl) ?_;intro hatc hatf;(repeat(go_big_quiet_step ((first|(go_at_call 75;exact Calls.hat (HM'.out _))|(go_at_call 77;exact Calls.hat (hI.out _ _))))));refine wpQuiet_nil ?_;rintro _ ⟨x,rfl⟩)
          go_wp2_with fail
          go_roundg (gk - 1)
          case measure=>omega
          case rel=>exact⟨1,by go_num,by omega,by rw[HSR.out,List.all_append,HA.out];simp[HOK.out],(hnW.trans nZ).hat x⟩
      | succ i =>
        have hsr:=List.range_succ (n:=i+1)
        have HSR:=Lib.hid hsr
        clear hsr
        obtain⟨b,off,rfl,hA⟩:=HR'.out (by omega)
        have hA':=hA.keep hnW
        obtain⟨c0,c1,c2,c3,c4,c5,c6,c7,c8,c9⟩:=TriR.cells hA' (i+1) hlt
        (replace k0:=New.keep (hnW) k0;replace k1:=New.keep (hnW) k1;replace k2:=New.keep (hnW) k2;replace k3:=New.keep (hnW) k3;replace k4:=New.keep (hnW) k4)
        (replace g0:=New.keep (hnW) g0;replace g1:=New.keep (hnW) g1;replace g2:=New.keep (hnW) g2;replace g3:=New.keep (hnW) g3;replace g4:=New.keep (hnW) g4;replace g5:=New.keep (hnW) g5;replace g6:=New.keep (hnW) g6)
        obtain⟨d0,d1,d2,d3,d4,d5,d6,d7,d8,d9⟩:=TriR.cells hA' i (by omega)
        clear hA hA'
        go_upto_region 7 with fail
        generalize hZ:World.alloc _ _=Z
        have nZ:New wr Z:=by subst hZ;exact nw
        ((have z0:World.cell? (Z) ⟨wr.heap.size,0,none⟩=some (.int .i64 ts[i+1].i):=(by subst hZ;go_simp));(have z1:World.cell? (Z) ⟨wr.heap.size,1,none⟩=some (.int .i64 ts[i+1].x0):=(by subst hZ;go_simp));(have z2:World.cell? (Z) ⟨wr.heap.size,2,none⟩=some (.int .i64 ts[i+1].y0):=(by subst hZ;go_simp));(have z3:World.cell? (Z) ⟨wr.heap.size,3,none⟩=some (.int .i64 ts[i+1].z0):=(by subst hZ;go_simp));(have z4:World.cell? (Z) ⟨wr.heap.size,4,none⟩=some (.int .i64 ts[i+1].x1):=(by subst hZ;go_simp));(have z5:World.cell? (Z) ⟨wr.heap.size,5,none⟩=some (.int .i64 ts[i+1].y1):=(by subst hZ;go_simp));(have z6:World.cell? (Z) ⟨wr.heap.size,6,none⟩=some (.int .i64 ts[i+1].z1):=(by subst hZ;go_simp));(have z7:World.cell? (Z) ⟨wr.heap.size,7,none⟩=some (.int .i64 ts[i+1].x2):=(by subst hZ;go_simp));(have z8:World.cell? (Z) ⟨wr.heap.size,8,none⟩=some (.int .i64 ts[i+1].y2):=(by subst hZ;go_simp));(have z9:World.cell? (Z) ⟨wr.heap.size,9,none⟩=some (.int .i64 ts[i+1].z2):=(by subst hZ;go_simp)))
        (replace k0:=New.keep (nZ) k0;replace k1:=New.keep (nZ) k1;replace k2:=New.keep (nZ) k2;replace k3:=New.keep (nZ) k3;replace k4:=New.keep (nZ) k4)
        (replace g0:=New.keep (nZ) g0;replace g1:=New.keep (nZ) g1;replace g2:=New.keep (nZ) g2;replace g3:=New.keep (nZ) g3;replace g4:=New.keep (nZ) g4;replace g5:=New.keep (nZ) g5;replace g6:=New.keep (nZ) g6)
        clear c0 c1 c2 c3 c4 c5 c6 c7 c8 c9
        (replace d0:=New.keep (nZ) d0;replace d1:=New.keep (nZ) d1;replace d2:=New.keep (nZ) d2;replace d3:=New.keep (nZ) d3;replace d4:=New.keep (nZ) d4;replace d5:=New.keep (nZ) d5;replace d6:=New.keep (nZ) d6;replace d7:=New.keep (nZ) d7;replace d8:=New.keep (nZ) d8;replace d9:=New.keep (nZ) d9)
        clear hZ
        have hok:=TriR.okAt_succ C ts i hlt
        cases hmay:ts[i+1].may C
        · have HM':=Lib.hid (fun W=>by have q:=hM.out ts[i+1] W;rw[hmay]at q;exact q:∀ W,Calls Tryz.prog 75 #[.agg #[.int .i64 C.cl,.int .i64 C.cb,.int .i64 C.ht,.int .i64 C.ri,.int .i64 C.ru,.int .i64 C.wd,.int .i64 C.dp],.agg #[.int .i64 ts[i+1].i,.int .i64 ts[i+1].x0,.int .i64 ts[i+1].y0,.int .i64 ts[i+1].z0,.int .i64 ts[i+1].x1,.int .i64 ts[i+1].y1,.int .i64 ts[i+1].z1,.int .i64 ts[i+1].x2,.int .i64 ts[i+1].y2,.int .i64 ts[i+1].z2],.agg #[.func (.func 76) #[] #[],.func (.func 77) #[] #[],.int .i64 200,.int .i64 40,.func (.func 78) #[] #[]]] W fun e w'=>e=.returned (.bool false)∧New W w')
          have HNO:Hid (TriR.listB C ts=false):=TriR.listB_no hlt (by rw[TriR.okAt_succ C ts i hlt,hmay];rfl)
          clear hmay hM
          (refine wp_region_hat (by kernel_rfl) (by kernel_rfl) ?_;intro hatc hatf;(repeat(go_big_quiet_step ((first|(go_at_call 75;exact Calls.hat (HM'.out _))|(go_at_call 77;exact Calls.hat (hI.out _ _))))));refine wpQuiet_nil ?_;rintro _ ⟨x,rfl⟩)
          go_wp2_with fail
          go_ret
          exact⟨retBo HNO.out.symm,((hn.trans hnW).trans nZ).hat x⟩
        · have HM':=Lib.hid (fun W=>by have q:=hM.out ts[i+1] W;rw[hmay]at q;exact q:∀ W,Calls Tryz.prog 75 #[.agg #[.int .i64 C.cl,.int .i64 C.cb,.int .i64 C.ht,.int .i64 C.ri,.int .i64 C.ru,.int .i64 C.wd,.int .i64 C.dp],.agg #[.int .i64 ts[i+1].i,.int .i64 ts[i+1].x0,.int .i64 ts[i+1].y0,.int .i64 ts[i+1].z0,.int .i64 ts[i+1].x1,.int .i64 ts[i+1].y1,.int .i64 ts[i+1].z1,.int .i64 ts[i+1].x2,.int .i64 ts[i+1].y2,.int .i64 ts[i+1].z2],.agg #[.func (.func 76) #[] #[],.func (.func 77) #[] #[],.int .i64 200,.int .i64 40,.func (.func 78) #[] #[]]] W fun e w'=>e=.returned (.bool true)∧New W w')
          rw[hmay,Bool.true_and]at hok
          clear hmay hM
          cases hle:decide (ts[i+1].i≤ts[i].i)
          · have HOK:Hid (TriR.okAt C ts (i+1)=true):=by
              show _=true
              rw[hok]
              simp at hle ⊢
              first|done|omega
            clear hok
            (refine wp_region_hat (by kernel_rfl) (by kernel_rfl) ?_;intro hatc hatf;(repeat(go_big_quiet_step ((first|(go_at_call 75;exact Calls.hat (HM'.out _))|(go_at_call 77;exact Calls.hat (hI.out _ _))))));refine wpQuiet_nil ?_;rintro _ ⟨x,rfl⟩)
            go_wp2_with fail
            go_roundg (gk - 1)
            case measure=>omega
            case rel=>exact⟨i+1+1,by go_num,by omega,by rw[HSR.out,List.all_append,HA.out];simp[HOK.out],(hnW.trans nZ).hat x⟩
          · have HNO:Hid (TriR.listB C ts=false):=TriR.listB_no hlt (by rw[hok];simp at hle ⊢;first|done|omega)
            clear hok
            (refine wp_region_hat (by kernel_rfl) (by kernel_rfl) ?_;intro hatc hatf;(repeat(go_big_quiet_step ((first|(go_at_call 75;exact Calls.hat (HM'.out _))|(go_at_call 77;exact Calls.hat (hI.out _ _))))));refine wpQuiet_nil ?_;rintro _ ⟨x,rfl⟩)
            go_wp2_with fail
            go_ret
            exact⟨retBo HNO.out.symm,((hn.trans hnW).trans nZ).hat x⟩
    · go_wp2_with fail
      go_ret
      refine⟨retBo ?_,hn.trans hnW⟩
      have:=HA.out
      rw[show i=ts.length by omega]at this
      unfold TriR.listB
      rw[this]
      simp[hm]
end Go.Proofs.YtmhghnbgllaihaaGreatDoor

namespace Go.Proofs.YtmhghnbgllaihaaGreatDoor
open Go.RowKit
set_option linter.unusedVariables false
def HopR.okAt (C:CfgR) (l:List HopR) (i:Nat):Bool:=(l[i]!).may C&&(i==0||decide ((l[i - 1]!).i<(l[i]!).i))
def HopR.listB (C:CfgR) (l:List HopR):Bool:=decide (l.length≤16)&&(List.range l.length).all (HopR.okAt C l)
theorem HopR.okAt_zero (C:CfgR) (l:List HopR) (h:0<l.length):HopR.okAt C l 0=l[0].may C:=by
  unfold HopR.okAt
  rw[getElem!_pos l 0 h]
  simp
theorem HopR.okAt_succ (C:CfgR) (l:List HopR) (i:Nat) (h:i+1<l.length):HopR.okAt C l (i+1)=(l[i+1].may C&&decide (l[i].i<l[i+1].i)):=by
  unfold HopR.okAt
  rw[getElem!_pos l (i+1) h,Nat.add_sub_cancel,getElem!_pos l i (by omega)]
  simp
theorem HopR.listB_no {C:CfgR} {l:List HopR} {i:Nat} (h:i<l.length) (k:HopR.okAt C l i=false):HopR.listB C l=false:=by
  unfold HopR.listB
  rw[Bool.and_eq_false_iff]
  exact Or.inr (List.all_eq_false.2 ⟨i,List.mem_range.2 h,by rw[k];simp⟩)
set_option maxHeartbeats 4000000 in
set_option maxRecDepth 100000 in
theorem h_listMay (C:CfgR) (hC:C.fine) (S:SoupV) (w:World) (hS:S.ok w) :
    Calls Tryz.prog 57 #[.agg #[.int .i64 C.cl,.int .i64 C.cb,.int .i64 C.ht,.int .i64 C.ri,.int .i64 C.ru,.int .i64 C.wd,.int .i64 C.dp],.agg #[.slice S.a0 S.ts.length S.c0,.slice S.a1 S.bs.length S.c1,.slice S.a2 S.hs.length S.c2],.agg #[.func (.func 91) #[] #[],.func (.func 92) #[] #[],.int .i64 16,.int .i64 2,.func (.func 93) #[] #[]]] w fun e w'=>e=.returned (.bool (HopR.listB C S.hs))∧New w w':=by
  have hL:=Lib.hid (fun b W=>h_list b W)
  have hM:=Lib.hid (fun x W=>h_may C hC x W)
  have hI:=Lib.hid (fun x W=>h_id x W)
  have hR:=hS.h
  obtain⟨ts,bs,hs,a0,a1,a2,c0,c1,c2⟩:=S
  simp only at hR ⊢
  obtain⟨-,hc1,hc2,-,HR⟩:=hR.row
  unfold maxLen at hc2
  clear hR hS hC
  have hlen:hs.length≤9223372036854775807:=by omega
  go_enter Tryz.func57,Tryz.ntmps57
  go_wp2_with fail
  generalize hW:World.alloc _ _=W
  have hn:New w W:=by subst hW;exact nw
  have q2:W.cell? ⟨w.heap.size+1,2,none⟩=some (.slice a2 hs.length c2):=by subst hW;go_simp
  have k0:W.cell? ⟨w.heap.size+1+1,0,none⟩=some (.func (.func 91) #[] #[]):=by subst hW;go_simp
  have k1:W.cell? ⟨w.heap.size+1+1,1,none⟩=some (.func (.func 92) #[] #[]):=by subst hW;go_simp
  have k2:W.cell? ⟨w.heap.size+1+1,2,none⟩=some (.int .i64 16):=by subst hW;go_simp
  have k3:W.cell? ⟨w.heap.size+1+1,3,none⟩=some (.int .i64 2):=by subst hW;go_simp
  have k4:W.cell? ⟨w.heap.size+1+1,4,none⟩=some (.func (.func 93) #[] #[]):=by subst hW;go_simp
  ((have g0:World.cell? (W) ⟨w.heap.size,0,none⟩=some (.int .i64 C.cl):=(by subst hW;go_simp));(have g1:World.cell? (W) ⟨w.heap.size,1,none⟩=some (.int .i64 C.cb):=(by subst hW;go_simp));(have g2:World.cell? (W) ⟨w.heap.size,2,none⟩=some (.int .i64 C.ht):=(by subst hW;go_simp));(have g3:World.cell? (W) ⟨w.heap.size,3,none⟩=some (.int .i64 C.ri):=(by subst hW;go_simp));(have g4:World.cell? (W) ⟨w.heap.size,4,none⟩=some (.int .i64 C.ru):=(by subst hW;go_simp));(have g5:World.cell? (W) ⟨w.heap.size,5,none⟩=some (.int .i64 C.wd):=(by subst hW;go_simp));(have g6:World.cell? (W) ⟨w.heap.size,6,none⟩=some (.int .i64 C.dp):=(by subst hW;go_simp)))
  clear hW
  refine(hL.out _ _).mono ?_
  rintro e w' ⟨rfl,rfl⟩
  clear hL
  by_cases hm:hs.length≤16
  rotate_left
  · have hd:decide ((16:Int)<(hs.length:Int))=true:=by simp;omega
    go_wp2_with fail
    go_ret
    exact⟨retBo (by unfold HopR.listB;simp[hm]),hn⟩
  have hd:decide ((16:Int)<(hs.length:Int))=false:=by simp;omega
  clear hlen hc1 hc2
  have HR':=Lib.hid (HR.keep hn)
  clear HR
  go_wp2_with fail
  clear hd q2
  go_loopg [22] hs.length (fun k s wr=>∃ i:Nat,s=.int .i64 i∧i+k=hs.length∧(List.range i).all (HopR.okAt C hs)=true∧New W wr)
  case atStart=>exact⟨0,by simp,by omega,by simp,New.refl _⟩
  case round =>
    obtain⟨i,rfl,hik,hall,hnW⟩:=hrel
    have HA:=Lib.hid hall
    clear hall
    by_cases hlt:i<hs.length
    · cases i with
      | zero =>
        have hsr:=List.range_succ (n:=0)
        have HSR:=Lib.hid hsr
        clear hsr
        obtain⟨b,off,rfl,hA⟩:=HR'.out (by omega)
        have hA':=hA.keep hnW
        obtain⟨c0,c1,c2,c3,c4,c5,c6,c7,c8,c9⟩:=HopR.cells hA' (0) hlt
        simp only[Nat.zero_mul,Nat.add_zero]at c0 c1 c2 c3 c4 c5 c6 c7 c8 c9
        (replace k0:=New.keep (hnW) k0;replace k1:=New.keep (hnW) k1;replace k2:=New.keep (hnW) k2;replace k3:=New.keep (hnW) k3;replace k4:=New.keep (hnW) k4)
        (replace g0:=New.keep (hnW) g0;replace g1:=New.keep (hnW) g1;replace g2:=New.keep (hnW) g2;replace g3:=New.keep (hnW) g3;replace g4:=New.keep (hnW) g4;replace g5:=New.keep (hnW) g5;replace g6:=New.keep (hnW) g6)
        clear hA hA'
        go_upto_region 7 with fail
        generalize hZ:World.alloc _ _=Z
        have nZ:New wr Z:=by subst hZ;exact nw
        ((have z0:World.cell? (Z) ⟨wr.heap.size,0,none⟩=some (.int .i64 hs[0].i):=(by subst hZ;go_simp));(have z1:World.cell? (Z) ⟨wr.heap.size,1,none⟩=some (.int .i64 hs[0].fx):=(by subst hZ;go_simp));(have z2:World.cell? (Z) ⟨wr.heap.size,2,none⟩=some (.int .i64 hs[0].fz):=(by subst hZ;go_simp));(have z3:World.cell? (Z) ⟨wr.heap.size,3,none⟩=some (.int .i64 hs[0].fy):=(by subst hZ;go_simp));(have z4:World.cell? (Z) ⟨wr.heap.size,4,none⟩=some (.int .i64 hs[0].tx):=(by subst hZ;go_simp));(have z5:World.cell? (Z) ⟨wr.heap.size,5,none⟩=some (.int .i64 hs[0].tz):=(by subst hZ;go_simp));(have z6:World.cell? (Z) ⟨wr.heap.size,6,none⟩=some (.int .i64 hs[0].ty):=(by subst hZ;go_simp));(have z7:World.cell? (Z) ⟨wr.heap.size,7,none⟩=some (.bool hs[0].bo):=(by subst hZ;go_simp));(have z8:World.cell? (Z) ⟨wr.heap.size,8,none⟩=some (.int .i64 hs[0].ar):=(by subst hZ;go_simp));(have z9:World.cell? (Z) ⟨wr.heap.size,9,none⟩=some (.int .i64 hs[0].co):=(by subst hZ;go_simp)))
        (replace k0:=New.keep (nZ) k0;replace k1:=New.keep (nZ) k1;replace k2:=New.keep (nZ) k2;replace k3:=New.keep (nZ) k3;replace k4:=New.keep (nZ) k4)
        (replace g0:=New.keep (nZ) g0;replace g1:=New.keep (nZ) g1;replace g2:=New.keep (nZ) g2;replace g3:=New.keep (nZ) g3;replace g4:=New.keep (nZ) g4;replace g5:=New.keep (nZ) g5;replace g6:=New.keep (nZ) g6)
        clear c0 c1 c2 c3 c4 c5 c6 c7 c8 c9
        clear hZ
        have hok:=HopR.okAt_zero C hs hlt
        cases hmay:hs[0].may C
        · have HM':=Lib.hid (fun W=>by have q:=hM.out hs[0] W;rw[hmay]at q;exact q:∀ W,Calls Tryz.prog 90 #[.agg #[.int .i64 C.cl,.int .i64 C.cb,.int .i64 C.ht,.int .i64 C.ri,.int .i64 C.ru,.int .i64 C.wd,.int .i64 C.dp],.agg #[.int .i64 hs[0].i,.int .i64 hs[0].fx,.int .i64 hs[0].fz,.int .i64 hs[0].fy,.int .i64 hs[0].tx,.int .i64 hs[0].tz,.int .i64 hs[0].ty,.bool hs[0].bo,.int .i64 hs[0].ar,.int .i64 hs[0].co],.agg #[.func (.func 91) #[] #[],.func (.func 92) #[] #[],.int .i64 16,.int .i64 2,.func (.func 93) #[] #[]]] W fun e w'=>e=.returned (.bool false)∧New W w')
          have HNO:Hid (HopR.listB C hs=false):=HopR.listB_no hlt (by rw[HopR.okAt_zero C hs hlt,hmay])
          clear hmay hM
          (refine wp_region_hat (by kernel_rfl) (by kernel_rfl) ?_;intro hatc hatf;(repeat(go_big_quiet_step ((first|(go_at_call 90;exact Calls.hat (HM'.out _))|(go_at_call 92;exact Calls.hat (hI.out _ _))))));refine wpQuiet_nil ?_;rintro _ ⟨x,rfl⟩)
          go_wp2_with fail
          go_ret
          exact⟨retBo HNO.out.symm,((hn.trans hnW).trans nZ).hat x⟩
        · have HM':=Lib.hid (fun W=>by have q:=hM.out hs[0] W;rw[hmay]at q;exact q:∀ W,Calls Tryz.prog 90 #[.agg #[.int .i64 C.cl,.int .i64 C.cb,.int .i64 C.ht,.int .i64 C.ri,.int .i64 C.ru,.int .i64 C.wd,.int .i64 C.dp],.agg #[.int .i64 hs[0].i,.int .i64 hs[0].fx,.int .i64 hs[0].fz,.int .i64 hs[0].fy,.int .i64 hs[0].tx,.int .i64 hs[0].tz,.int .i64 hs[0].ty,.bool hs[0].bo,.int .i64 hs[0].ar,.int .i64 hs[0].co],.agg #[.func (.func 91) #[] #[],.func (.func 92) #[] #[],.int .i64 16,.int .i64 2,.func (.func 93) #[] #[]]] W fun e w'=>e=.returned (.bool true)∧New W w')
          have HOK:=Lib.hid (hok.trans hmay)
          clear hok hmay hM
          (refine wp_region_hat (by kernel_rfl) (by kernel_rfl) ?_;intro hatc hatf;(repeat(go_big_quiet_step ((first|(go_at_call 90;exact Calls.hat (HM'.out _))|(go_at_call 92;exact Calls.hat (hI.out _ _))))));refine wpQuiet_nil ?_;rintro _ ⟨x,rfl⟩)
          go_wp2_with fail
          go_roundg (gk - 1)
          case measure=>omega
          case rel=>exact⟨1,by go_num,by omega,by rw[HSR.out,List.all_append,HA.out];simp[HOK.out],(hnW.trans nZ).hat x⟩
      | succ i =>
        have hsr:=List.range_succ (n:=i+1)
        have HSR:=Lib.hid hsr
        clear hsr
        obtain⟨b,off,rfl,hA⟩:=HR'.out (by omega)
        have hA':=hA.keep hnW
        obtain⟨c0,c1,c2,c3,c4,c5,c6,c7,c8,c9⟩:=HopR.cells hA' (i+1) hlt
        (replace k0:=New.keep (hnW) k0;replace k1:=New.keep (hnW) k1;replace k2:=New.keep (hnW) k2;replace k3:=New.keep (hnW) k3;replace k4:=New.keep (hnW) k4)
        (replace g0:=New.keep (hnW) g0;replace g1:=New.keep (hnW) g1;replace g2:=New.keep (hnW) g2;replace g3:=New.keep (hnW) g3;replace g4:=New.keep (hnW) g4;replace g5:=New.keep (hnW) g5;replace g6:=New.keep (hnW) g6)
        obtain⟨d0,d1,d2,d3,d4,d5,d6,d7,d8,d9⟩:=HopR.cells hA' i (by omega)
        clear hA hA'
        go_upto_region 7 with fail
        generalize hZ:World.alloc _ _=Z
        have nZ:New wr Z:=by subst hZ;exact nw
        ((have z0:World.cell? (Z) ⟨wr.heap.size,0,none⟩=some (.int .i64 hs[i+1].i):=(by subst hZ;go_simp));(have z1:World.cell? (Z) ⟨wr.heap.size,1,none⟩=some (.int .i64 hs[i+1].fx):=(by subst hZ;go_simp));(have z2:World.cell? (Z) ⟨wr.heap.size,2,none⟩=some (.int .i64 hs[i+1].fz):=(by subst hZ;go_simp));(have z3:World.cell? (Z) ⟨wr.heap.size,3,none⟩=some (.int .i64 hs[i+1].fy):=(by subst hZ;go_simp));(have z4:World.cell? (Z) ⟨wr.heap.size,4,none⟩=some (.int .i64 hs[i+1].tx):=(by subst hZ;go_simp));(have z5:World.cell? (Z) ⟨wr.heap.size,5,none⟩=some (.int .i64 hs[i+1].tz):=(by subst hZ;go_simp));(have z6:World.cell? (Z) ⟨wr.heap.size,6,none⟩=some (.int .i64 hs[i+1].ty):=(by subst hZ;go_simp));(have z7:World.cell? (Z) ⟨wr.heap.size,7,none⟩=some (.bool hs[i+1].bo):=(by subst hZ;go_simp));(have z8:World.cell? (Z) ⟨wr.heap.size,8,none⟩=some (.int .i64 hs[i+1].ar):=(by subst hZ;go_simp));(have z9:World.cell? (Z) ⟨wr.heap.size,9,none⟩=some (.int .i64 hs[i+1].co):=(by subst hZ;go_simp)))
        (replace k0:=New.keep (nZ) k0;replace k1:=New.keep (nZ) k1;replace k2:=New.keep (nZ) k2;replace k3:=New.keep (nZ) k3;replace k4:=New.keep (nZ) k4)
        (replace g0:=New.keep (nZ) g0;replace g1:=New.keep (nZ) g1;replace g2:=New.keep (nZ) g2;replace g3:=New.keep (nZ) g3;replace g4:=New.keep (nZ) g4;replace g5:=New.keep (nZ) g5;replace g6:=New.keep (nZ) g6)
        clear c0 c1 c2 c3 c4 c5 c6 c7 c8 c9
        (replace d0:=New.keep (nZ) d0;replace d1:=New.keep (nZ) d1;replace d2:=New.keep (nZ) d2;replace d3:=New.keep (nZ) d3;replace d4:=New.keep (nZ) d4;replace d5:=New.keep (nZ) d5;replace d6:=New.keep (nZ) d6;replace d7:=New.keep (nZ) d7;replace d8:=New.keep (nZ) d8;replace d9:=New.keep (nZ) d9)
        clear hZ
        have hok:=HopR.okAt_succ C hs i hlt
        cases hmay:hs[i+1].may C
        · have HM':=Lib.hid (fun W=>by have q:=hM.out hs[i+1] W;rw[hmay]at q;exact q:∀ W,Calls Tryz.prog 90 #[.agg #[.int .i64 C.cl,.int .i64 C.cb,.int .i64 C.ht,.int .i64 C.ri,.int .i64 C.ru,.int .i64 C.wd,.int .i64 C.dp],.agg #[.int .i64 hs[i+1].i,.int .i64 hs[i+1].fx,.int .i64 hs[i+1].fz,.int .i64 hs[i+1].fy,.int .i64 hs[i+1].tx,.int .i64 hs[i+1].tz,.int .i64 hs[i+1].ty,.bool hs[i+1].bo,.int .i64 hs[i+1].ar,.int .i64 hs[i+1].co],.agg #[.func (.func 91) #[] #[],.func (.func 92) #[] #[],.int .i64 16,.int .i64 2,.func (.func 93) #[] #[]]] W fun e w'=>e=.returned (.bool false)∧New W w')
          have HNO:Hid (HopR.listB C hs=false):=HopR.listB_no hlt (by rw[HopR.okAt_succ C hs i hlt,hmay];rfl)
          clear hmay hM
          (refine wp_region_hat (by kernel_rfl) (by kernel_rfl) ?_;intro hatc hatf;(repeat(go_big_quiet_step ((first|(go_at_call 90;exact Calls.hat (HM'.out _))|(go_at_call 92;exact Calls.hat (hI.out _ _))))));refine wpQuiet_nil ?_;rintro _ ⟨x,rfl⟩)
          go_wp2_with fail
          go_ret
          exact⟨retBo HNO.out.symm,((hn.trans hnW).trans nZ).hat x⟩
        · have HM':=Lib.hid (fun W=>by have q:=hM.out hs[i+1] W;rw[hmay]at q;exact q:∀ W,Calls Tryz.prog 90 #[.agg #[.int .i64 C.cl,.int .i64 C.cb,.int .i64 C.ht,.int .i64 C.ri,.int .i64 C.ru,.int .i64 C.wd,.int .i64 C.dp],.agg #[.int .i64 hs[i+1].i,.int .i64 hs[i+1].fx,.int .i64 hs[i+1].fz,.int .i64 hs[i+1].fy,.int .i64 hs[i+1].tx,.int .i64 hs[i+1].tz,.int .i64 hs[i+1].ty,.bool hs[i+1].bo,.int .i64 hs[i+1].ar,.int .i64 hs[i+1].co],.agg #[.func (.func 91) #[] #[],.func (.func 92) #[] #[],.int .i64 16,.int .i64 2,.func (.func 93) #[] #[]]] W fun e w'=>e=.returned (.bool true)∧New W w')
          rw[hmay,Bool.true_and]at hok
          clear hmay hM
          cases hle:decide (hs[i+1].i≤hs[i].i)
          · have HOK:Hid (HopR.okAt C hs (i+1)=true):=by
              show _=true
              rw[hok]
              simp at hle ⊢
              first|done|omega
            clear hok
            (refine wp_region_hat (by kernel_rfl) (by kernel_rfl) ?_;intro hatc hatf;(repeat(go_big_quiet_step ((first|(go_at_call 90;exact Calls.hat (HM'.out _))|(go_at_call 92;exact Calls.hat (hI.out _ _))))));refine wpQuiet_nil ?_;rintro _ ⟨x,rfl⟩)
            go_wp2_with fail
            go_roundg (gk - 1)
            case measure=>omega
            case rel=>exact⟨i+1+1,by go_num,by omega,by rw[HSR.out,List.all_append,HA.out];simp[HOK.out],(hnW.trans nZ).hat x⟩
          · have HNO:Hid (HopR.listB C hs=false):=HopR.listB_no hlt (by rw[hok];simp at hle ⊢;first|done|omega)
            clear hok
            (refine wp_region_hat (by kernel_rfl) (by kernel_rfl) ?_;intro hatc hatf;(repeat(go_big_quiet_step ((first|(go_at_call 90;exact Calls.hat (HM'.out _))|(go_at_call 92;exact Calls.hat (hI.out _ _))))));refine wpQuiet_nil ?_;rintro _ ⟨x,rfl⟩)
            go_wp2_with fail
            go_ret
            exact⟨retBo HNO.out.symm,((hn.trans hnW).trans nZ).hat x⟩
    · go_wp2_with fail
      go_ret
      refine⟨retBo ?_,hn.trans hnW⟩
      have:=HA.out
      rw[show i=hs.length by omega]at this
      unfold HopR.listB
      rw[this]
      simp[hm]
end Go.Proofs.YtmhghnbgllaihaaGreatDoor

namespace Go.Proofs.YtmhghnbgllaihaaGreatDoor
open Go.RowKit
set_option linter.unusedVariables false
theorem run_store_fn {P:Program} {a:Addr} {f:_root_.Go.Fn} {x y:Array Value} {m:Mode} {w:World}:(store a (.func f x y) m).run P w=stored P w a (.func f x y) m:=run_store P w a _ m rfl
attribute [local go_sem] run_store_fn
set_option maxHeartbeats 400000 in
theorem t_kind (w:World):Calls Tryz.prog 52 #[] w fun e w'=>e=.returned (.agg #[.func (.func 76) #[] #[],.func (.func 77) #[] #[],.int .i64 200,.int .i64 40,.func (.func 78) #[] #[]])∧New w w':=by
  go_enter Tryz.func52,Tryz.ntmps52
  go_wp2_with fail
  refine bodyPost_ret (v:=.agg #[.func (.func 76) #[] #[],.func (.func 77) #[] #[],.int .i64 200,.int .i64 40,.func (.func 78) #[] #[]]) (by simp[results,Tryz.results52,go_sem]) rfl ⟨rfl,by exact nw⟩
set_option maxHeartbeats 1000000 in
theorem t_checked (C:CfgR) (hC:C.fine) (S:SoupV) (Bc Bs:Nat) (w:World) (hS:S.ok w) (hc:CellsAt w Bc 0 C.enc)
    (q0:w.cell? ⟨Bs,0,none⟩=some (.slice S.a0 S.ts.length S.c0)) (q1:w.cell? ⟨Bs,1,none⟩=some (.slice S.a1 S.bs.length S.c1)) (q2:w.cell? ⟨Bs,2,none⟩=some (.slice S.a2 S.hs.length S.c2)) :
    Calls Tryz.prog 50 #[.pointer (some ⟨Bc,0,none⟩),.pointer (some ⟨Bs,0,none⟩)] w fun e w'=>e=.returned (.bool (TriR.listB C S.ts))∧New w w':=by
  have HK:=Lib.hid (fun W=>t_kind W)
  have HL:=Lib.hid (fun W (n:New w W)=>t_listMay C hC S W (hS.keep n))
  obtain⟨c0,c1,c2,c3,c4,c5,c6⟩:=CfgR.at hc
  clear hc hS
  generalize TriR.listB C S.ts=v at *
  go_enter Tryz.func50,Tryz.ntmps50
  go_wp2_with fail
  (refine wp_region_hat (by kernel_rfl) (by kernel_rfl) ?_;intro hatc hatf;(repeat(go_big_quiet_step ((first|(go_at_call 52;exact Calls.hat (HK.out _))|(go_at_call 51;exact Calls.hat (HL.out _ (Hat.h _)))))));refine wpQuiet_nil ?_;rintro _ ⟨x,rfl⟩)
  go_wp2_with fail
  go_ret
  exact⟨rfl,x.h⟩
set_option maxHeartbeats 400000 in
theorem b_kind (w:World):Calls Tryz.prog 55 #[] w fun e w'=>e=.returned (.agg #[.func (.func 82) #[] #[],.func (.func 83) #[] #[],.int .i64 16,.int .i64 2,.func (.func 84) #[] #[]])∧New w w':=by
  go_enter Tryz.func55,Tryz.ntmps55
  go_wp2_with fail
  refine bodyPost_ret (v:=.agg #[.func (.func 82) #[] #[],.func (.func 83) #[] #[],.int .i64 16,.int .i64 2,.func (.func 84) #[] #[]]) (by simp[results,Tryz.results55,go_sem]) rfl ⟨rfl,by exact nw⟩
set_option maxHeartbeats 1000000 in
theorem b_checked (C:CfgR) (hC:C.fine) (S:SoupV) (Bc Bs:Nat) (w:World) (hS:S.ok w) (hc:CellsAt w Bc 0 C.enc)
    (q0:w.cell? ⟨Bs,0,none⟩=some (.slice S.a0 S.ts.length S.c0)) (q1:w.cell? ⟨Bs,1,none⟩=some (.slice S.a1 S.bs.length S.c1)) (q2:w.cell? ⟨Bs,2,none⟩=some (.slice S.a2 S.hs.length S.c2)) :
    Calls Tryz.prog 53 #[.pointer (some ⟨Bc,0,none⟩),.pointer (some ⟨Bs,0,none⟩)] w fun e w'=>e=.returned (.bool (BoxR.listB C S.bs))∧New w w':=by
  have HK:=Lib.hid (fun W=>b_kind W)
  have HL:=Lib.hid (fun W (n:New w W)=>b_listMay C hC S W (hS.keep n))
  obtain⟨c0,c1,c2,c3,c4,c5,c6⟩:=CfgR.at hc
  clear hc hS
  generalize BoxR.listB C S.bs=v at *
  go_enter Tryz.func53,Tryz.ntmps53
  go_wp2_with fail
  (refine wp_region_hat (by kernel_rfl) (by kernel_rfl) ?_;intro hatc hatf;(repeat(go_big_quiet_step ((first|(go_at_call 55;exact Calls.hat (HK.out _))|(go_at_call 54;exact Calls.hat (HL.out _ (Hat.h _)))))));refine wpQuiet_nil ?_;rintro _ ⟨x,rfl⟩)
  go_wp2_with fail
  go_ret
  exact⟨rfl,x.h⟩
set_option maxHeartbeats 400000 in
theorem h_kind (w:World):Calls Tryz.prog 58 #[] w fun e w'=>e=.returned (.agg #[.func (.func 91) #[] #[],.func (.func 92) #[] #[],.int .i64 16,.int .i64 2,.func (.func 93) #[] #[]])∧New w w':=by
  go_enter Tryz.func58,Tryz.ntmps58
  go_wp2_with fail
  refine bodyPost_ret (v:=.agg #[.func (.func 91) #[] #[],.func (.func 92) #[] #[],.int .i64 16,.int .i64 2,.func (.func 93) #[] #[]]) (by simp[results,Tryz.results58,go_sem]) rfl ⟨rfl,by exact nw⟩
set_option maxHeartbeats 1000000 in
theorem h_checked (C:CfgR) (hC:C.fine) (S:SoupV) (Bc Bs:Nat) (w:World) (hS:S.ok w) (hc:CellsAt w Bc 0 C.enc)
    (q0:w.cell? ⟨Bs,0,none⟩=some (.slice S.a0 S.ts.length S.c0)) (q1:w.cell? ⟨Bs,1,none⟩=some (.slice S.a1 S.bs.length S.c1)) (q2:w.cell? ⟨Bs,2,none⟩=some (.slice S.a2 S.hs.length S.c2)) :
    Calls Tryz.prog 56 #[.pointer (some ⟨Bc,0,none⟩),.pointer (some ⟨Bs,0,none⟩)] w fun e w'=>e=.returned (.bool (HopR.listB C S.hs))∧New w w':=by
  have HK:=Lib.hid (fun W=>h_kind W)
  have HL:=Lib.hid (fun W (n:New w W)=>h_listMay C hC S W (hS.keep n))
  obtain⟨c0,c1,c2,c3,c4,c5,c6⟩:=CfgR.at hc
  clear hc hS
  generalize HopR.listB C S.hs=v at *
  go_enter Tryz.func56,Tryz.ntmps56
  go_wp2_with fail
  (refine wp_region_hat (by kernel_rfl) (by kernel_rfl) ?_;intro hatc hatf;(repeat(go_big_quiet_step ((first|(go_at_call 58;exact Calls.hat (HK.out _))|(go_at_call 57;exact Calls.hat (HL.out _ (Hat.h _)))))));refine wpQuiet_nil ?_;rintro _ ⟨x,rfl⟩)
  go_wp2_with fail
  go_ret
  exact⟨rfl,x.h⟩
def SoupV.err (S:SoupV) (C:CfgR):Int:=if C.err≠0 then 20 else if TriR.listB C S.ts=true∧BoxR.listB C S.bs=true∧HopR.listB C S.hs=true then 0 else 2
theorem Fn.three {f g h:Fn} {P:Fn→Prop} (h0:P f) (h1:P g) (h2:P h):∀ j (hj:j<[f,g,h].length),P [f,g,h][j]
  | 0,_=>h0
  | 1,_=>h1
  | 2,_=>h2
  | _+3,hj=>absurd hj (by simp)
set_option maxHeartbeats 2000000 in
set_option maxRecDepth 100000 in
theorem s_check (C:CfgR) (S:SoupV) (w:World) (hS:S.ok w) :
    Calls Tryz.prog 34 #[.agg #[.int .i64 C.cl,.int .i64 C.cb,.int .i64 C.ht,.int .i64 C.ri,.int .i64 C.ru,.int .i64 C.wd,.int .i64 C.dp],.agg #[.slice S.a0 S.ts.length S.c0,.slice S.a1 S.bs.length S.c1,.slice S.a2 S.hs.length S.c2]] w fun e w'=>e=.returned (.int .i64 (S.err C))∧New w w':=by
  have HC:=Lib.hid (fun W=>check_any C.cl C.cb C.ht C.ri C.ru C.wd C.dp W)
  obtain⟨v,hv⟩:∃ v,v=S.err C:=⟨_,rfl⟩
  rw[←hv]
  unfold SoupV.err CfgR.err at hv
  obtain⟨ce,hce⟩:∃ ce,ce=checkE C.cl C.cb C.ht C.ri C.ru C.wd C.dp:=⟨_,rfl⟩
  rw[←hce]at hv HC
  have htwo:=checkE_two C.cl C.cb C.ht C.ri C.ru C.wd C.dp
  rw[←hce]at htwo
  rcases htwo with h0|h0
  rotate_left
  · rw[h0]at hv HC
    have HV:Hid (v=20):=by show v=20;rw[hv];simp
    clear hv hce h0
    go_enter Tryz.func34,Tryz.ntmps34
    go_wp2_with fail
    generalize hW:World.alloc _ _=W
    have hn:New w W:=by subst hW;exact nw
    clear hW
    refine(HC.out _).mono ?_
    rintro e W1 ⟨rfl,n1,-⟩
    go_wp2_with fail
    go_ret
    rw[HV.out]
    exact⟨rfl,hn.trans n1⟩
  · have hC:C.fine:=CfgR.fine_of (hce.symm.trans h0)
    rw[h0]at hv HC
    clear hce h0
    have HT:=Lib.hid (fun W=>t_checked C hC S w.heap.size (w.heap.size+1) W)
    have HB:=Lib.hid (fun W=>b_checked C hC S w.heap.size (w.heap.size+1) W)
    have HH:=Lib.hid (fun W=>h_checked C hC S w.heap.size (w.heap.size+1) W)
    clear hC
    obtain⟨vt,hvt⟩:∃ v,v=TriR.listB C S.ts:=⟨_,rfl⟩
    obtain⟨vb,hvb⟩:∃ v,v=BoxR.listB C S.bs:=⟨_,rfl⟩
    obtain⟨vh,hvh⟩:∃ v,v=HopR.listB C S.hs:=⟨_,rfl⟩
    rw[←hvt,←hvb,←hvh]at hv
    rw[←hvt]at HT
    rw[←hvb]at HB
    rw[←hvh]at HH
    have HV:=Lib.hid hv
    clear hvt hvb hvh hv
    have HS:=Lib.hid hS
    clear hS
    go_enter Tryz.func34,Tryz.ntmps34
    go_wp2_with fail
    obtain⟨W,hW⟩:∃ W,W=(w.alloc (.cells C.enc.toArray 23)).alloc (.cells #[.slice S.a0 S.ts.length S.c0,.slice S.a1 S.bs.length S.c1,.slice S.a2 S.hs.length S.c2] 28):=⟨_,rfl⟩
    have hn:New w W:=by subst hW;exact nw
    have k0:CellsAt W w.heap.size 0 C.enc:=by subst hW;exact(cells_new w C.enc.toArray _).keep ((New.refl _).alloc _)
    have q0:W.cell? ⟨w.heap.size+1,0,none⟩=some (.slice S.a0 S.ts.length S.c0):=by subst hW;go_simp
    have q1:W.cell? ⟨w.heap.size+1,1,none⟩=some (.slice S.a1 S.bs.length S.c1):=by subst hW;go_simp
    have q2:W.cell? ⟨w.heap.size+1,2,none⟩=some (.slice S.a2 S.hs.length S.c2):=by subst hW;go_simp
    simp only[CfgR.enc]at hW
    rw[←hW]
    clear hW
    refine(HC.out _).mono ?_
    rintro e W1 ⟨rfl,n1',-⟩
    have n1:New W W1:=n1'
    clear n1'
    replace hn:=hn.trans n1
    have K0:=Lib.hid (k0.keep n1)
    replace q0:=n1.keep q0
    replace q1:=n1.keep q1
    replace q2:=n1.keep q2
    have Q0:=Lib.hid q0
    have Q1:=Lib.hid q1
    have Q2:=Lib.hid q2
    clear n1 k0 q0 q1 q2 HC
    go_wp2_with fail
    generalize hZ:World.alloc _ _=Z
    have nZ:New W1 Z:=by subst hZ;exact nw
    have hat:FnAt Z W1.heap.size [⟨50,#[.pointer (some ⟨w.heap.size,0,none⟩),.pointer (some ⟨w.heap.size+1,0,none⟩)],vt⟩,⟨53,#[.pointer (some ⟨w.heap.size,0,none⟩),.pointer (some ⟨w.heap.size+1,0,none⟩)],vb⟩,⟨56,#[.pointer (some ⟨w.heap.size,0,none⟩),.pointer (some ⟨w.heap.size+1,0,none⟩)],vh⟩]:=by
      subst hZ
      exact fns_at _ _ _ _ rfl
    clear hZ
    have HA:=Lib.hid (l_all Z W1.heap.size 3 _ (by simp) (Fn.three
      ⟨enters_of Tryz.func50 (by kernel_rfl) rfl,fun V hV=>HT.out V (HS.out.keep ((hn.trans nZ).trans hV)) ((K0.out.keep nZ).keep hV) (hV.keep (nZ.keep Q0.out)) (hV.keep (nZ.keep Q1.out)) (hV.keep (nZ.keep Q2.out))⟩
      ⟨enters_of Tryz.func53 (by kernel_rfl) rfl,fun V hV=>HB.out V (HS.out.keep ((hn.trans nZ).trans hV)) ((K0.out.keep nZ).keep hV) (hV.keep (nZ.keep Q0.out)) (hV.keep (nZ.keep Q1.out)) (hV.keep (nZ.keep Q2.out))⟩
      ⟨enters_of Tryz.func56 (by kernel_rfl) rfl,fun V hV=>HH.out V (HS.out.keep ((hn.trans nZ).trans hV)) ((K0.out.keep nZ).keep hV) (hV.keep (nZ.keep Q0.out)) (hV.keep (nZ.keep Q1.out)) (hV.keep (nZ.keep Q2.out))⟩) Z (New.refl _) hat)
    replace hn:=hn.trans nZ
    simp only[List.all_cons,List.all_nil,Bool.and_true]at HA
    obtain⟨b,hb⟩:∃ b,b=(vt&&(vb&&vh)):=⟨_,rfl⟩
    rw[←hb]at HA
    have HVb:Hid (v=if b=true then 0 else 2):=by
      show v=_
      rw[HV.out,hb]
      simp[Bool.and_eq_true]
    clear hat nZ K0 Q0 Q1 Q2 HT HB HH HV HS hb
    refine(HA.out).mono ?_
    rintro e W2 ⟨rfl,n1⟩
    replace hn:=hn.trans n1
    cases b
    · have HV:Hid (v=2):=HVb.out
      go_wp2_with fail
      go_ret
      rw[HV.out]
      exact⟨rfl,hn⟩
    · have HV:Hid (v=0):=HVb.out
      go_wp2_with fail
      go_ret
      rw[HV.out]
      exact⟨rfl,hn⟩
end Go.Proofs.YtmhghnbgllaihaaGreatDoor
