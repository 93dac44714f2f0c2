import Derived.Test.YtmhghnbgllaihaaGreatDoorRaEP2Z2
import Derived.Test.YtmhghnbgllaihaaGreatDoorLooseEP2Z2
import Derived.Deep.DeepCutAuto
import Derived.Test.YtmhghnbgllaihaaGreatDoorWholeMP2Z2
import Derived.OrdersIn
import Derived.TacticsIn
import Derived.TacticsInMore
set_option linter.unusedVariables false
set_option maxHeartbeats 16000000
set_option maxRecDepth 100000

namespace Go.Proofs.YtmhghnbgllaihaaGreatDoor
open Go.RowKit
theorem og_stands (G:Gd) (hE:gE G=0) (w:World) (h:G.ok w):Calls Tryz.prog 173 #[.agg #[.int .i64 G.x,.int .i64 G.z,.int .i64 G.w,.int .i64 G.d,.slice G.ga G.L.length G.gc]] w fun e w'=>∃ v base,e=.returned v∧w.heap.size≤base∧w'.ownsRow base 247 6 v (allG G).length ((allG G).flatMap St.enc)∧New w w':=by
 obtain⟨i0,hi,hz0,hz1,hz2⟩:=info_parts st_info
 have hb:=placeB_iff.1 (gd_is hE).1
 have HE:=Lib.hid hE
 have HLN:=Lib.hid (gd_is hE).2.1
 have hlen:G.L.length≤4096:=by
  have:=mul_64 hb.2.2.1.1 hb.2.2.1.2 hb.2.2.2.1 hb.2.2.2.2
  have:=(gd_is hE).2.1
  omega
 have KA:=Lib.hid (fun x z W n=>og_at0 G hE x z w W (n:New w W) h)
 obtain⟨n,hn⟩:∃ n,n=G.L.length:=⟨_,rfl⟩
 rw[←hn]at KA hlen ⊢
 have HN:=Lib.hid hn
 clear hn h hE
 obtain⟨wN,hwN⟩:∃ q,q=G.w.toNat:=⟨_,rfl⟩
 obtain⟨dN,hdN⟩:∃ q,q=G.d.toNat:=⟨_,rfl⟩
 have HW:=Lib.hid hwN
 have HD:=Lib.hid hdN
 have hwi:G.w=wN:=by omega
 have hdi:G.d=dN:=by omega
 rw[hwi,hdi]at KA ⊢
 have hxw:IntKind.i64.wrap (G.x+wN)=G.x+wN:=IntWalk.i64_in _ (by omega)
 have hzd:IntKind.i64.wrap (G.z+dN)=G.z+dN:=IntWalk.i64_in _ (by omega)
 have HB:=Lib.hid hb
 have hw64:wN≤64:=by omega
 have hd64:dN≤64:=by omega
 have hx64 : -64≤G.x∧G.x≤64:=by omega
 have hz64 : -64≤G.z∧G.z≤64:=by omega
 have hwd:n=dN*wN:=by
  have h1:=HLN.out
  rw[hwi,hdi,←HN.out]at h1
  have h2:(n:Int)=((wN*dN:Nat):Int):=by rw[h1];push_cast;rfl
  rw[Nat.mul_comm]
  exact Int.ofNat.inj h2
 have HWD:=Lib.hid hwd
 have HWI:=Lib.hid (And.intro hwi hdi)
 clear hwN hdN hwi hdi hb hwd
 go_enter Tryz.func173,Tryz.ntmps173
 go_wp2_with fail
 generalize hW:World.alloc _ _=W0
 have n0:New w W0:=by subst hW;exact nw
 have g0:W0.cell? ⟨w.heap.size,0,none⟩=some (.int .i64 G.x):=by subst hW;go_simp
 have g1:W0.cell? ⟨w.heap.size,1,none⟩=some (.int .i64 G.z):=by subst hW;go_simp
 have g2:W0.cell? ⟨w.heap.size,2,none⟩=some (.int .i64 wN):=by subst hW;go_simp
 have g3:W0.cell? ⟨w.heap.size,3,none⟩=some (.int .i64 dN):=by subst hW;go_simp
 have g4:W0.cell? ⟨w.heap.size,4,none⟩=some (.slice G.ga n G.gc):=by subst hW;go_simp
 clear hW
 obtain⟨base,hbase⟩:∃ q,q=W0.heap.size:=⟨_,rfl⟩
 have HBS:=Lib.hid hbase
 have hbw:w.heap.size≤base:=by rw[hbase];exact n0.size
 have N0:=Lib.hid n0
 have HG:=Lib.hid (fun W (q:New W0 W)=>And.intro (q.keep g0) (And.intro (q.keep g1) (And.intro (q.keep g2) (And.intro (q.keep g3) (q.keep g4)))))
 clear hbase n0
 go_loopg [4,3] dN (fun gk s4 s3 wr=>∃ (zz:Nat) (ra:Option Addr) (rn rc:Nat),s4=.int .i64 (G.z+zz)∧s3=.slice ra rn rc∧zz≤dN∧dN - zz≤gk∧Hid (wr.ownsRow base 247 6 (.slice ra rn rc) (stTo G (zz*wN)).length ((stTo G (zz*wN)).flatMap St.enc))∧Hid (New W0 wr))
 case atStart=>exact⟨0,none,0,0,by simp,rfl,by omega,by omega,Lib.hid (by rw[Nat.zero_mul];exact World.ownsRow_nil _ _ _ _),Lib.hid (New.refl _)⟩
 case round =>
  obtain⟨zz,ra,rn,rc,rfl,rfl,hzz,hgk,hown,hnr⟩:=hrel
  clear g0 g1 g2 g3 g4
  obtain⟨g0,g1,g2,g3,g4⟩:=HG.out _ hnr.out
  by_cases hlt:zz<dN
  ·have hle:decide (G.z+(zz:Int)<G.z+dN)=true:=decide_eq_true (by omega)
   have hzw:IntKind.i64.wrap (G.z+zz+1)=G.z+((zz+1:Nat):Int):=by rw[IntWalk.i64_in _ (by omega)];omega
   have HGK:=Lib.hid hgk
   clear hgk
   rename World=>wA
   go_wp2_with fail
   go_loopg [5,3] wN (fun gk s5 s3 wr=>∃ (xx:Nat) (ra:Option Addr) (rn rc:Nat),s5=.int .i64 (G.x+xx)∧s3=.slice ra rn rc∧xx≤wN∧wN - xx≤gk∧Hid (wr.ownsRow base 247 6 (.slice ra rn rc) (stTo G (zz*wN+xx)).length ((stTo G (zz*wN+xx)).flatMap St.enc))∧Hid (New W0 wr))
   case atStart=>exact⟨0,ra,rn,rc,by simp,rfl,by omega,by omega,hown,hnr⟩
   case round =>
    clear hown g0 g1 g2 g3 g4 hnr
    obtain⟨xx,ra,rn,rc,rfl,rfl,hxx,hgk,hown,hnr⟩:=hrel
    obtain⟨g0,g1,g2,g3,g4⟩:=HG.out _ hnr.out
    by_cases hxt:xx<wN
    ·have hle2:decide (G.x+(xx:Int)<G.x+wN)=true:=decide_eq_true (by omega)
     have hxw2:IntKind.i64.wrap (G.x+xx+1)=G.x+((xx+1:Nat):Int):=by rw[IntWalk.i64_in _ (by omega)];omega
     obtain⟨q1,q2,q3,q4,q5⟩:=gd_step (G:=G) HE.out (a:=zz) (b:=xx) (by rw[HWI.out.2];omega) (by rw[HWI.out.1];omega)
     rw[←HW.out]at q2 q3 q4 q5
     have hat:=atG_in HE.out q1
     have hcol:gcol G (zz*wN+xx)=atG G (G.x+xx) (G.z+zz):=by
      rw[hat,gcol_at q3]
      congr 1
      exact q2.symm
     have hst:∀ f,stOf G (zz*wN+xx) f=⟨G.x+xx,G.z+zz,f.y,f⟩:=fun f=>by
      unfold stOf
      rw[←HW.out,q4,q5]
     have hc8:=gcol_len HE.out (zz*wN+xx)
     have HCOL:=Lib.hid hcol
     have HST:=Lib.hid hst
     have HQ3:=Lib.hid q3
     have HGK2:=Lib.hid hgk
     clear q1 q2 q3 q4 q5 hat hcol hst hgk
     go_wp2_with fail
     refine(KA.out _ _ _ (N0.out.trans hnr.out)).mono ?_
     rintro e w2 ⟨v,rfl,hs,n2⟩
     rw[←HCOL.out]at hs
     obtain⟨la,lc,rfl,-,-,-,hrow⟩:=hs
     have HROW:=Lib.hid hrow
     have hnr2:=Lib.hid (hnr.out.trans n2)
     have hown2:Hid (w2.ownsRow base 247 6 (.slice ra rn rc) (stTo G (zz*wN+xx)).length ((stTo G (zz*wN+xx)).flatMap St.enc)):=Lib.hid (own_new hown.out n2)
     clear hrow n2 hown hnr g0 g1 g2 g3 g4
     obtain⟨nn,hnn⟩:∃ q,q=zz*wN+xx:=⟨_,rfl⟩
     rw[←hnn]at HROW hown2 HST HCOL HQ3 hc8 ⊢
     have HNN:=Lib.hid hnn
     clear hnn
     obtain⟨m,hm⟩:∃ q,q=(gcol G nn).length:=⟨_,rfl⟩
     rw[←hm]at hc8 ⊢
     have HM:=Lib.hid hm
     clear hm
     rename World=>wB
     go_wp2_with fail
     go_loopg [41,3] m (fun gk s41 s3 wr=>∃ (k:Nat) (ra:Option Addr) (rn rc:Nat),s41=.int .i64 k∧s3=.slice ra rn rc∧k≤m∧m - k≤gk∧Hid (wr.ownsRow base 247 6 (.slice ra rn rc) (stAt G nn k).length ((stAt G nn k).flatMap St.enc))∧Hid (New W0 wr))
     case atStart=>exact⟨0,ra,rn,rc,rfl,rfl,by omega,by omega,Lib.hid (by rw[stAt_zero];exact hown2.out),hnr2⟩
     case round =>
      clear hown2 hnr2
      obtain⟨k,ra,rn,rc,rfl,rfl,hk,hgk,hown,hnr⟩:=hrel
      by_cases hkt:k<m
      ·have hkl:k<(gcol G nn).length:=by rw[←HM.out];exact hkt
       obtain⟨b,off,rfl,hA⟩:=HROW.out (by omega)
       obtain⟨c0,c1,c2⟩:=Fl.cells (hA.keep (N0.out.trans hnr.out)) k hkl
       have hsx:=HST.out (gcol G nn)[k]
       have hsu:=stAt_succ hkl
       rw[hsx]at hsu
       obtain⟨f,hf⟩:∃ f,f=(gcol G nn)[k]:=⟨_,rfl⟩
       rw[←hf]at c0 c1 c2 hsu
       have HSU:=Lib.hid hsu
       have hsl:=stAt_len HE.out nn k
       have hq3:nn<n:=by rw[HN.out];exact HQ3.out
       have nr:=hnr.out
       have hbz:=World.block_lt_of_cell? _ _ c0
       have hrz:base≤wr.heap.size:=by rw[HBS.out];exact nr.size
       clear hA hsx hsu hf hnr
       go_upto_region 11 with fail
       refine Code.at (fun W5 hW=>?_)
       have n5:New W0 W5:=by subst hW;exact nw
       have f0:W5.cell? ⟨wr.heap.size,0,none⟩=some (.int .i64 f.y):=by subst hW;go_simp
       have f1:W5.cell? ⟨wr.heap.size,1,none⟩=some (.int .i64 f.top):=by subst hW;go_simp
       have f2:W5.cell? ⟨wr.heap.size,2,none⟩=some (.int .i64 f.area):=by subst hW;go_simp
       have own5:W5.ownsRow base 247 6 (.slice ra rn rc) (stAt G nn k).length ((stAt G nn k).flatMap St.enc):=own_new hown.out (by subst hW;exact nw)
       have hr5:base≤W5.heap.size:=by rw[HBS.out];exact n5.size
       clear hW hown nr c0 c1 c2 hrz
       go_wp2_with (at_builtin;refine wpList_append_sl rfl _ _ 240 rfl St.enc_len St.enc_one base 247 i0 _ 48 Tryz.underlying240 hi hz0 hz1 hz2 rfl (by decide) _ (stAt G nn k) rfl (own_new own5 (by exact nw)) _ [(⟨G.x+xx,G.z+zz,f.y,f⟩:St)] rfl (st_new _ ⟨G.x+xx,G.z+zz,f.y,f⟩ _) (by unfold maxLen;simp;omega) (by simp;omega) (by simp;omega) ?_;intro v' w1 hown' hnew _;obtain⟨a',d',N',hN',rfl⟩:=own_shape2 hown';clear hN';have nw1:=hnew W0 (by exact nw) (Nat.le_of_eq HBS.out.symm))
       go_roundg (m - (k+1))
       case measure=>omega
       case rel=>exact⟨k+1,a',N',d',by go_num,rfl,by omega,by omega,Lib.hid (by rw[HSU.out];exact hown'),Lib.hid nw1⟩
      ·obtain rfl:k=m:=by omega
       have HO:Hid (wr.ownsRow base 247 6 (.slice ra rn rc) (stTo G (zz*wN+(xx+1))).length ((stTo G (zz*wN+(xx+1))).flatMap St.enc)):=Lib.hid (by
        have h:=hown.out
        rw[stAt_all (by rw[HM.out];exact Nat.le_refl _),HNN.out,Nat.add_assoc]at h
        exact h)
       clear hown
       go_wp2_with fail
       go_roundg (wN - (xx+1))
       case measure=>have:=HGK2.out;omega
       case rel=>exact⟨xx+1,ra,rn,rc,by go_num,rfl,by omega,by omega,HO,hnr⟩
    ·have hle2:decide (G.x+(xx:Int)<G.x+wN)=false:=decide_eq_false (by omega)
     obtain rfl:xx=wN:=by omega
     have HO:Hid (wr.ownsRow base 247 6 (.slice ra rn rc) (stTo G ((zz+1)*xx)).length ((stTo G ((zz+1)*xx)).flatMap St.enc)):=Lib.hid (by
      have h:=hown.out
      have e:(zz+1)*xx=zz*xx+xx:=by rw[Nat.add_mul,Nat.one_mul]
      rw[e]
      exact h)
     clear hown
     go_wp2_with fail
     go_roundg (dN - (zz+1))
     case measure=>have:=HGK.out;omega
     case rel=>exact⟨zz+1,ra,rn,rc,by go_num,rfl,by omega,by omega,HO,hnr⟩
  ·have hle:decide (G.z+(zz:Int)<G.z+dN)=false:=decide_eq_false (by omega)
   obtain rfl:zz=dN:=by omega
   have HO:Hid (wr.ownsRow base 247 6 (.slice ra rn rc) (allG G).length ((allG G).flatMap St.enc)):=Lib.hid (by
    have h:=hown.out
    rw[←HWD.out,HN.out]at h
    exact h)
   go_wp2_with fail
   go_ret
   exact⟨_,_,rfl,hbw,HO.out,N0.out.trans hnr.out⟩
end Go.Proofs.YtmhghnbgllaihaaGreatDoor

namespace Go.Proofs.YtmhghnbgllaihaaGreatDoor
open Go.RowKit Go.Shelf Go.Sort
attribute [local go_sem] Oper.semAt_some
def stA (s:St):Array Value:=#[.agg #[.int .i64 s.x,.int .i64 s.z,.int .i64 s.y],.agg #[.int .i64 s.f.y,.int .i64 s.f.top,.int .i64 s.f.area]]
def rowBS (l:List St) (at0:Option Addr) (B:Nat):Nat:=match l,at0 with
 | _::_,some a=>a.block
 | _,_=>B
theorem rowBS_pos {l:List St} {a:Addr} {B:Nat} (h:0<l.length):rowBS l (some a) B=a.block:=by
 cases l with
 | nil=>simp at h
 | cons x xs=>rfl
structure StBox (w:World) (B:Nat) (at0:Option Addr) (cap:Nat) (l:List St):Prop where
 box:w.heap[B]? = some (.cells #[.slice at0 l.length cap] 240 (0,0))
 row:RowIn St.enc 6 w at0 l
theorem StBox.lt {w:World} {B:Nat} {at0:Option Addr} {cap:Nat} {l:List St} (h:StBox w B at0 cap l):B<w.heap.size:=(Array.getElem?_eq_some_iff.1 h.box).1
def stS (B:Nat) (at0:Option Addr) (l:List St):List Nat:=[B,rowBS l at0 B]
theorem StBox.keep {w W:World} {B:Nat} {at0:Option Addr} {cap:Nat} {l:List St} (h:StBox w B at0 cap l) (k:KeepS (stS B at0 l) w W):StBox W B at0 cap l :=
 ⟨(k B (by simp[stS])).trans h.box,fun h0=>by
  obtain⟨b,off,rfl,hr⟩:=h.row h0
  have k2:=k (rowBS l (some ⟨b,off,none⟩) B) (by simp[stS])
  rw[rowBS_pos h0]at k2
  exact⟨b,off,rfl,fun j hj i hi=>(World.cell?_of_block (a:=⟨b,off+j*6+i,none⟩) k2).trans (hr j hj i hi)⟩⟩
theorem StBox.row_lt {w:World} {B:Nat} {at0:Option Addr} {cap:Nat} {l:List St} (h:StBox w B at0 cap l):rowBS l at0 B<w.heap.size:=by
 cases l with
 | nil=>exact h.lt
 | cons x xs =>
  obtain⟨b,off,rfl,hr⟩:=h.row (by simp)
  exact World.block_lt_of_cell? _ _ (hr 0 (by simp) 0 (by rw[St.enc_len];omega))
theorem StBox.in_lt {w:World} {B:Nat} {at0:Option Addr} {cap:Nat} {l:List St} (h:StBox w B at0 cap l):∀ b∈stS B at0 l,b<w.heap.size:=fun b hb=>by
 simp only[stS,List.mem_cons,List.not_mem_nil,or_false]at hb
 rcases hb with rfl|rfl
 ·exact h.lt
 ·exact h.row_lt
theorem StBox.new {w W:World} {B:Nat} {at0:Option Addr} {cap:Nat} {l:List St} (h:StBox w B at0 cap l) (n:New w W):StBox W B at0 cap l:=h.keep (KeepS.new h.in_lt n)
theorem StBox.cell {w:World} {B:Nat} {at0:Option Addr} {cap:Nat} {l:List St} (h:StBox w B at0 cap l):w.cell? ⟨B,0,none⟩=some (.slice at0 l.length cap):=cell_of_heap h.box rfl
theorem og_all1 (at0:Option Addr) (l:List St) (cap B:Nat) (hl:l.length≤100000) (n:Nat) (hn:1≤n) (w:World) (H:StBox w B at0 cap l) :
  SeqL Fence.wide n Tryz.prog 174 #[.pointer (some ⟨B,0,none⟩)] stA l (KeepS (stS B at0 l)) w:=by
 intro lp J Jx W hW hJ hJx hY h0
 have H0:=Lib.hid (H.new hW)
 have HY:=Lib.hid hY
 have HJ:=Lib.hid hJ
 have HJ0:Hid (J 0 W):=h0
 clear hY h0 H hW hJ hJx
 simp only[List.append_toArray,List.cons_append,List.nil_append]
 refine callsIn_of_wp Tryz.func174 rfl trivial ?_ rfl
 simp only[Tryz.ntmps174,List.size_toArray,List.length_cons,List.length_nil,Nat.reduceAdd,Nat.reduceSub,Array.replicate_succ,Array.replicate_zero,List.push_toArray,List.append_toArray,List.nil_append,List.cons_append]
 have c0:=H0.out.cell
 obtain⟨m,hm⟩:∃ m,m=l.length:=⟨_,rfl⟩
 rw[←hm]at c0 hl ⊢
 have HM:=Lib.hid hm
 clear hm
 gi_wp2_with fail
 gi_loopw [7] (fun vz wr=>∃ k:Nat,vz=.int .i64 k∧k≤m∧Hid (J k wr)∧Hid (StBox wr B at0 cap l)∧Hid (W.heap.size≤wr.heap.size))
  (fun vz _=>m - (intOf vz).toNat)
 case atStart=>exact⟨0,by simp,Nat.zero_le _,HJ0,H0,Lib.hid (Nat.le_refl _)⟩
 case round =>
  clear c0 H0 HJ0
  obtain⟨k,rfl,hk,hJ1,HB,HZ⟩:=hrel
  by_cases hlt:k<m
  ·have hkl:k<l.length:=by rw[←HM.out];exact hlt
   obtain⟨b0,off,rfl,hA⟩:=HB.out.row (by omega)
   obtain⟨d0,d1,d2,d3,d4,d5⟩:=St.cells hA k hkl
   have hyall:=fun U q=>HY.out k hkl U q
   unfold stA at hyall
   obtain⟨s,hs⟩:∃ s,s=l[k]:=⟨_,rfl⟩
   rw[←hs]at d0 d1 d2 d3 d4 d5 hyall
   have HYA:=Lib.hid hyall
   clear hyall hs hA hkl
   have nU:New wr (wr.alloc (.cells #[.int .i64 s.x,.int .i64 s.z,.int .i64 s.y,.int .i64 s.f.y,.int .i64 s.f.top,.int .i64 s.f.area] 247)):=by exact nw
   obtain⟨fn,tmps,assign,body,hy,hR⟩:=HYA.out _ (own_over HJ.out hJ1.out nU)
   have HU:=Lib.hid (And.intro (HB.out.new nU) (Nat.le_trans HZ.out nU.size))
   have hbz:=World.block_lt_of_cell? _ _ d0
   clear HYA nU
   gi_wp2_with fail
   refine hR.mono ?_
   clear hy hR
   rintro e W5 (⟨rfl,kf,kp,hJ5⟩|⟨rfl,-,hJx5⟩)
   ·have HB5:=Lib.hid (HU.out.1.keep kp)
    have HZ5:Hid (W.heap.size≤W5.heap.size):=Lib.hid (Nat.le_trans HU.out.2 kf.size)
    have hJ6:Hid (J (k+1) W5):=hJ5
    clear hJ5 kp kf
    gi_wp2_with fail
    go_roundw
    case rel=>exact⟨k+1,by congr 1,by omega,hJ6,HB5,HZ5⟩
    case measure=>simp[intOf];omega
   ·have hJ6:=Lib.hid hJx5
    gi_wp2_with fail
    refine bodyPost_ret (results_none rfl _ _ _) rfl ?_
    exact⟨⟨_,rfl⟩,.inr ⟨k+1,by omega,by omega,hJ6.out⟩⟩
  ·obtain rfl:k=m:=by omega
   gi_wp2_with fail
   go_end0
   exact⟨⟨_,rfl⟩,.inl hJ1.out⟩
def Alled (L:List St) (w:World) (e:Ending) (w':World):Prop :=
 New w w'∧∃ (B:Nat) (at0:Option Addr) (cap:Nat),e=.returned (.func (.func 174) #[] #[.pointer (some ⟨B,0,none⟩)])∧StBox w' B at0 cap L∧∀ b∈stS B at0 L,w.heap.size≤b
theorem og_All (G:Gd) (w:World) (h:G.ok w):Calls Tryz.prog 138 #[.agg #[.int .i64 G.x,.int .i64 G.z,.int .i64 G.w,.int .i64 G.d,.slice G.ga G.L.length G.gc]] w (Alled (allG (colG G)) w):=by
 have KC:=Lib.hid (fun W n=>og_columnsOf G W (h.keep (n:New w W)))
 have KA:=Lib.hid (fun W n=>og_stands (colG G) (colG_E G) W (colG_ok (h.keep (n:New w W))))
 obtain⟨n,hn⟩:∃ n,n=G.L.length:=⟨_,rfl⟩
 rw[←hn]at KC ⊢
 clear hn h
 obtain⟨n2,hn2⟩:∃ n2,n2=(colG G).L.length:=⟨_,rfl⟩
 obtain⟨L,hL⟩:∃ L,L=allG (colG G):=⟨_,rfl⟩
 rw[←hL]at KA ⊢
 rw[←hn2]at KC KA
 clear hn2 hL
 generalize (colG G).x=cx at *
 generalize (colG G).z=cz at *
 generalize (colG G).w=cw at *
 generalize (colG G).d=cd at *
 generalize (colG G).ga=cga at *
 generalize (colG G).gc=cgc at *
 obtain⟨Q,hQ⟩:∃ Q,Q=Alled L w:=⟨_,rfl⟩
 rw[←hQ]
 have HQ:=Lib.hid hQ
 clear hQ
 go_enter Tryz.func138,Tryz.ntmps138
 go_wp2_with fail
 refine(KC.out _ (by exact nw)).mono ?_
 rintro e w1 ⟨rfl,n1⟩
 have N1:New w w1:=New.trans (by exact nw) n1
 clear n1
 go_wp2_with fail
 refine(KA.out _ N1).mono ?_
 rintro e w2 ⟨v,base,rfl,hbs,ho,n2⟩
 have N2:=N1.trans n2
 have hb1:=Nat.le_trans N1.size hbs
 have hsl:Sl St.enc 6 w2 v L:=own_sl St.enc_len ho
 obtain⟨a,c,rfl,h1,h2,h3,h4⟩:=hsl
 have HO:=Lib.hid (And.intro h4 ho)
 clear n2 N1 h1 h2 h3 h4 ho
 go_wp2_with fail
 rw[HQ.out]
 show Alled L w (.returned (.func (.func 174) #[] #[.pointer (some ⟨w2.heap.size,0,none⟩)])) (w2.alloc (.cells #[.slice a L.length c] 240))
 have n3:New w2 (w2.alloc (.cells #[.slice a L.length c] 240)):=by exact nw
 have hz:=N2.size
 refine⟨N2.trans n3,w2.heap.size,a,c,rfl,⟨World.alloc_heap_new _ _,HO.out.1.keep n3⟩,fun b hb=>?_⟩
 simp only[stS,List.mem_cons,List.not_mem_nil,or_false]at hb
 rcases hb with rfl|rfl
 ·exact hz
 ·have h4:=HO.out.1
  have ho:=HO.out.2
  cases L with
  | nil=>exact hz
  | cons x xs =>
   obtain⟨b,off,rfl,-⟩:=h4 (by simp)
   have:=own_block ho b rfl
   show w.heap.size≤b
   omega
end Go.Proofs.YtmhghnbgllaihaaGreatDoor

namespace Go.Proofs.YtmhghnbgllaihaaGreatDoor
open Go.RowKit
section
variable {F:Fence} {nF:Nat} {P:Program} {ops:Array Oper} {n:Nat}
def still (o:Oper):Bool :=
 match o.op with
 | .move _|.assign _|.pick _ _ _|.load _ _|.binOp _ _ _ _ _|.indexAddr _ _ _|.buildSlice _ _ _|.fieldAddr _ _ _|.build _ _|.unOp _ _ _=>true
 | .call c=>match c.callee with
  | .builtin .len=>true
  | .builtin .append=>true
  | _=>false
 | _=>false
theorem still_about {o:Oper} (hp:still o=true) (ρ:Operand→Value) (w:World):o.about P w ρ=none:=by
 unfold still at hp
 unfold Oper.about
 split at hp <;> rename_i ho <;> simp only[ho]
 ·split at hp
  ·rename_i hc
   simp[resolve,hc,Target.leads]
  ·rename_i hc
   simp[resolve,hc,Target.leads]
  ·cases hp
theorem still_defer {o:Oper} (hp:still o=true):∀ c,o.op≠.defer c:=fun c e=>by
 unfold still at hp
 rw[e]at hp
 cases hp
theorem still_sem {o:Oper} (hp:still o=true) (r:Option Nat) (ρ:Operand→Value):Oper.semAt r ρ o=execOp ρ o:=by
 cases r with
 | none=>rfl
 | some l=>exact Oper.semAt_some l ρ o (still_defer hp)
def YieldsV (P:Program) (o:Oper) (a:Act) (w:World) (R:Value→World→Prop):Prop:=∃ v w',(execOp a.eval o).run P w=.ok (.value v) w'∧R v w'
theorem yieldsV_wpIn {o:Oper} (hp:still o=true) {a:Act} {w:World} {R:Value→World→Prop} {K:Act→World→Prop} {Q:Exit→Act→World→Prop} (h:YieldsV P o a w R) (hK:∀ v w',R v w'→K (a.put o.dst v) w'):o.wpIn F nF P a w K Q:=by
 obtain⟨v,w',h1,h2⟩:=h
 unfold Oper.wpIn
 refine⟨fun f hf=>(by rw[still_about hp]at hf;cases hf),?_⟩
 rw[still_sem hp,h1,Oper.uponIn_value]
 exact hK _ _ h2
theorem wpAnyIn_of_seq {md:Region.Mode} {Q':Exit→Act→World→Prop}:∀ (l:List Oper) (k:Nat) (listed:Array Bool) (a:Act) (w:World),(∀ j,l[j]? = ops[k+j]?) →
  Region.seqB md ops l.length k listed=true→wpListIn F nF P ops Q' l a w→wpAnyIn F nF P md ops Q' l.length listed a w
 | [],_,_,_,_,_,hB,h=>⟨by simpa [Region.seqB]using hB,h⟩
 | o::l,k,listed,a,w,hl,hB,h=>by
  have h0:ops[k]? = some o:=by simpa using (hl 0).symm
  simp only[List.length_cons,Region.seqB,Bool.and_eq_true,decide_eq_true_eq]at hB
  refine⟨fun h1=>(by rw[hB.1]at h1;cases h1),fun i hi=>?_⟩
  rw[hB.1]at hi
  have hik:i=k:=by simpa using hi
  subst hik
  have hw:wpOpIn F nF P ops Q' i (wpListIn F nF P ops Q' l) a w:=by unfold wpOpIn;simp only[h0];exact h
  exact wpOpIn_mono (fun a' w' h'=>wpAnyIn_of_seq l (i+1) _ a' w' (fun j=>by have:=hl (j+1);simpa [Nat.add_assoc,Nat.add_comm 1 j]using this) hB.2 h') hw
structure LInvK (ops:Array Oper) (n:Nat) (V:Nat→World→Value→Prop) (a:Act) (listed:Array Bool) (a':Act) (w':World):Prop where
 defs:a'.defers=a.defers
 size:a'.tmps.size=a.tmps.size
 same:∀ s,(∀ j oj,j<n→ops[j]? = some oj→oj.dst≠some s)→a'.tmps[s]? = a.tmps[s]?
 held:∀ j oj d,j<n→ops[j]? = some oj→listed.getD j false=true→oj.dst=some d→V j w' (a'.eval (.tmp d))
theorem wpAnyIn_loose {R:Nat→World→World→Prop} {KK:Array Bool→World→Prop} {V:Nat→World→Value→Prop} {a:Act} {Q:Exit→Act→World→Prop} {g:Nat} (hs:Region.sinkB .any ops n=true) (hc:chain2B ops n=true) (hlt:n<ops.size) (ho:∀ j,j<n→opB ops n a.tmps.size j=true)
  (hst:∀ i o,i<n→ops[i]? = some o→still o=true)
  (hV:∀ i j w w' v,i≠j→V i w v→R j w w'→V i w' v)
  (hKK:∀ listed j w w',j<n→j<listed.size→KK listed w→R j w w'→KK (listed.setIfInBounds j true) w')
  (hstep:∀ i o listed,i<n→ops[i]? = some o→listed.getD i false=false→∀ a' w',KK listed w'→(∀ t,restsB ops n t=true→a'.eval (.tmp t)=a.eval (.tmp t))→(∀ j d,j<n→waitsB o j=true→(ops[j]?).bind (·.dst)=some d→V j w' (a'.eval (.tmp d)))→YieldsV P o a' w' fun v w''=>R i w' w''∧V i w'' v)
  (hL:∀ listed a' w',(∀ j,j<n→listed.getD j false=true)→HeadInv .any ops n listed→KK listed w'→LInvK ops n V a listed a' w'→wpAnyIn F nF P .any ops Q g listed a' w') :
  ∀ (f:Nat) (listed:Array Bool) (a':Act) (w':World),HeadInv .any ops n listed→toCome listed n=f→KK listed w'→LInvK ops n V a listed a' w'→wpAnyIn F nF P .any ops Q (f+g) listed a' w'
 | 0,listed,a',w',inv,hf,HK,K=>by rw[Nat.zero_add];exact hL _ _ _ (toCome_zero n hf) inv HK K
 | f+1,listed,a',w',inv,hf,HK,K=>by
  rw[show f+1+g=(f+g)+1 by omega]
  obtain⟨i0,hi0,hm0⟩:=exists_least (toCome_some n (by omega:0<toCome listed n))
  obtain⟨o0,d0,ho0,_,_,_,_,haf⟩:=opB_spec (ho i0 hi0.1)
  have hsz:i0<listed.size:=by rw[inv.size];omega
  have hr0:i0∈Region.ready .any ops listed:=mem_ready.2 ⟨getD_in hsz hi0.2,o0,ho0,fun e he hb=>by
   have h1:=haf e he hb
   cases hl:listed.getD e.on false with
   | true=>rfl
   | false=>have:=hm0 e.on ⟨by omega,hl⟩;omega⟩
  refine⟨fun h0=>absurd hr0 (by rw[h0];simp),fun i hi=>?_⟩
  have hin:i<n:=Nat.lt_of_not_le fun h=>tail_waits2 hs hc hlt inv i0 hi0.1 (getD_in hsz hi0.2) i h hi
  obtain⟨hun,o',ho',hall⟩:=mem_ready.1 hi
  obtain⟨o,d,hoi,hg,hd,hds,hdis,_⟩:=opB_spec (ho i hin)
  obtain rfl:o'=o:=Option.some.inj (ho'.symm.trans hoi)
  unfold wpOpIn
  simp only[hoi]
  have hw:Region.wanted o' (yielded ops a'.tmps)=true:=by unfold Region.wanted;rw[hg]
  rw[if_pos hw]
  refine yieldsV_wpIn (hst i o' hin hoi) (hstep i o' listed hin hoi (getD_both hun) a' w' HK (fun t ht=>?_) (fun j dj hj hwj hdj=>?_)) fun v w'' ⟨hn,hv⟩=>?_
  ·rw[eval_get,eval_get,K.same t fun j oj hj hoj hd'=>by
    have h1:=List.all_eq_true.1 ht j (List.mem_range.2 hj)
    simp only[hoj,bne_iff_ne]at h1
    exact h1 hd']
  ·obtain⟨e,he,hb⟩:=Array.any_eq_true'.1 hwj
   simp only[Bool.and_eq_true,beq_iff_eq]at hb
   have h1:=hall e he hb.1
   rw[hb.2]at h1
   cases hoj:ops[j]? with
   | none=>rw[hoj]at hdj;cases hdj
   | some oj =>
    rw[hoj]at hdj
    exact K.held j oj dj hj hoj h1 hdj
  ·rw[hd]
   refine wpAnyIn_loose hs hc hlt ho hst hV hKK hstep hL f _ _ _ (inv.set hi hin) (by have:=toCome_set (by rw[inv.size];omega) (getD_both hun) n hin;omega) (hKK listed i w' w'' hin (by rw[inv.size];omega) HK hn) ⟨by rw[put_def];exact K.defs,by rw[put_size];exact K.size,fun s h=>?_,fun j oj dj hj hoj hl hdj=>?_⟩
   ·rw[put_get_ne (by rintro _ ⟨rfl⟩ e;subst e;exact h i o' hin hoi hd)]
    exact K.same s h
   ·by_cases hji:j=i
    ·subst hji
     obtain rfl:oj=o':=Option.some.inj (hoj.symm.trans hoi)
     obtain rfl:dj=d:=Option.some.inj (hdj.symm.trans hd)
     rw[eval_get,put_get_eq (by rw[K.size];exact hds)]
     exact hv
    ·rw[getD_set_ne false (fun e=>hji e.symm)]at hl
     have h1:=hdis j oj hj hji hoj
     rw[eval_get,put_get_ne (by rintro _ ⟨rfl⟩ e;subst e;exact h1 hdj),←eval_get]
     exact hV _ _ _ _ _ hji (K.held j oj dj hj hoj hl hdj) hn
theorem wpIn_region_loose {id:Nat} {Q:Exit→Act→World→Prop} {a:Act} {w:World} {l:List Oper} (n:Nat) (R:Nat→World→World→Prop) (KK:Array Bool→World→Prop) (V:Nat→World→Value→Prop) (hm:P.follows .mixedOrders=true) (hB:looseB l.toArray n a.tmps.size=true) (hS:(l.take n).all still=true)
  (hV:∀ i j w w' v,i≠j→V i w v→R j w w'→V i w' v)
  (h0K:KK (Array.replicate l.toArray.size false) { w with drawn:=w.drawn+1 })
  (hKK:∀ listed j w w',j<n→j<listed.size→KK listed w→R j w w'→KK (listed.setIfInBounds j true) w')
  (hstep:∀ i o listed,i<n→l.toArray[i]? = some o→listed.getD i false=false→∀ a' w',KK listed w'→(∀ t,restsB l.toArray n t=true→a'.eval (.tmp t)=a.eval (.tmp t))→(∀ j d,j<n→waitsB o j=true→(l.toArray[j]?).bind (·.dst)=some d→V j w' (a'.eval (.tmp d)))→YieldsV P o a' w' fun v w''=>R i w' w''∧V i w'' v)
  (htail:∀ vs w',(∀ j,j<n→V j w' (vs j))→wpListIn F nF P l.toArray Q (l.drop n) (putL (l.take n) vs 0 a) w'):(Code.region id l.toArray true).wpIn F nF P Q a w:=by
 simp only[looseB,Bool.and_eq_true,decide_eq_true_eq]at hB
 obtain⟨⟨⟨⟨hs,hc⟩,hlt⟩,hops⟩,hseq⟩:=hB
 have ho:∀ j,j<n→opB l.toArray n a.tmps.size j=true:=fun j hj=>List.all_eq_true.1 hops j (List.mem_range.2 hj)
 have hta:∀ i o,(l.take n)[i]? = some o→i<n∧l.toArray[i]? = some o:=fun i o h=>by
  have h1:i<(l.take n).length:=(List.getElem?_eq_some_iff.1 h).1
  have h2:i<n:=by simp at h1;omega
  rw[List.getElem?_take,if_pos h2]at h
  exact⟨h2,by simpa using h⟩
 have hst:∀ i o,i<n→l.toArray[i]? = some o→still o=true:=fun i o hi h=>by
  refine List.all_eq_true.1 hS o (List.mem_of_getElem? (i:=i) ?_)
  rw[List.getElem?_take,if_pos hi]
  simpa using h
 have hll:l.toArray.size=l.length:=by simp
 have inv0:HeadInv .any l.toArray n (Array.replicate l.toArray.size false) :=
  ⟨by simp,fun j oj _ hl=>(by rw[getD_replicate_false]at hl;cases hl),fun t _ ht=>getD_in (by simpa using ht) (getD_replicate_false _ _)⟩
 have h0:∀ k,toCome (Array.replicate l.toArray.size false) k=k:=by
  intro k
  induction k with
  | zero=>rfl
  | succ k ih =>
   unfold toCome
   rw[ih,getD_replicate_false]
   simp
   omega
 refine wpIn_region_any hm ?_
 have:=wpAnyIn_loose (F:=F) (nF:=nF) (P:=P) (R:=R) (KK:=KK) (V:=V) (Q:=Q) (g:=l.toArray.size - n) (a:=a) hs hc hlt ho hst hV hKK hstep (fun listed a' w' hall inv HK K=>by
  have hlist:listed=heads l.toArray.size n:=by
   refine Array.ext (by rw[inv.size];simp[heads]) fun j h1 h2=>?_
   have hj:j<l.toArray.size:=by rw[←inv.size];exact h1
   have e2:(heads l.toArray.size n)[j]=decide (j<n):=by simp[heads]
   rw[e2]
   by_cases hjn:j<n
   ·have:=hall j hjn
    rw[Array.getD_eq_getD_getElem?,Array.getElem?_eq_getElem h1]at this
    simpa [hjn]using this
   ·have:=inv.tail j (by omega) hj
    rw[Array.getD_eq_getD_getElem?,Array.getElem?_eq_getElem h1]at this
    simpa [hjn]using this
  have hdl:(l.drop n).length=l.toArray.size - n:=by simp
  have hw:=wpAnyIn_of_seq (F:=F) (nF:=nF) (P:=P) (md:=.any) (ops:=l.toArray) (Q':=Q) (l.drop n) n listed a' w' (fun j=>by simp[List.getElem?_drop]) (by rw[hdl,hlist];exact hseq) (by
   have ht:=htail (fun j=>a'.eval (.tmp (((l.toArray[j]?).bind (·.dst)).getD 0))) w' (fun j hj=>by
    obtain⟨o,d,hoj,_,hd,_⟩:=opB_spec (ho j hj)
    have:=K.held j o d hj hoj (hall j hj) hd
    simpa [hoj,hd]using this)
   have e:putL (l.take n) (fun j=>a'.eval (.tmp (((l.toArray[j]?).bind (·.dst)).getD 0))) 0 a=a':=act_eq (by rw[putL_def,K.defs]) fun s=>by
    by_cases hw:∃ j oj,j<n∧l.toArray[j]? = some oj∧oj.dst=some s
    ·obtain⟨j,oj,hj,hoj,hd⟩:=hw
     obtain⟨o,d,hoj',_,hd',hds,hdis,_⟩:=opB_spec (ho j hj)
     obtain rfl:oj=o:=Option.some.inj (hoj.symm.trans hoj')
     obtain rfl:s=d:=Option.some.inj (hd.symm.trans hd')
     rw[putL_some (l.take n) _ 0 a j oj (by rw[List.getElem?_take,if_pos hj];simpa using hoj) hd hds fun i o' hi hij hd2=>hdis i o' (hta i o' hi).1 hij (hta i o' hi).2 hd2]
     rw[Nat.zero_add,hoj]
     show some (a'.eval (.tmp ((oj.dst).getD 0)))=_
     rw[hd]
     show some (a'.eval (.tmp s))=_
     rw[eval_get,Array.getElem?_eq_getElem (by rw[K.size];exact hds)]
     rfl
    ·rw[putL_none _ _ _ _ fun o ho' hd=>by
      obtain⟨i,hi,he⟩:=List.getElem_of_mem ho'
      have:=hta i o (by rw[List.getElem?_eq_getElem hi,he])
      exact hw ⟨i,o,this.1,this.2,hd⟩]
     exact(K.same s fun j oj hj hoj hd=>hw ⟨j,oj,hj,hoj,hd⟩).symm
   rw[e]at ht
   exact ht)
  rwa [hdl]at hw) n _ a { w with drawn:=w.drawn+1 } inv0 (h0 n) h0K ⟨rfl,rfl,fun _ _=>rfl,fun j oj d _ _ hl=>by rw[getD_replicate_false]at hl;cases hl⟩
 rwa [show n+(l.toArray.size - n)=l.toArray.size by omega]at this
end
end Go.Proofs.YtmhghnbgllaihaaGreatDoor
