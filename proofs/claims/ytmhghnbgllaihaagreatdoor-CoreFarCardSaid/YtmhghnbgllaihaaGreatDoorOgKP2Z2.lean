import Derived.Test.YtmhghnbgllaihaaGreatDoorOgIP2Z2
import Derived.RangeFuncNested
set_option linter.unusedVariables false
set_option maxHeartbeats 16000000
set_option maxRecDepth 100000

namespace Go.Proofs.YtmhghnbgllaihaaGreatDoor
open Go.RowKit
def Gd.zero:Gd:=⟨0,0,0,0,[],none,0⟩
theorem Gd.zero_ok (w:World):Gd.zero.ok w:=RowsK.nil
theorem Gd.zero_E:gE Gd.zero=0:=by kernel_rfl
theorem Gd.ok.keep {G:Gd} {w w':World} (h:G.ok w) (n:New w w'):G.ok w':=RowsK.keep h n
def colG (G:Gd):Gd:=if gE G=0 then G else Gd.zero
theorem colG_ok {G:Gd} {w:World} (h:G.ok w):(colG G).ok w:=by
 unfold colG
 split
 ·exact h
 ·exact Gd.zero_ok w
theorem colG_E (G:Gd):gE (colG G)=0:=by
 unfold colG
 split
 ·rename_i h;exact h
 ·exact Gd.zero_E
theorem og_columnsOf (G:Gd) (w:World) (h:G.ok w):Calls Tryz.prog 172 #[.agg #[.int .i64 G.x,.int .i64 G.z,.int .i64 G.w,.int .i64 G.d,.slice G.ga G.L.length G.gc]] w fun e w'=>e=.returned (.agg #[.int .i64 (colG G).x,.int .i64 (colG G).z,.int .i64 (colG G).w,.int .i64 (colG G).d,.slice (colG G).ga (colG G).L.length (colG G).gc])∧New w w':=by
 have KC:=Lib.hid (fun W n=>og_check G W (h.keep (n:New w W)))
 have h2:=gE_two G
 have HG:Hid (gE G=0→colG G=G):=Lib.hid (fun q=>by unfold colG;rw[if_pos q])
 have HZ:Hid (gE G=2→colG G=Gd.zero):=Lib.hid (fun q=>by unfold colG;rw[if_neg (by omega)])
 obtain⟨r,hr⟩:∃ r,r=gE G:=⟨_,rfl⟩
 rw[←hr]at KC h2 HG HZ
 clear hr h
 obtain⟨n,hn⟩:∃ n,n=G.L.length:=⟨_,rfl⟩
 have HN:=Lib.hid hn
 rw[←hn]at KC ⊢
 clear hn
 rcases h2 with rfl|rfl
 ·have e:=HG.out rfl
  rw[e,←HN.out]
  clear e
  go_enter Tryz.func172,Tryz.ntmps172
  go_wp2_with fail
  refine Calls.at (fun W0 hW=>?_)
  have n0:New w W0:=by subst hW;exact nw
  have g0:W0.cell? ⟨w.heap.size,0,none⟩=some (.int .i64 G.x):=by subst hW;go_simp
  have g1:W0.cell? ⟨w.heap.size,1,none⟩=some (.int .i64 G.z):=by subst hW;go_simp
  have g2:W0.cell? ⟨w.heap.size,2,none⟩=some (.int .i64 G.w):=by subst hW;go_simp
  have g3:W0.cell? ⟨w.heap.size,3,none⟩=some (.int .i64 G.d):=by subst hW;go_simp
  have g4:W0.cell? ⟨w.heap.size,4,none⟩=some (.slice G.ga n G.gc):=by subst hW;go_simp
  have r0:W0.heap[w.heap.size+1]? = some (.cells #[.int .i64 0,.int .i64 0,.int .i64 0,.int .i64 0,.slice none 0 0] 242 (0,0)):=by
   subst hW
   have h:=World.alloc_heap_new (w.alloc (.cells #[.int .i64 G.x,.int .i64 G.z,.int .i64 G.w,.int .i64 G.d,.slice G.ga n G.gc] 37)) (.cells #[.int .i64 0,.int .i64 0,.int .i64 0,.int .i64 0,.slice none 0 0] 242)
   rw[World.size_alloc]at h
   exact h
  clear hW
  refine(KC.out _ n0).mono ?_
  rintro e w1 ⟨rfl,n1⟩
  have q0:=(n1.block _ (Array.getElem?_eq_some_iff.1 r0).1).trans r0
  have z0:w1.cell? ⟨w.heap.size+1,0,none⟩=some (.int .i64 0):=cell_of_heap q0 rfl
  have z1:w1.cell? ⟨w.heap.size+1,1,none⟩=some (.int .i64 0):=cell_of_heap q0 rfl
  have z2:w1.cell? ⟨w.heap.size+1,2,none⟩=some (.int .i64 0):=cell_of_heap q0 rfl
  have z3:w1.cell? ⟨w.heap.size+1,3,none⟩=some (.int .i64 0):=cell_of_heap q0 rfl
  have z4:w1.cell? ⟨w.heap.size+1,4,none⟩=some (.slice none 0 0):=cell_of_heap q0 rfl
  have f0:w1.frozen? ⟨w.heap.size+1,0,none⟩=false:=by simp[World.frozen?,q0]
  have f1:w1.frozen? ⟨w.heap.size+1,1,none⟩=false:=by simp[World.frozen?,q0]
  have f2:w1.frozen? ⟨w.heap.size+1,2,none⟩=false:=by simp[World.frozen?,q0]
  have f3:w1.frozen? ⟨w.heap.size+1,3,none⟩=false:=by simp[World.frozen?,q0]
  have f4:w1.frozen? ⟨w.heap.size+1,4,none⟩=false:=by simp[World.frozen?,q0]
  replace g0:=n1.keep g0
  replace g1:=n1.keep g1
  replace g2:=n1.keep g2
  replace g3:=n1.keep g3
  replace g4:=n1.keep g4
  have nn:=n0.trans n1
  clear q0 r0 n0 n1
  go_wp2_with fail
  generalize hW5:World.setCell _ _ _=W5
  have n5:New w W5:=by subst hW5;exact nw
  have k0:W5.cell? ⟨w.heap.size+1,0,none⟩=some (.int .i64 G.x):=by subst hW5;go_simp
  have k1:W5.cell? ⟨w.heap.size+1,1,none⟩=some (.int .i64 G.z):=by subst hW5;go_simp
  have k2:W5.cell? ⟨w.heap.size+1,2,none⟩=some (.int .i64 G.w):=by subst hW5;go_simp
  have k3:W5.cell? ⟨w.heap.size+1,3,none⟩=some (.int .i64 G.d):=by subst hW5;go_simp
  have k4:W5.cell? ⟨w.heap.size+1,4,none⟩=some (.slice G.ga n G.gc):=by subst hW5;go_simp
  clear hW5 z0 z1 z2 z3 z4 f0 f1 f2 f3 f4 g0 g1 g2 g3 g4
  refine bodyPost_ret (v:=.agg #[.int .i64 G.x,.int .i64 G.z,.int .i64 G.w,.int .i64 G.d,.slice G.ga n G.gc]) (by simp[results,Tryz.results172,go_sem, *]) rfl ?_
  exact⟨rfl,n5⟩
 ·have e:=HZ.out rfl
  rw[e]
  clear e
  go_enter Tryz.func172,Tryz.ntmps172
  go_wp2_with fail
  refine Calls.at (fun W0 hW=>?_)
  have n0:New w W0:=by subst hW;exact nw
  have r0:W0.heap[w.heap.size+1]? = some (.cells #[.int .i64 0,.int .i64 0,.int .i64 0,.int .i64 0,.slice none 0 0] 242 (0,0)):=by
   subst hW
   have h:=World.alloc_heap_new (w.alloc (.cells #[.int .i64 G.x,.int .i64 G.z,.int .i64 G.w,.int .i64 G.d,.slice G.ga n G.gc] 37)) (.cells #[.int .i64 0,.int .i64 0,.int .i64 0,.int .i64 0,.slice none 0 0] 242)
   rw[World.size_alloc]at h
   exact h
  clear hW
  refine(KC.out _ n0).mono ?_
  rintro e w1 ⟨rfl,n1⟩
  have q0:=(n1.block _ (Array.getElem?_eq_some_iff.1 r0).1).trans r0
  have z0:w1.cell? ⟨w.heap.size+1,0,none⟩=some (.int .i64 0):=cell_of_heap q0 rfl
  have z1:w1.cell? ⟨w.heap.size+1,1,none⟩=some (.int .i64 0):=cell_of_heap q0 rfl
  have z2:w1.cell? ⟨w.heap.size+1,2,none⟩=some (.int .i64 0):=cell_of_heap q0 rfl
  have z3:w1.cell? ⟨w.heap.size+1,3,none⟩=some (.int .i64 0):=cell_of_heap q0 rfl
  have z4:w1.cell? ⟨w.heap.size+1,4,none⟩=some (.slice none 0 0):=cell_of_heap q0 rfl
  have f0:w1.frozen? ⟨w.heap.size+1,0,none⟩=false:=by simp[World.frozen?,q0]
  have f1:w1.frozen? ⟨w.heap.size+1,1,none⟩=false:=by simp[World.frozen?,q0]
  have f2:w1.frozen? ⟨w.heap.size+1,2,none⟩=false:=by simp[World.frozen?,q0]
  have f3:w1.frozen? ⟨w.heap.size+1,3,none⟩=false:=by simp[World.frozen?,q0]
  have f4:w1.frozen? ⟨w.heap.size+1,4,none⟩=false:=by simp[World.frozen?,q0]
  have nn:=n0.trans n1
  clear q0 r0 n0 n1
  go_wp2_with fail
  generalize hW5:World.setCell _ _ _=W5
  have n5:New w W5:=by subst hW5;exact nw
  have k0:W5.cell? ⟨w.heap.size+1,0,none⟩=some (.int .i64 0):=by subst hW5;go_simp
  have k1:W5.cell? ⟨w.heap.size+1,1,none⟩=some (.int .i64 0):=by subst hW5;go_simp
  have k2:W5.cell? ⟨w.heap.size+1,2,none⟩=some (.int .i64 0):=by subst hW5;go_simp
  have k3:W5.cell? ⟨w.heap.size+1,3,none⟩=some (.int .i64 0):=by subst hW5;go_simp
  have k4:W5.cell? ⟨w.heap.size+1,4,none⟩=some (.slice none 0 0):=by subst hW5;go_simp
  clear hW5 z0 z1 z2 z3 z4 f0 f1 f2 f3 f4
  refine bodyPost_ret (v:=.agg #[.int .i64 0,.int .i64 0,.int .i64 0,.int .i64 0,.slice none 0 0]) (by simp[results,Tryz.results172,go_sem, *]) rfl ?_
  exact⟨rfl,n5⟩
def inG (G:Gd) (x z:Int):Bool:=wiB x G.x (G.x+G.w - 1)&&wiB z G.z (G.z+G.d - 1)
def ixG (G:Gd) (x z:Int):Nat:=((z - G.z)*G.w+(x - G.x)).toNat
def atG (G:Gd) (x z:Int):List Fl:=if inG G x z=true then (G.L[ixG G x z]?).getD []else []
theorem inG_iff {G:Gd} {x z:Int}:inG G x z=true↔(G.x≤x∧x≤G.x+G.w - 1)∧(G.z≤z∧z≤G.z+G.d - 1):=by
 unfold inG
 simp only[Bool.and_eq_true,wiB_iff]
theorem ixG_is {G:Gd} (hE:gE G=0) {x z:Int} (h:inG G x z=true):0≤(z - G.z)*G.w∧(z - G.z)*G.w≤4096∧(ixG G x z:Int)=(z - G.z)*G.w+(x - G.x)∧ixG G x z<G.L.length:=by
 obtain⟨hp,hl,-⟩:=gd_is hE
 have hb:=placeB_iff.1 hp
 have hi:=inG_iff.1 h
 have h1:0≤(z - G.z)*G.w:=Int.mul_nonneg (by omega) (by omega)
 have h2:(z - G.z)*G.w≤(G.d - 1)*G.w:=Int.mul_le_mul_of_nonneg_right (by omega) (by omega)
 have h3:(G.d - 1)*G.w=G.w*G.d - G.w:=by rw[Int.sub_mul,Int.one_mul,Int.mul_comm]
 have h4:=mul_64 (show 0≤G.w by omega) (show G.w≤64 by omega) (show 0≤G.d by omega) (show G.d≤64 by omega)
 have h5:(ixG G x z:Int)=(z - G.z)*G.w+(x - G.x):=by unfold ixG;omega
 exact⟨h1,by omega,h5,by omega⟩
theorem atG_in {G:Gd} (hE:gE G=0) {x z:Int} (h:inG G x z=true):atG G x z=G.L[ixG G x z]'(ixG_is hE h).2.2.2:=by
 unfold atG
 rw[if_pos h,List.getElem?_eq_getElem (ixG_is hE h).2.2.2]
 rfl
theorem atG_out {G:Gd} {x z:Int} (h:inG G x z=false):atG G x z=[]:=by unfold atG;rw[if_neg (by rw[h];simp)]
theorem atG_len {G:Gd} (hE:gE G=0) (x z:Int):(atG G x z).length≤8:=by
 cases h:inG G x z
 ·rw[atG_out h];simp
 ·rw[atG_in hE h]
  exact riseB_len ((gd_is hE).2.2 _ _)
theorem og_at0 (G:Gd) (hE:gE G=0) (x z:Int) (w0 w:World) (hn0:New w0 w) (h:G.ok w0):Calls Tryz.prog 209 #[.agg #[.int .i64 G.x,.int .i64 G.z,.int .i64 G.w,.int .i64 G.d,.slice G.ga G.L.length G.gc],.int .i64 x,.int .i64 z] w fun e w'=>∃ v,e=.returned v∧Sl Fl.enc 3 w0 v (atG G x z)∧New w w':=by
 have KW:=Lib.hid (fun n lo hi W=>og_within n lo hi W)
 have HH:Hid (RowsK Fl.enc 3 w0 (.slice G.ga G.L.length G.gc) G.L):=Lib.hid h
 have hb:=placeB_iff.1 (gd_is hE).1
 have K1:=fun W=>KW.out x G.x (G.x+G.w - 1) W
 have K2:=fun W=>KW.out z G.z (G.z+G.d - 1) W
 have hxa:IntKind.i64.wrap (G.x+G.w)=G.x+G.w:=IntWalk.i64_in _ (by omega)
 have hxb:IntKind.i64.wrap (G.x+G.w - 1)=G.x+G.w - 1:=IntWalk.i64_in _ (by omega)
 have hza:IntKind.i64.wrap (G.z+G.d)=G.z+G.d:=IntWalk.i64_in _ (by omega)
 have hzb:IntKind.i64.wrap (G.z+G.d - 1)=G.z+G.d - 1:=IntWalk.i64_in _ (by omega)
 have hin:inG G x z=(wiB x G.x (G.x+G.w - 1)&&wiB z G.z (G.z+G.d - 1)):=rfl
 have HI:=Lib.hid (fun q=>(ixG_is hE (x:=x) (z:=z) q:_))
 have HQ:=Lib.hid (fun q=>(inG_iff (G:=G) (x:=x) (z:=z)).1 q)
 have HB:=Lib.hid hb
 obtain⟨n,hn⟩:∃ n,n=G.L.length:=⟨_,rfl⟩
 rw[←hn]at HH ⊢
 have HN:=Lib.hid hn
 obtain⟨ga,hga⟩:∃ q,q=G.ga:=⟨_,rfl⟩
 rw[←hga]at HH ⊢
 clear hn h KW hb hga
 cases h1:wiB x G.x (G.x+G.w - 1)
 ·have HO:Hid (atG G x z=[]):=Lib.hid (atG_out (by rw[hin,h1];rfl))
  rw[h1]at K1
  clear hin h1
  go_enter Tryz.func209,Tryz.ntmps209
  go_wp2_with fail
  refine(K1 _).mono ?_
  rintro e w2 ⟨rfl,rfl⟩
  go_wp2_with fail
  go_ret
  exact⟨_,rfl,by rw[HO.out];exact Sl.nil,by exact nw⟩
 cases h2:wiB z G.z (G.z+G.d - 1)
 ·have HO:Hid (atG G x z=[]):=Lib.hid (atG_out (by rw[hin,h1,h2];rfl))
  rw[h1]at K1
  rw[h2]at K2
  clear hin h1 h2
  go_enter Tryz.func209,Tryz.ntmps209
  go_wp2_with fail
  refine(K1 _).mono ?_
  rintro e w2 ⟨rfl,rfl⟩
  go_wp2_with fail
  refine(K2 _).mono ?_
  rintro e w2 ⟨rfl,rfl⟩
  go_wp2_with fail
  go_ret
  exact⟨_,rfl,by rw[HO.out];exact Sl.nil,by exact nw⟩
 have hq:inG G x z=true:=by rw[hin,h1,h2];rfl
 have HO:=Lib.hid (atG_in hE hq)
 rw[h1]at K1
 rw[h2]at K2
 clear hin h1 h2
 obtain⟨i1,i2,i3,i4⟩:=HI.out hq
 have hr:=HQ.out hq
 have hb:=HB.out
 have hs1:IntKind.i64.wrap (z - G.z)=z - G.z:=IntWalk.i64_in _ (by omega)
 have hs2:IntKind.i64.wrap ((z - G.z)*G.w)=(z - G.z)*G.w:=IntWalk.i64_in _ (by omega)
 have hs3:IntKind.i64.wrap ((z - G.z)*G.w+x)=(z - G.z)*G.w+x:=IntWalk.i64_in _ (by omega)
 have hs4:IntKind.i64.wrap ((z - G.z)*G.w+x - G.x)=(ixG G x z:Int):=by rw[IntWalk.i64_in _ (by omega)];omega
 obtain⟨b,off,a,c,rfl,hc,hs⟩:=HH.out.at (ixG G x z) i4
 have hkn:ixG G x z<n:=by rw[HN.out];exact i4
 have hO:=HO.out
 obtain⟨l,hl⟩:∃ l,l=G.L[ixG G x z]:=⟨_,rfl⟩
 rw[←hl]at hc hs hO
 have HS:=Lib.hid hs
 replace hc:=hn0.keep hc
 have hbz:b<w.heap.size:=World.block_lt_of_cell? _ _ hc
 have HO2:=Lib.hid hO
 obtain⟨m,hm⟩:∃ m,m=l.length:=⟨_,rfl⟩
 rw[←hm]at hc HS
 clear hl hs hO HO HI HQ HB i1 i2 i3 i4 hr hb hq HH hm
 generalize ixG G x z=k at *
 go_enter Tryz.func209,Tryz.ntmps209
 go_wp2_with fail
 refine(K1 _).mono ?_
 rintro e w2 ⟨rfl,rfl⟩
 go_wp2_with fail
 refine(K2 _).mono ?_
 rintro e w2 ⟨rfl,rfl⟩
 go_wp2_with fail
 go_ret
 exact⟨_,rfl,by rw[HO2.out];exact HS.out,by exact nw⟩
end Go.Proofs.YtmhghnbgllaihaaGreatDoor
