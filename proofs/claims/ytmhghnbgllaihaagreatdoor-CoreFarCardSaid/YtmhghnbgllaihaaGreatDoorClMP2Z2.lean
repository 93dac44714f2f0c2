import Derived.Test.YtmhghnbgllaihaaGreatDoorRaEP2Z2
set_option linter.unusedVariables false
set_option maxHeartbeats 16000000
set_option maxRecDepth 100000

namespace Go.Proofs.YtmhghnbgllaihaaGreatDoor
open Go.RowKit
theorem k_gatherA (v:Value) (l:List Co) (x z:Int) (g:Nat) (L:List (Int×Int)) (f:Int×Int→Option Co) (tb:Nat) (w:World) (base:Nat) (hbase:base≤w.heap.size) (hx : -1≤x∧x≤32) (hz : -1≤z∧z≤32) (hl:l.length≤1000) (hL:L.length=4)
  (hown:w.ownsRow base 267 4 v l.length (l.flatMap Co.enc)) (hrow:RowAt La.enc 2 w g 0 L) (htyp:Typ w g 312) (hok:∀ b∈L,∀ c,f b=some c→Okc c)
  (hgive:∀ b∈L,∀ W,Ex w W→Calls Tryz.prog 268 #[.agg #[.int .i64 b.1,.int .i64 b.2],.pointer (some ⟨tb,0,none⟩)] W fun e w'=>e=.returned (.tuple #[.agg #[.int .i64 ((f b).elim 0 Co.x),.int .i64 ((f b).elim 0 Co.z),.int .i64 ((f b).elim 0 Co.y),.int .i64 ((f b).elim 0 Co.d)],.bool (f b).isSome])∧New W w') :
  Calls Tryz.prog 266 #[v,.agg #[.int .i64 x,.int .i64 z],.slice (some ⟨g,0,none⟩) 4 4,.func (.func 268) #[] #[.pointer (some ⟨tb,0,none⟩)]] w fun e w'=>∃ v',e=.returned v'∧Gat w base w' v' (l++gat x z f L):=by
 obtain⟨i0,hi,hz0,hz1,hz2⟩:=info_parts co_info
 have HI:=Lib.hid hi
 have HZ0:=Lib.hid hz0
 have HZ1:=Lib.hid hz1
 have HZ2:=Lib.hid hz2
 have HL:=Lib.hid hL
 have HG:=Lib.hid hgive
 have HO:=Lib.hid hok
 have HR:=Lib.hid hrow
 have HT:=Lib.hid htyp
 have HW:=Lib.hid hown
 clear hi hz0 hz1 hz2 hL hgive hok hrow htyp hown
 go_enter Tryz.func266,Tryz.ntmps266
 go_wp2_with fail
 refine Code.at (fun W0 hW=>?_)
 have n0:New w W0:=by subst hW;exact nw
 have k0:W0.cell? ⟨w.heap.size,0,none⟩=some (.int .i64 x):=by subst hW;go_simp
 have k1:W0.cell? ⟨w.heap.size,1,none⟩=some (.int .i64 z):=by subst hW;go_simp
 have HK:Hid (Typ W0 w.heap.size 312):=by subst hW;exact Lib.hid (Typ.made _ _ _)
 clear hW
 have HA:Hid (Gat w base W0 v l):=Lib.hid ⟨Ex.of_new n0,(Past.refl _ _).new n0,own_new HW.out n0⟩
 have HC:Hid (W0.cell? ⟨w.heap.size,0,none⟩=some (.int .i64 x)∧W0.cell? ⟨w.heap.size,1,none⟩=some (.int .i64 z)):=Lib.hid ⟨k0,k1⟩
 have HN:=Lib.hid n0
 have HQ:Hid (l++gat x z f (L.take 0)=l):=Lib.hid (by simp[gat])
 clear k0 k1 HW n0
 go_loopg [0,15] 4 (fun gk s0 s15 wr=>∃ (j:Nat) (v':Value) (m:List Co),v'=s0∧s15=.int .i64 j∧j≤4∧4 - j≤gk∧m.length≤l.length+j∧Hid (m=l++gat x z f (L.take j))∧Hid (Gat w base wr v' m)∧Hid (Ex W0 wr))
 case atStart=>exact⟨0,v,l,rfl,rfl,by omega,by omega,by omega,Lib.hid HQ.out.symm,HA,Lib.hid (Ex.refl _)⟩
 case round =>
  obtain⟨j,v',m,rfl,rfl,hj,hgk,hm,HM,HA,HE⟩:=hrel
  by_cases hlt:j<4
  ·have hjl:j<L.length:=by rw[HL.out];exact hlt
   have hbj:L[j]∈L:=List.getElem_mem hjl
   have hsn:gat x z f (L.take (j+1))=gat x z f (L.take j)++((f L[j]).filter (holdsB x z)).toList:=by
    rw[List.take_succ_eq_append_getElem hjl]
    unfold gat
    rw[List.filterMap_append]
    congr 1
   have HSN:=Lib.hid hsn
   clear hsn
   have k0:=HE.out.cell HK.out (by decide) HC.out.1
   have k1:=HE.out.cell HK.out (by decide) HC.out.2
   have hrow:=HA.out.ex.rows HT.out (by decide) HR.out
   have r0:wr.cell? ⟨g,j*2,none⟩=some (.int .i64 L[j].1):=by have:=hrow j hjl 0 (by show 0<2;omega);simp only[Nat.zero_add]at this;exact this
   have r1:wr.cell? ⟨g,j*2+1,none⟩=some (.int .i64 L[j].2):=by have:=hrow j hjl 1 (by show 1<2;omega);simp only[Nat.zero_add]at this;exact this
   have zg:g<wr.heap.size:=World.block_lt_of_cell? _ _ r0
   have zk:w.heap.size<wr.heap.size:=World.block_lt_of_cell? _ _ k0
   clear hrow
   have GV:=Lib.hid (fun W (h:Ex w W)=>HG.out L[j] hbj W h)
   cases hf:f L[j]with
   | none =>
    rw[hf]at GV
    have HN2:Hid (m=l++gat x z f (L.take (j+1))):=Lib.hid (by rw[HSN.out,hf,HM.out];simp)
    clear hf HSN HM
    go_wp2_with fail
    refine Calls.at (fun V hV=>?_)
    have n1:New wr V:=by subst hV;exact nw
    clear hV
    refine(GV.out V (HA.out.ex.new n1)).mono ?_
    rintro e W2 ⟨rfl,n2⟩
    replace n1:=n1.trans n2
    clear n2 GV k0 k1 r0 r1
    simp only[Option.elim_none,Option.isSome_none]
    go_wp2_with fail
    go_roundg (4 - (j+1))
    case measure=>omega
    case rel=>exact⟨j+1,_,m,rfl,by go_num,by omega,by omega,by omega,HN2,Lib.hid (HA.out.new (by exact nw)),Lib.hid (HE.out.new (by exact nw))⟩
   | some c =>
    rw[hf]at GV
    have hco:=HO.out L[j] hbj c hf
    have KH:=fun W=>k_holds x z c W hco hx hz
    cases hh:holdsB x z c with
    | false =>
     rw[hh]at KH
     replace KH:=Lib.hid KH
     have HN2:Hid (m=l++gat x z f (L.take (j+1))):=Lib.hid (by rw[HSN.out,hf,HM.out];simp[Option.filter,hh])
     clear hf HSN HM hh hco
     go_wp2_with fail
     refine Calls.at (fun V hV=>?_)
     have n1:New wr V:=by subst hV;exact nw
     clear hV
     refine(GV.out V (HA.out.ex.new n1)).mono ?_
     rintro e W2 ⟨rfl,n2⟩
     replace n1:=n1.trans n2
     replace k0:=n1.keep k0
     replace k1:=n1.keep k1
     clear n2 GV r0 r1
     simp only[Option.elim_some,Option.isSome_some]
     have z2:=n1.size
     have zk2:w.heap.size<W2.heap.size:=World.block_lt_of_cell? _ _ k0
     go_wp2_with fail
     refine Calls.at (fun V hV=>?_)
     have n3:New W2 V:=by subst hV;exact nw
     clear hV
     refine(KH.out V).mono ?_
     rintro e W3 ⟨rfl,n4⟩
     replace n1:=(n1.trans n3).trans n4
     clear n3 n4 KH k0 k1
     go_wp2_with fail
     go_roundg (4 - (j+1))
     case measure=>omega
     case rel=>exact⟨j+1,_,m,rfl,by go_num,by omega,by omega,by omega,HN2,Lib.hid (HA.out.new (by exact nw)),Lib.hid (HE.out.new (by exact nw))⟩
    | true =>
     rw[hh]at KH
     replace KH:=Lib.hid KH
     have HN2:Hid (m++[c]=l++gat x z f (L.take (j+1))):=Lib.hid (by rw[HSN.out,hf,HM.out];simp[Option.filter,hh])
     clear hf HSN HM hh hco
     go_wp2_with fail
     refine Calls.at (fun V hV=>?_)
     have n1:New wr V:=by subst hV;exact nw
     clear hV
     refine(GV.out V (HA.out.ex.new n1)).mono ?_
     rintro e W2 ⟨rfl,n2⟩
     replace n1:=n1.trans n2
     replace k0:=n1.keep k0
     replace k1:=n1.keep k1
     clear n2 GV r0 r1
     simp only[Option.elim_some,Option.isSome_some]
     have z2:=n1.size
     have zk2:w.heap.size<W2.heap.size:=World.block_lt_of_cell? _ _ k0
     go_wp2_with fail
     refine Calls.at (fun V hV=>?_)
     have n3:New W2 V:=by subst hV;exact nw
     have p0:V.cell? ⟨W2.heap.size,0,none⟩=some (.int .i64 c.x):=by subst hV;go_simp
     have p1:V.cell? ⟨W2.heap.size,1,none⟩=some (.int .i64 c.z):=by subst hV;go_simp
     have p2:V.cell? ⟨W2.heap.size,2,none⟩=some (.int .i64 c.y):=by subst hV;go_simp
     have p3:V.cell? ⟨W2.heap.size,3,none⟩=some (.int .i64 c.d):=by subst hV;go_simp
     clear hV
     refine(KH.out V).mono ?_
     rintro e W3 ⟨rfl,n4⟩
     replace n1:=(n1.trans n3).trans n4
     replace p0:=n4.keep p0
     replace p1:=n4.keep p1
     replace p2:=n4.keep p2
     replace p3:=n4.keep p3
     clear n3 n4 KH k0 k1
     have HA3:Hid (Gat w base W3 v' m):=Lib.hid (HA.out.new n1)
     have HE3:Hid (Ex W0 W3):=Lib.hid (HE.out.new n1)
     have hbw:base≤W3.heap.size:=by have:=n1.size;omega
     clear HA HE n1 z2 zg zk zk2
     go_wp2_with (at_builtin;refine wpList_append_own _ rfl _ _ 262 rfl base 267 i0 (.agg #[.int .i64 0,.int .i64 0,.int .i64 0,.int .i64 0]) 4 32 Tryz.underlying262 HI.out HZ0.out HZ1.out HZ2.out rfl (by decide) _ m.length (m.flatMap Co.enc) rfl (World.ownsRow.alloc HA3.out.own _) ⟨W3.heap.size,0,none⟩ 1 1 c.enc rfl rfl (co_new _ _ _) (Co.enc_one c) (by unfold maxLen;omega) (by omega) (by simp;omega) ?_)
     intro v2 W4 ho hg _
     have n5:New W3 (W3.alloc (.cells #[.int .i64 c.x,.int .i64 c.z,.int .i64 c.y,.int .i64 c.d] 267)):=by exact nw
     have HA4:Hid (Gat w base W4 v2 (m++[c])):=Lib.hid ((HA3.out.new n5).more ho hg)
     have HE4:Hid (Ex W0 W4):=Lib.hid ((HE3.out.new n5).trans (Ex.grown (own_new HA3.out.own n5) hg))
     clear ho hg HA3 HE3 p0 p1 p2 p3 n5
     go_wp2_with fail
     go_roundg (4 - (j+1))
     case measure=>omega
     case rel=>exact⟨j+1,v2,m++[c],rfl,by go_num,by omega,by omega,by rw[List.length_append];simp;omega,HN2,HA4,HE4⟩
  ·have e:j=4:=by omega
   subst e
   have HN2:Hid (m=l++gat x z f L):=Lib.hid (by rw[HM.out,List.take_of_length_le (by rw[HL.out];exact Nat.le_refl _)])
   clear HM
   go_wp2_with fail
   go_ret
   exact⟨_,rfl,by rw[←HN2.out];exact HA.out⟩
theorem k_gatherB (v:Value) (l:List Co) (x z:Int) (g:Nat) (L:List (Ln)) (f:Ln→Option Co) (s:Sd) (w:World) (base:Nat) (hbase:base≤w.heap.size) (hx : -1≤x∧x≤32) (hz : -1≤z∧z≤32) (hl:l.length≤1000) (hL:L.length=4)
  (hown:w.ownsRow base 267 4 v l.length (l.flatMap Co.enc)) (hrow:RowAt Ln.enc 3 w g 0 L) (htyp:Typ w g 340) (hok:∀ b∈L,∀ c,f b=some c→Okc c)
  (hgive:∀ b∈L,∀ W,Ex w W→Calls Tryz.prog 272 #[.agg #[.int .i64 s.ax,.int .i64 s.ay,.int .i64 s.az,.int .i64 s.bx,.int .i64 s.by',.int .i64 s.bz],.agg #[.int .i64 b.bx,.int .i64 b.bz,.int .i64 b.at']] W fun e w'=>e=.returned (.tuple #[.agg #[.int .i64 ((f b).elim 0 Co.x),.int .i64 ((f b).elim 0 Co.z),.int .i64 ((f b).elim 0 Co.y),.int .i64 ((f b).elim 0 Co.d)],.bool (f b).isSome])∧New W w') :
  Calls Tryz.prog 270 #[v,.agg #[.int .i64 x,.int .i64 z],.slice (some ⟨g,0,none⟩) 4 4,.func (.func 272) #[.agg #[.int .i64 s.ax,.int .i64 s.ay,.int .i64 s.az,.int .i64 s.bx,.int .i64 s.by',.int .i64 s.bz]] #[]] w fun e w'=>∃ v',e=.returned v'∧Gat w base w' v' (l++gat x z f L):=by
 obtain⟨i0,hi,hz0,hz1,hz2⟩:=info_parts co_info
 have HI:=Lib.hid hi
 have HZ0:=Lib.hid hz0
 have HZ1:=Lib.hid hz1
 have HZ2:=Lib.hid hz2
 have HL:=Lib.hid hL
 have HG:=Lib.hid hgive
 have HO:=Lib.hid hok
 have HR:=Lib.hid hrow
 have HT:=Lib.hid htyp
 have HW:=Lib.hid hown
 clear hi hz0 hz1 hz2 hL hgive hok hrow htyp hown
 go_enter Tryz.func270,Tryz.ntmps270
 go_wp2_with fail
 refine Code.at (fun W0 hW=>?_)
 have n0:New w W0:=by subst hW;exact nw
 have k0:W0.cell? ⟨w.heap.size,0,none⟩=some (.int .i64 x):=by subst hW;go_simp
 have k1:W0.cell? ⟨w.heap.size,1,none⟩=some (.int .i64 z):=by subst hW;go_simp
 have HK:Hid (Typ W0 w.heap.size 312):=by subst hW;exact Lib.hid (Typ.made _ _ _)
 clear hW
 have HA:Hid (Gat w base W0 v l):=Lib.hid ⟨Ex.of_new n0,(Past.refl _ _).new n0,own_new HW.out n0⟩
 have HC:Hid (W0.cell? ⟨w.heap.size,0,none⟩=some (.int .i64 x)∧W0.cell? ⟨w.heap.size,1,none⟩=some (.int .i64 z)):=Lib.hid ⟨k0,k1⟩
 have HN:=Lib.hid n0
 have HQ:Hid (l++gat x z f (L.take 0)=l):=Lib.hid (by simp[gat])
 clear k0 k1 HW n0
 go_loopg [0,15] 4 (fun gk s0 s15 wr=>∃ (j:Nat) (v':Value) (m:List Co),v'=s0∧s15=.int .i64 j∧j≤4∧4 - j≤gk∧m.length≤l.length+j∧Hid (m=l++gat x z f (L.take j))∧Hid (Gat w base wr v' m)∧Hid (Ex W0 wr))
 case atStart=>exact⟨0,v,l,rfl,rfl,by omega,by omega,by omega,Lib.hid HQ.out.symm,HA,Lib.hid (Ex.refl _)⟩
 case round =>
  obtain⟨j,v',m,rfl,rfl,hj,hgk,hm,HM,HA,HE⟩:=hrel
  by_cases hlt:j<4
  ·have hjl:j<L.length:=by rw[HL.out];exact hlt
   have hbj:L[j]∈L:=List.getElem_mem hjl
   have hsn:gat x z f (L.take (j+1))=gat x z f (L.take j)++((f L[j]).filter (holdsB x z)).toList:=by
    rw[List.take_succ_eq_append_getElem hjl]
    unfold gat
    rw[List.filterMap_append]
    congr 1
   have HSN:=Lib.hid hsn
   clear hsn
   have k0:=HE.out.cell HK.out (by decide) HC.out.1
   have k1:=HE.out.cell HK.out (by decide) HC.out.2
   have hrow:=HA.out.ex.rows HT.out (by decide) HR.out
   have r0:wr.cell? ⟨g,j*3,none⟩=some (.int .i64 L[j].bx):=by have:=hrow j hjl 0 (by show 0<3;omega);simp only[Nat.zero_add]at this;exact this
   have r1:wr.cell? ⟨g,j*3+1,none⟩=some (.int .i64 L[j].bz):=by have:=hrow j hjl 1 (by show 1<3;omega);simp only[Nat.zero_add]at this;exact this
   have r2:wr.cell? ⟨g,j*3+2,none⟩=some (.int .i64 L[j].at'):=by have:=hrow j hjl 2 (by show 2<3;omega);simp only[Nat.zero_add]at this;exact this
   have zg:g<wr.heap.size:=World.block_lt_of_cell? _ _ r0
   have zk:w.heap.size<wr.heap.size:=World.block_lt_of_cell? _ _ k0
   clear hrow
   have GV:=Lib.hid (fun W (h:Ex w W)=>HG.out L[j] hbj W h)
   cases hf:f L[j]with
   | none =>
    rw[hf]at GV
    have HN2:Hid (m=l++gat x z f (L.take (j+1))):=Lib.hid (by rw[HSN.out,hf,HM.out];simp)
    clear hf HSN HM
    go_wp2_with fail
    refine Calls.at (fun V hV=>?_)
    have n1:New wr V:=by subst hV;exact nw
    clear hV
    refine(GV.out V (HA.out.ex.new n1)).mono ?_
    rintro e W2 ⟨rfl,n2⟩
    replace n1:=n1.trans n2
    clear n2 GV k0 k1 r0 r1 r2
    simp only[Option.elim_none,Option.isSome_none]
    go_wp2_with fail
    go_roundg (4 - (j+1))
    case measure=>omega
    case rel=>exact⟨j+1,_,m,rfl,by go_num,by omega,by omega,by omega,HN2,Lib.hid (HA.out.new (by exact nw)),Lib.hid (HE.out.new (by exact nw))⟩
   | some c =>
    rw[hf]at GV
    have hco:=HO.out L[j] hbj c hf
    have KH:=fun W=>k_holds x z c W hco hx hz
    cases hh:holdsB x z c with
    | false =>
     rw[hh]at KH
     replace KH:=Lib.hid KH
     have HN2:Hid (m=l++gat x z f (L.take (j+1))):=Lib.hid (by rw[HSN.out,hf,HM.out];simp[Option.filter,hh])
     clear hf HSN HM hh hco
     go_wp2_with fail
     refine Calls.at (fun V hV=>?_)
     have n1:New wr V:=by subst hV;exact nw
     clear hV
     refine(GV.out V (HA.out.ex.new n1)).mono ?_
     rintro e W2 ⟨rfl,n2⟩
     replace n1:=n1.trans n2
     replace k0:=n1.keep k0
     replace k1:=n1.keep k1
     clear n2 GV r0 r1 r2
     simp only[Option.elim_some,Option.isSome_some]
     have z2:=n1.size
     have zk2:w.heap.size<W2.heap.size:=World.block_lt_of_cell? _ _ k0
     go_wp2_with fail
     refine Calls.at (fun V hV=>?_)
     have n3:New W2 V:=by subst hV;exact nw
     clear hV
     refine(KH.out V).mono ?_
     rintro e W3 ⟨rfl,n4⟩
     replace n1:=(n1.trans n3).trans n4
     clear n3 n4 KH k0 k1
     go_wp2_with fail
     go_roundg (4 - (j+1))
     case measure=>omega
     case rel=>exact⟨j+1,_,m,rfl,by go_num,by omega,by omega,by omega,HN2,Lib.hid (HA.out.new (by exact nw)),Lib.hid (HE.out.new (by exact nw))⟩
    | true =>
     rw[hh]at KH
     replace KH:=Lib.hid KH
     have HN2:Hid (m++[c]=l++gat x z f (L.take (j+1))):=Lib.hid (by rw[HSN.out,hf,HM.out];simp[Option.filter,hh])
     clear hf HSN HM hh hco
     go_wp2_with fail
     refine Calls.at (fun V hV=>?_)
     have n1:New wr V:=by subst hV;exact nw
     clear hV
     refine(GV.out V (HA.out.ex.new n1)).mono ?_
     rintro e W2 ⟨rfl,n2⟩
     replace n1:=n1.trans n2
     replace k0:=n1.keep k0
     replace k1:=n1.keep k1
     clear n2 GV r0 r1 r2
     simp only[Option.elim_some,Option.isSome_some]
     have z2:=n1.size
     have zk2:w.heap.size<W2.heap.size:=World.block_lt_of_cell? _ _ k0
     go_wp2_with fail
     refine Calls.at (fun V hV=>?_)
     have n3:New W2 V:=by subst hV;exact nw
     have p0:V.cell? ⟨W2.heap.size,0,none⟩=some (.int .i64 c.x):=by subst hV;go_simp
     have p1:V.cell? ⟨W2.heap.size,1,none⟩=some (.int .i64 c.z):=by subst hV;go_simp
     have p2:V.cell? ⟨W2.heap.size,2,none⟩=some (.int .i64 c.y):=by subst hV;go_simp
     have p3:V.cell? ⟨W2.heap.size,3,none⟩=some (.int .i64 c.d):=by subst hV;go_simp
     clear hV
     refine(KH.out V).mono ?_
     rintro e W3 ⟨rfl,n4⟩
     replace n1:=(n1.trans n3).trans n4
     replace p0:=n4.keep p0
     replace p1:=n4.keep p1
     replace p2:=n4.keep p2
     replace p3:=n4.keep p3
     clear n3 n4 KH k0 k1
     have HA3:Hid (Gat w base W3 v' m):=Lib.hid (HA.out.new n1)
     have HE3:Hid (Ex W0 W3):=Lib.hid (HE.out.new n1)
     have hbw:base≤W3.heap.size:=by have:=n1.size;omega
     clear HA HE n1 z2 zg zk zk2
     go_wp2_with (at_builtin;refine wpList_append_own _ rfl _ _ 262 rfl base 267 i0 (.agg #[.int .i64 0,.int .i64 0,.int .i64 0,.int .i64 0]) 4 32 Tryz.underlying262 HI.out HZ0.out HZ1.out HZ2.out rfl (by decide) _ m.length (m.flatMap Co.enc) rfl (World.ownsRow.alloc HA3.out.own _) ⟨W3.heap.size,0,none⟩ 1 1 c.enc rfl rfl (co_new _ _ _) (Co.enc_one c) (by unfold maxLen;omega) (by omega) (by simp;omega) ?_)
     intro v2 W4 ho hg _
     have n5:New W3 (W3.alloc (.cells #[.int .i64 c.x,.int .i64 c.z,.int .i64 c.y,.int .i64 c.d] 267)):=by exact nw
     have HA4:Hid (Gat w base W4 v2 (m++[c])):=Lib.hid ((HA3.out.new n5).more ho hg)
     have HE4:Hid (Ex W0 W4):=Lib.hid ((HE3.out.new n5).trans (Ex.grown (own_new HA3.out.own n5) hg))
     clear ho hg HA3 HE3 p0 p1 p2 p3 n5
     go_wp2_with fail
     go_roundg (4 - (j+1))
     case measure=>omega
     case rel=>exact⟨j+1,v2,m++[c],rfl,by go_num,by omega,by omega,by rw[List.length_append];simp;omega,HN2,HA4,HE4⟩
  ·have e:j=4:=by omega
   subst e
   have HN2:Hid (m=l++gat x z f L):=Lib.hid (by rw[HM.out,List.take_of_length_le (by rw[HL.out];exact Nat.le_refl _)])
   clear HM
   go_wp2_with fail
   go_ret
   exact⟨_,rfl,by rw[←HN2.out];exact HA.out⟩
end Go.Proofs.YtmhghnbgllaihaaGreatDoor
