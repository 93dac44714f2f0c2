import Derived.Test.YtmhghnbgllaihaaGreatDoorOgX0P2Z2
import Derived.Test.YtmhghnbgllaihaaGreatDoorLkGP2Z2
import Derived.Deep.DeepCutAuto
import Derived.Test.YtmhghnbgllaihaaGreatDoorLooseEP2Z2
import Derived.Test.YtmhghnbgllaihaaGreatDoorSoLSP2Z2
import Derived.Maps.OwnSet
import Derived.Maps.Views
import Derived.Maps.AppendAt
import Derived.DeepKeys4
import Derived.WalkMore
set_option linter.unusedVariables false
set_option maxHeartbeats 16000000
set_option maxRecDepth 100000

namespace Go.Proofs.YtmhghnbgllaihaaGreatDoor
open Go.RowKit
theorem fd_to (N:Net) (la:Option Addr) (lc:Nat) (s:Sp) (hs:SpIn N.M s) (d:Int) (hd:okD d=true) (w0 w:World) (hn0:New w0 w) (h:RowsK Lnk.enc 4 w0 (.slice la N.M.length lc) N.M) (hD:Dirs w):Calls Tryz.prog 215 #[.agg #[.int .i64 ((N.W:Nat):Int),.slice la N.M.length lc],.agg #[.int .i64 ((s.c:Nat):Int),.int .i64 ((s.k:Nat):Int)],.int .i64 d] w fun e w'=>e=.returned (.tuple #[.agg #[.int .i64 (((spO (N.go s d)).c:Nat):Int),.int .i64 (((spO (N.go s d)).k:Nat):Int)],.bool (N.go s d).isSome])∧New w w':=by
 have KS:=Lib.hid (fun W (q:New w W)=>lk_Step d W (hD.new q))
 unfold stV at KS
 rw[hd]at KS
 have hs1:s.c<N.M.length:=hs.1
 obtain⟨b,off,a,c,rfl,hc,hsl⟩:=(h.keep hn0).at s.c hs.1
 obtain⟨-,-,-,-,hrow⟩:=hsl.row'
 have hcol:=colM_at hs.1
 have hk:s.k<N.M[s.c].length:=by rw[←hcol];exact hs.2
 obtain⟨b2,o2,rfl,hA⟩:=hrow (by omega)
 obtain⟨e0,e1,e2,e3⟩:=Lnk.cells hA s.k hk
 have hx:=N.is s hs d hd
 have hat:=Lib.hid (fun t q=>N.lead s hs d t q)
 have hsm:=N.small hs
 have hx2:N.M[s.c][s.k]=(colM N.M s.c)[s.k]'hs.2:=by simp only[hcol]
 rw[hx2]at e0 e1 e2 e3
 clear hx2 hA hrow
 generalize (colM N.M s.c)[s.k]'hs.2=x at *
 obtain⟨m,hm⟩:∃ m,m=N.M[s.c].length:=⟨_,rfl⟩
 rw[←hm]at hc hk
 have hN1:N.W≤64:=N.wle
 have hN2:=N.len
 have hN3:=hs.1
 obtain⟨o,ho⟩:∃ o,o=N.go s d:=⟨_,rfl⟩
 rw[←ho]at hx hat ⊢
 obtain⟨W,hW⟩:∃ W,W=N.W:=⟨_,rfl⟩
 rw[←hW]at hat hN1 ⊢
 obtain⟨n,hn⟩:∃ n,n=N.M.length:=⟨_,rfl⟩
 rw[←hn]at hN2 hN3 ⊢
 clear ho hW hn hm hsl h hn0 hD hs hcol hs1
 obtain⟨sc,sk⟩:=s
 simp only at *
 have hd1:=dxD_small d
 have hd2:=dzD_small d
 obtain⟨l,hl⟩:∃ l,l=lkD x d:=⟨_,rfl⟩
 have hcell:w.cell? ⟨b2,o2+sk*4+d.toNat,none⟩=some (.int .i64 l):=by
  rcases okD_cases hd with rfl|rfl|rfl|rfl <;> rw[hl] <;> first|exact e0|exact e1|exact e2|exact e3
 rw[←hl]at hx
 clear hl e0 e1 e2 e3
 have hdr:0≤d∧d≤3:=wiB_iff.1 hd
 obtain⟨dn,rfl⟩:∃ dn:Nat,d=dn:=⟨d.toNat,by omega⟩
 simp only[Int.toNat_natCast]at hcell
 go_enter Tryz.func215,Tryz.ntmps215
 go_upto_region 1 with fail
 refine Code.at (fun W1 hW=>?_)
 have n0:New w W1:=by subst hW;exact nw
 have HG:Hid (GnAt W (.slice (some ⟨b,off,none⟩) n lc) W1 w.heap.size):=Lib.hid (by subst hW;exact⟨by go_simp,by go_simp⟩)
 have HS:Hid (SpAt ⟨sc,sk⟩ W1 (w.heap.size+1)):=Lib.hid (by subst hW;exact⟨by go_simp,by go_simp⟩)
 have HZ:Hid (Res2 W1 (w.heap.size+1+1)):=Lib.hid (by subst hW;exact⟨by go_simp,by go_simp,by go_simp,by go_simp⟩)
 clear hW
 replace hc:=n0.keep hc
 replace hcell:=n0.keep hcell
 obtain⟨g0,g1⟩:=HG.out
 obtain⟨s0,s1⟩:=HS.out
 simp only at s0 s1
 (refine wp_region_hat (by kernel_rfl) (by kernel_rfl) ?_;intro hatc hatf;(repeat(go_big_quiet_step ((fail))));refine wpQuiet_nil ?_;rintro _ ⟨q,rfl⟩)
 replace HG:=Lib.hid (HG.out.new q.h)
 replace HS:=Lib.hid (HS.out.new q.h)
 replace HZ:=Lib.hid (HZ.out.new q.h)
 have N1:=Lib.hid (n0.trans q.h)
 clear hatc hatf s0 s1 g0 g1 hc hcell n0
 generalize q.w=w4 at *
 clear q
 rcases o with _|t
 ·simp only at hx
  subst hx
  obtain⟨z0,z1,f0,f1⟩:=HZ.out
  have n3:=N1.out
  clear KS hat
  go_wp2_with fail
  ((generalize hW5:World.setCell _ _ _=W5);(have n5:New w W5:=(by subst hW5;exact nw));(have k0:W5.cell? ⟨w.heap.size+1+1,0,none⟩=some (.int .i64 0):=(by subst hW5;go_simp));(have k1:W5.cell? ⟨w.heap.size+1+1,1,none⟩=some (.int .i64 0):=(by subst hW5;go_simp));clear hW5 z0 z1 f0 f1;refine bodyPost_ret (v:=.tuple #[.agg #[.int .i64 0,.int .i64 0],.bool false]) (by simp[results,Tryz.results215,go_sem, *]) rfl ?_)
  exact⟨rfl,n5⟩
 ·simp only at hx
  subst hx
  have htc:=(hat.out t rfl).2
  clear hat
  have hlt:decide (((t.k:Nat):Int)<0)=false:=decide_eq_false (by omega)
  go_wp2_with fail
  refine(KS.out _ N1.out).mono ?_
  rintro e w5 ⟨rfl,n5⟩
  replace HG:=HG.out.new n5
  replace HS:=HS.out.new n5
  replace HZ:=HZ.out.new n5
  replace N1:=N1.out.trans n5
  clear n5 KS
  obtain⟨g0,g1⟩:=HG
  obtain⟨s0,s1⟩:=HS
  obtain⟨z0,z1,f0,f1⟩:=HZ
  simp only at s0 s1 htc
  obtain⟨dx,hdx⟩:∃ q,q=dxD ((dn:Nat):Int):=⟨_,rfl⟩
  obtain⟨dz,hdz⟩:∃ q,q=dzD ((dn:Nat):Int):=⟨_,rfl⟩
  rw[←hdx]at hd1 htc
  rw[←hdz]at hd2 htc
  rw[←hdx,←hdz]
  have hm1 : -64≤dz*W∧dz*W≤64:=by
   rcases(show dz = -1∨dz=0∨dz=1 by omega)with rfl|rfl|rfl <;> omega
  have hw1:IntKind.i64.wrap ((sc:Nat)+dx)=sc+dx:=IntWalk.i64_in _ (by omega)
  have hw2:IntKind.i64.wrap (dz*(W:Nat))=dz*W:=IntWalk.i64_in _ (by omega)
  have hw3:IntKind.i64.wrap ((sc:Nat)+dx+dz*(W:Nat))=((t.c:Nat):Int):=by rw[htc];exact IntWalk.i64_in _ (by omega)
  clear hdx hdz hd1 hd2 hm1 htc
  go_wp2_with fail
  ((generalize hW5:World.setCell _ _ _=W5);(have n5:New w W5:=(by subst hW5;exact nw));(have k0:W5.cell? ⟨w.heap.size+1+1,0,none⟩=some (.int .i64 ((t.c:Nat):Int)):=(by subst hW5;go_simp));(have k1:W5.cell? ⟨w.heap.size+1+1,1,none⟩=some (.int .i64 ((t.k:Nat):Int)):=(by subst hW5;go_simp));clear hW5 z0 z1 f0 f1;refine bodyPost_ret (v:=.tuple #[.agg #[.int .i64 ((t.c:Nat):Int),.int .i64 ((t.k:Nat):Int)],.bool true]) (by simp[results,Tryz.results215,go_sem, *]) rfl ?_)
  exact⟨rfl,n5⟩
theorem fd_round (N:Net) (la:Option Addr) (lc:Nat) (s:Sp) (hs:SpIn N.M s) (d d2:Int) (hd:okD d=true) (hd2:okD d2=true) (w0 w:World) (hn0:New w0 w) (h:RowsK Lnk.enc 4 w0 (.slice la N.M.length lc) N.M) (hD:Dirs w) (B0 B1:Nat) (hG:GnAt N.W (.slice la N.M.length lc) w B0) (hS:SpAt s w B1):Calls Tryz.prog 241 #[.int .i64 d,.int .i64 d2,.pointer (some ⟨B0,0,none⟩),.pointer (some ⟨B1,0,none⟩)] w fun e w'=>e=.returned (.tuple #[.agg #[.int .i64 (((spO (rndP N.go s d d2)).c:Nat):Int),.int .i64 (((spO (rndP N.go s d d2)).k:Nat):Int)],.bool (rndP N.go s d d2).isSome])∧New w w':=by
 have K1:=Lib.hid (fun W (q:New w W)=>fd_to N la lc s hs d hd w0 W (hn0.trans q) h (hD.new q))
 have K2:=Lib.hid (fun m (hm:SpIn N.M m) W (q:New w W)=>fd_to N la lc m hm d2 hd2 w0 W (hn0.trans q) h (hD.new q))
 have HG:=Lib.hid (fun W (q:New w W)=>hG.new q)
 have HS:=Lib.hid (fun W (q:New w W)=>hS.new q)
 have hz0:=World.block_lt_of_cell? _ _ hG.c0
 have hz1:=World.block_lt_of_cell? _ _ hS.c0
 simp only[]at hz0 hz1
 obtain⟨r,hr⟩:∃ r,r=rndP N.go s d d2:=⟨_,rfl⟩
 have R1:Hid (N.go s d=none→r=none):=Lib.hid (fun q=>by rw[hr];unfold rndP;rw[q])
 have R2:Hid (∀ m,N.go s d=some m→r=N.go m d2):=Lib.hid (fun m q=>by rw[hr];unfold rndP;rw[q])
 have HI:Hid (∀ m,N.go s d=some m→SpIn N.M m):=Lib.hid (fun m q=>(N.lead s hs d m q).1)
 rw[←hr]
 obtain⟨n,hn⟩:∃ n,n=N.M.length:=⟨_,rfl⟩
 rw[←hn]at K1 K2 HG
 obtain⟨wd,hwd⟩:∃ q,q=N.W:=⟨_,rfl⟩
 rw[←hwd]at K1 K2 HG
 clear hr hn hwd h hD hG hS hd hd2
 obtain⟨o,ho⟩:∃ o,o=N.go s d:=⟨_,rfl⟩
 rw[←ho]at K1 R1 R2 HI
 clear ho
 go_enter Tryz.func241,Tryz.ntmps241
 go_upto_region 1 with fail
 refine Code.at (fun W hW=>?_)
 have n0:New w W:=by subst hW;exact nw
 have HZ:Hid (Res2 W w.heap.size):=Lib.hid (by subst hW;exact⟨by go_simp,by go_simp,by go_simp,by go_simp⟩)
 clear hW
 obtain⟨g0,g1⟩:=HG.out W n0
 obtain⟨s0,s1⟩:=HS.out W n0
 go_wp2_with fail
 refine(K1.out _ n0).mono ?_
 rintro e w1 ⟨rfl,n1⟩
 have N1:=Lib.hid (n0.trans n1)
 replace HZ:=Lib.hid (HZ.out.new n1)
 have hz3:w.heap.size<w1.heap.size:=World.block_lt_of_cell? _ _ HZ.out.c0
 clear n0 n1 K1 s0 s1 g0 g1
 rcases o with _|m
 ·have HR:=Lib.hid (R1.out rfl)
  simp only[Option.isSome_none]
  clear R1 R2 K2 HG HS HI
  go_upto_region 3 with fail
  refine Code.at (fun W2 hW=>?_)
  have n2:New w1 W2:=by subst hW;exact nw
  clear hW
  obtain⟨z0,z1,f0,f1⟩:=HZ.out.new n2
  have n3:=N1.out.trans n2
  go_wp2_with fail
  ((generalize hW5:World.setCell _ _ _=W5);(have n5:New w W5:=(by subst hW5;exact nw));(have k0:W5.cell? ⟨w.heap.size,0,none⟩=some (.int .i64 0):=(by subst hW5;go_simp));(have k1:W5.cell? ⟨w.heap.size,1,none⟩=some (.int .i64 0):=(by subst hW5;go_simp));clear hW5 z0 z1 f0 f1;refine bodyPost_ret (v:=.tuple #[.agg #[.int .i64 0,.int .i64 0],.bool false]) (by simp[results,Tryz.results241,go_sem, *]) rfl ?_)
  rw[HR.out]
  exact⟨rfl,n5⟩
 have HR:=Lib.hid (R2.out m rfl)
 have hmi:=HI.out m rfl
 simp only[Option.isSome_some]
 have hm:spO (some m)=m:=rfl
 rw[hm]
 clear hm R1 R2 HI
 go_upto_region 4 with fail
 refine Code.at (fun W2 hW=>?_)
 have n2:New w1 W2:=by subst hW;exact nw
 have hm0:W2.cell? ⟨w1.heap.size,0,none⟩=some (.int .i64 ((m.c:Nat):Int)):=by subst hW;go_simp
 have hm1:W2.cell? ⟨w1.heap.size,1,none⟩=some (.int .i64 ((m.k:Nat):Int)):=by subst hW;go_simp
 clear hW
 have N2:=Lib.hid (N1.out.trans n2)
 obtain⟨g0,g1⟩:=HG.out W2 N2.out
 replace HZ:=Lib.hid (HZ.out.new n2)
 have K2m:=Lib.hid (K2.out m hmi)
 clear K2 hmi
 go_wp2_with fail
 refine(K2m.out _ N2.out).mono ?_
 rintro e w3 ⟨rfl,n3⟩
 obtain⟨z0,z1,f0,f1⟩:=HZ.out.new n3
 have N3:=N2.out.trans n3
 clear n2 hm0 hm1 n3 g0 g1
 rw[←HR.out]
 obtain⟨v,hv⟩:∃ v,v=spO r:=⟨_,rfl⟩
 obtain⟨b,hb⟩:∃ b,b=r.isSome:=⟨_,rfl⟩
 rw[←hv,←hb]
 have HV:=Lib.hid (And.intro hv hb)
 clear HR hv hb
 go_wp2_with fail
 ((generalize hW5:World.setCell _ _ _=W5);(have n5:New w W5:=(by subst hW5;exact nw));(have k0:W5.cell? ⟨w.heap.size,0,none⟩=some (.int .i64 ((v.c:Nat):Int)):=(by subst hW5;go_simp));(have k1:W5.cell? ⟨w.heap.size,1,none⟩=some (.int .i64 ((v.k:Nat):Int)):=(by subst hW5;go_simp));clear hW5 z0 z1 f0 f1;refine bodyPost_ret (v:=.tuple #[.agg #[.int .i64 ((v.c:Nat):Int),.int .i64 ((v.k:Nat):Int)],.bool b]) (by simp[results,Tryz.results241,go_sem, *]) rfl ?_)
 rw[←HV.out.1,←HV.out.2]
 exact⟨rfl,n5⟩
theorem fd_diagonal (N:Net) (la:Option Addr) (lc:Nat) (s:Sp) (hs:SpIn N.M s) (d d2:Int) (hd:okD d=true) (hd2:okD d2=true) (w0 w:World) (hn0:New w0 w) (h:RowsK Lnk.enc 4 w0 (.slice la N.M.length lc) N.M) (hD:Dirs w):Calls Tryz.prog 216 #[.agg #[.int .i64 ((N.W:Nat):Int),.slice la N.M.length lc],.agg #[.int .i64 ((s.c:Nat):Int),.int .i64 ((s.k:Nat):Int)],.int .i64 d,.int .i64 d2] w fun e w'=>e=.returned (.tuple #[.agg #[.int .i64 (((spO (diaP N.go s d d2)).c:Nat):Int),.int .i64 (((spO (diaP N.go s d d2)).k:Nat):Int)],.bool (diaP N.go s d d2).isSome])∧New w w':=by
 have K11:=Lib.hid (fun W (q:New w W) B0 B1 h1 h2=>fd_round N la lc s hs d d2 hd hd2 w0 W (hn0.trans q) h (hD.new q) B0 B1 h1 h2)
 have K12:=Lib.hid (fun W (q:New w W) B0 B1 h1 h2=>fd_round N la lc s hs d2 d hd2 hd w0 W (hn0.trans q) h (hD.new q) B0 B1 h1 h2)
 obtain⟨r,hr⟩:∃ r,r=diaP N.go s d d2:=⟨_,rfl⟩
 rw[←hr]
 have HR2:Hid (r=bothP (rndP N.go s d d2) (rndP N.go s d2 d)):=Lib.hid hr
 obtain⟨n,hn⟩:∃ n,n=N.M.length:=⟨_,rfl⟩
 rw[←hn]at K11 K12 ⊢
 obtain⟨wd,hwd⟩:∃ q,q=N.W:=⟨_,rfl⟩
 rw[←hwd]at K11 K12 ⊢
 clear hr hn hwd h hD hs hd hd2
 go_enter Tryz.func216,Tryz.ntmps216
 go_upto_region 1 with fail
 refine Code.at (fun W hW=>?_)
 have n0:New w W:=by subst hW;exact nw
 have HG:Hid (GnAt wd (.slice la n lc) W w.heap.size):=Lib.hid (by subst hW;exact⟨by go_simp,by go_simp⟩)
 have HS:Hid (SpAt s W (w.heap.size+1)):=Lib.hid (by subst hW;exact⟨by go_simp,by go_simp⟩)
 have HZ:Hid (Res2 W (w.heap.size+1+1)):=Lib.hid (by subst hW;exact⟨by go_simp,by go_simp,by go_simp,by go_simp⟩)
 clear hW
 generalize rndP N.go s d d2=o1 at *
 generalize rndP N.go s d2 d=o2 at *
 go_wp2_with fail
 refine(K11.out _ n0 _ _ HG.out HS.out).mono ?_
 rintro e w1 ⟨rfl,n1⟩
 have N1:=Lib.hid (n0.trans n1)
 replace HG:=Lib.hid (HG.out.new n1)
 replace HS:=Lib.hid (HS.out.new n1)
 replace HZ:=Lib.hid (HZ.out.new n1)
 clear n0 n1 K11
 go_wp2_with fail
 refine Calls.at (fun W2 hW=>?_)
 have n2:New w1 W2:=by subst hW;exact nw
 have HT:Hid (SpAt (spO o1) W2 w1.heap.size):=Lib.hid (by subst hW;exact⟨by go_simp,by go_simp⟩)
 clear hW
 have N2:=Lib.hid (N1.out.trans n2)
 refine(K12.out _ N2.out _ _ (HG.out.new n2) (HS.out.new n2)).mono ?_
 rintro e w3 ⟨rfl,n3⟩
 replace HZ:=Lib.hid (HZ.out.new (n2.trans n3))
 replace HT:=Lib.hid (HT.out.new n3)
 have N3:=Lib.hid (N2.out.trans n3)
 clear n2 n3 K12 HG HS N1 N2
 go_upto_region 4 with fail
 refine Code.at (fun W4 hW=>?_)
 have n4:New w3 W4:=by subst hW;exact nw
 have HU:Hid (SpAt (spO o2) W4 w3.heap.size):=Lib.hid (by subst hW;exact⟨by go_simp,by go_simp⟩)
 clear hW
 obtain⟨z0,z1,f0,f1⟩:=HZ.out.new n4
 obtain⟨t0,t1⟩:=HT.out.new n4
 obtain⟨u0,u1⟩:=HU.out
 have n3:=N3.out.trans n4
 clear n4 HZ HT HU N3
 rcases o1 with _|t
 ·have HRR:Hid (r=none):=Lib.hid (by rw[HR2.out];rfl)
  simp only[Option.isSome_none]
  clear HR2
  go_wp2_with fail
  ((generalize hW5:World.setCell _ _ _=W5);(have n5:New w W5:=(by subst hW5;exact nw));(have k0:W5.cell? ⟨w.heap.size+1+1,0,none⟩=some (.int .i64 0):=(by subst hW5;go_simp));(have k1:W5.cell? ⟨w.heap.size+1+1,1,none⟩=some (.int .i64 0):=(by subst hW5;go_simp));clear hW5 z0 z1 f0 f1;refine bodyPost_ret (v:=.tuple #[.agg #[.int .i64 0,.int .i64 0],.bool false]) (by simp[results,Tryz.results216,go_sem, *]) rfl ?_)
  rw[HRR.out]
  exact⟨rfl,n5⟩
 rcases o2 with _|u
 ·have HRR:Hid (r=none):=Lib.hid (by rw[HR2.out];rfl)
  simp only[Option.isSome_none,Option.isSome_some]
  clear HR2
  go_wp2_with fail
  ((generalize hW5:World.setCell _ _ _=W5);(have n5:New w W5:=(by subst hW5;exact nw));(have k0:W5.cell? ⟨w.heap.size+1+1,0,none⟩=some (.int .i64 0):=(by subst hW5;go_simp));(have k1:W5.cell? ⟨w.heap.size+1+1,1,none⟩=some (.int .i64 0):=(by subst hW5;go_simp));clear hW5 z0 z1 f0 f1;refine bodyPost_ret (v:=.tuple #[.agg #[.int .i64 0,.int .i64 0],.bool false]) (by simp[results,Tryz.results216,go_sem, *]) rfl ?_)
  rw[HRR.out]
  exact⟨rfl,n5⟩
 have ht:spO (some t)=t:=rfl
 have hu:spO (some u)=u:=rfl
 rw[ht]at t0 t1
 rw[hu]at u0 u1
 simp only[Option.isSome_some]
 rw[ht,hu]
 clear ht hu
 cases e1:((t.c:Int)==(u.c:Int))
 ·have HRR:Hid (r=none):=Lib.hid (by
   rw[HR2.out]
   unfold bothP
   simp only
   rw[if_neg (fun q=>by rw[q]at e1;simp at e1)])
  clear HR2
  go_wp2_with fail
  ((generalize hW5:World.setCell _ _ _=W5);(have n5:New w W5:=(by subst hW5;exact nw));(have k0:W5.cell? ⟨w.heap.size+1+1,0,none⟩=some (.int .i64 0):=(by subst hW5;go_simp));(have k1:W5.cell? ⟨w.heap.size+1+1,1,none⟩=some (.int .i64 0):=(by subst hW5;go_simp));clear hW5 z0 z1 f0 f1;refine bodyPost_ret (v:=.tuple #[.agg #[.int .i64 0,.int .i64 0],.bool false]) (by simp[results,Tryz.results216,go_sem, *]) rfl ?_)
  rw[HRR.out]
  exact⟨rfl,n5⟩
 cases e2:((t.k:Int)==(u.k:Int))
 ·have HRR:Hid (r=none):=Lib.hid (by
   rw[HR2.out]
   unfold bothP
   simp only
   rw[if_neg (fun q=>by rw[q]at e2;simp at e2)])
  clear HR2
  go_wp2_with fail
  ((generalize hW5:World.setCell _ _ _=W5);(have n5:New w W5:=(by subst hW5;exact nw));(have k0:W5.cell? ⟨w.heap.size+1+1,0,none⟩=some (.int .i64 0):=(by subst hW5;go_simp));(have k1:W5.cell? ⟨w.heap.size+1+1,1,none⟩=some (.int .i64 0):=(by subst hW5;go_simp));clear hW5 z0 z1 f0 f1;refine bodyPost_ret (v:=.tuple #[.agg #[.int .i64 0,.int .i64 0],.bool false]) (by simp[results,Tryz.results216,go_sem, *]) rfl ?_)
  rw[HRR.out]
  exact⟨rfl,n5⟩
 ·have HRR:Hid (r=some t):=Lib.hid (by
   rw[HR2.out]
   unfold bothP
   simp only
   rw[if_pos ((Sp.eqB_iff t u).1 (by unfold Sp.eqB;rw[e1,e2];rfl))])
  clear HR2
  go_wp2_with fail
  ((generalize hW5:World.setCell _ _ _=W5);(have n5:New w W5:=(by subst hW5;exact nw));(have k0:W5.cell? ⟨w.heap.size+1+1,0,none⟩=some (.int .i64 ((t.c:Nat):Int)):=(by subst hW5;go_simp));(have k1:W5.cell? ⟨w.heap.size+1+1,1,none⟩=some (.int .i64 ((t.k:Nat):Int)):=(by subst hW5;go_simp));clear hW5 z0 z1 f0 f1;refine bodyPost_ret (v:=.tuple #[.agg #[.int .i64 ((t.c:Nat):Int),.int .i64 ((t.k:Nat):Int)],.bool true]) (by simp[results,Tryz.results216,go_sem, *]) rfl ?_)
  rw[HRR.out]
  exact⟨rfl,n5⟩
section
variable {P:Program}
theorem store_blk_run {op:Oper} {a:Act} {w:World} (ty:TypeId) (x y:Operand) (ho:op.op=.store ty x y)
  (b:Nat) (cells:Array Value) (hx:a.eval x=.pointer (some ⟨b,0,none⟩)) (hy:a.eval y=.agg cells)
  (ht:Thr w b cells.size) (hi:(P.info? ty).map (·.size)=some cells.size) (h1:∀ v∈cells.toList,v.oneCell'=true) :
  ∃ W,(execOp a.eval op).run P w=.ok .skip W∧(∀ a0,New a0 w→a0.heap.size≤b→New a0 W)∧(∀ b',b'≠b→W.heap[b']? = w.heap[b']?)∧CellsAt W b 0 cells.toList:=by
 have ht':w.there b 0 cells.size:=fun j hj=>by
  obtain⟨⟨v,hv⟩,hf⟩:=ht j hj
  rw[Nat.zero_add]
  exact⟨by rw[hv];rfl,hf⟩
 refine⟨w.setCells b 0 cells.toList,?_,fun a0 h0 hb=>new_setCells h0 hb _ _,fun b' hne=>heap_setCells_other b _ _ _ _ hne,fun j hj=>?_⟩
 ·unfold execOp
  simp only[ho,hx,hy,Instr.storeAt,Instr.sureAddr,Sem.run_bind,Sem.run_pure,Result.andThen_ok,run_storeVar_mid w b 0 ty cells ht' hi (all_oneCell_toArray h1)]
 ·have:=World.rangeAt_setCells_same w b 0 cells.toList (by simpa using ht')
  exact this j _ (List.getElem?_eq_getElem hj)
end
theorem thr_of {w:World} {g n:Nat} {cs:Array Value} {t:TypeId} (h:w.heap[g]? = some (Obj.cells cs t (0,0))) (hn:cs.size=n):Thr w g n:=fun j hj=>by
 have hj':j<cs.size:=by omega
 exact⟨⟨cs[j],cell_of_heap h (Array.getElem?_eq_getElem hj')⟩,frozen_of_heap h⟩
theorem sp_new (w:World) (s:Sp) (t:TypeId):Sl Sp.enc 2 (w.alloc (.cells #[.int .i64 ((s.c:Nat):Int),.int .i64 ((s.k:Nat):Int)] t)) (.slice (some ⟨w.heap.size,0,none⟩) 1 1) [s] :=
 ⟨_,_,rfl,Nat.le_refl _,by unfold maxLen;omega,fun h=>(by cases h),fun _=>⟨w.heap.size,0,rfl,fun j hj i hi=>by
  have hj':j=0:=by simpa using hj
  subst hj'
  have hi':i<2:=hi
  have hz:=heap_new w (.cells #[.int .i64 ((s.c:Nat):Int),.int .i64 ((s.k:Nat):Int)] t)
  rcases(show i=0∨i=1 by omega)with rfl|rfl <;> exact cell_of_heap hz rfl⟩⟩
theorem fst_info:(Tryz.prog.info? 211).map (fun i=>(i.zero,i.size,i.bytes))=some (some (.agg #[.int .i64 0,.int .i64 0]),2,16):=by kernel_rfl
def dgV (Z0:Nat) (gv sv rv:Value) (t:TypeId) (i ne:Int) (ok:Bool):Nat→World→Value→Prop
 | 0,_,v=>v=gv
 | 1,_,v=>v=sv
 | 2,_,v=>v=.int .i64 i
 | 3,_,v=>v=.int .i64 i
 | 4,_,v=>v=.int .i64 (i+1)
 | 5,_,v=>v=.int .i64 4
 | 6,_,v=>v=.int .i64 ne
 | 7,_,v=>v=.tuple #[rv,.bool ok]
 | 8,_,v=>v=.tuple #[rv,.bool ok]
 | 9,_,v=>v=rv
 | 10,_,v=>v=.bool ok
 | 11,w,v=>∃ g cs,v=.pointer (some ⟨g,0,none⟩)∧w.heap[g]? = some (.cells cs t (0,0))∧cs.size=2∧Z0≤g
 | _,_,_=>True
theorem dgV_keep {Z0:Nat} {gv sv rv:Value} {t:TypeId} {i ne:Int} {ok:Bool}:∀ j w w' v,dgV Z0 gv sv rv t i ne ok j w v→New w w'→dgV Z0 gv sv rv t i ne ok j w' v:=by
 intro j w w' v h hn
 match j,h with
 | 0,h=>exact h
 | 1,h=>exact h
 | 2,h=>exact h
 | 3,h=>exact h
 | 4,h=>exact h
 | 5,h=>exact h
 | 6,h=>exact h
 | 7,h=>exact h
 | 8,h=>exact h
 | 9,h=>exact h
 | 10,h=>exact h
 | 11,⟨g,cs,e,h1,h2,h3⟩=>exact⟨g,cs,e,(hn.block g (Array.getElem?_eq_some_iff.1 h1).1).trans h1,h2,h3⟩
 | j+12,_=>trivial
theorem fd_around (N:Net) (la:Option Addr) (lc:Nat) (s:Sp) (hs:SpIn N.M s) (w0 w:World) (hn0:New w0 w) (h:RowsK Lnk.enc 4 w0 (.slice la N.M.length lc) N.M) (hD:Dirs w):Calls Tryz.prog 182 #[.agg #[.int .i64 ((N.W:Nat):Int),.slice la N.M.length lc],.agg #[.int .i64 ((s.c:Nat):Int),.int .i64 ((s.k:Nat):Int)]] w fun e w'=>∃ a c,e=.returned (.slice a (arP N.go s).length c)∧Sl Sp.enc 2 w' (.slice a (arP N.go s).length c) (arP N.go s)∧(∀ g,(Value.slice a (arP N.go s).length c).ownBlock=some g→w.heap.size≤g)∧New w w':=by
 obtain⟨i0,hi0,hz0,hz1,hz2⟩:=info_parts fst_info
 have KT:=Lib.hid (fun d hd W (q:New w W)=>fd_to N la lc s hs d hd w0 W (hn0.trans q) h (hD.new q))
 have KD:=Lib.hid (fun d d2 hd hd2 W (q:New w W)=>fd_diagonal N la lc s hs d d2 hd hd2 w0 W (hn0.trans q) h (hD.new q))
 have HS:Hid (∀ n:Nat,arN N.go s (n+1)=(arN N.go s n++(N.go s n).toList)++(diaP N.go s n (nextD n)).toList):=Lib.hid (fun n=>rfl)
 have HL:=Lib.hid (fun n=>arN_len (go:=N.go) s n)
 obtain⟨n,hn⟩:∃ n,n=N.M.length:=⟨_,rfl⟩
 rw[←hn]at KT KD ⊢
 obtain⟨wd,hwd⟩:∃ q,q=N.W:=⟨_,rfl⟩
 rw[←hwd]at KT KD ⊢
 clear hn hwd h hD hs hn0
 have H0:Hid (arN N.go s 0=[]):=Lib.hid rfl
 unfold arP
 generalize arN N.go s=ar at *
 generalize N.go s=tn at *
 generalize diaP N.go s=dn at *
 have hok:Hid (∀ i:Nat,i<4→okD i=true∧okD (nextD i)=true):=Lib.hid (fun i hi=>by
  rcases(show i=0∨i=1∨i=2∨i=3 by omega)with rfl|rfl|rfl|rfl <;> exact⟨by decide,by decide⟩)
 go_enter Tryz.func182,Tryz.ntmps182
 go_upto_region 1 with fail
 refine Code.at (fun W hW=>?_)
 have n0:Hid (New w W):=Lib.hid (by subst hW;exact nw)
 have HG:Hid (GnAt wd (.slice la n lc) W w.heap.size):=Lib.hid (by subst hW;exact⟨by go_simp,by go_simp⟩)
 have HP:Hid (SpAt s W (w.heap.size+1)):=Lib.hid (by subst hW;exact⟨by go_simp,by go_simp⟩)
 clear hW
 obtain⟨base,hbase⟩:∃ q,q=W.heap.size:=⟨_,rfl⟩
 have HB:=Lib.hid hbase
 clear hbase
 go_wp2_with fail
 go_loopg [13,5] 4 (fun gk s13 s5 wr=>∃ (i:Nat) (ra:Option Addr) (rn rc:Nat),s13=.int .i64 i∧s5=.slice ra rn rc∧i≤4∧4 - i≤gk∧Hid (wr.ownsRow base 211 2 (.slice ra rn rc) (ar i).length ((ar i).flatMap Sp.enc))∧Hid (New W wr))
 case atStart=>exact⟨0,none,0,0,rfl,rfl,by omega,by omega,Lib.hid (by rw[H0.out];exact World.ownsRow_nil _ _ _ _),Lib.hid (New.refl _)⟩
 case round =>
  obtain⟨i,ra,rn,rc,rfl,rfl,hi,hgk,hown,hnr⟩:=hrel
  by_cases hlt:i<4
  ·obtain⟨hk1,hk2⟩:=hok.out i hlt
   have KTi:=Lib.hid (KT.out i hk1)
   have KDi:=Lib.hid (KD.out i (nextD i) hk1 hk2)
   have hsi:=HS.out i
   have hli:=HL.out i
   have hw1:IntKind.i64.wrap ((i:Int)+1)=i+1:=IntWalk.i64_in _ (by omega)
   have hrem:(Int.tmod ((i:Int)+1) 4)=nextD i:=rfl
   obtain⟨o1,ho1⟩:∃ o,o=tn i:=⟨_,rfl⟩
   obtain⟨o2,ho2⟩:∃ o,o=dn i (nextD i):=⟨_,rfl⟩
   rw[←ho1]at KTi hsi
   rw[←ho2]at KDi hsi
   have HSI:=Lib.hid hsi
   clear ho1 ho2 hsi hk1 hk2
   obtain⟨l0,hl0⟩:∃ q,q=ar i:=⟨_,rfl⟩
   rw[←hl0]at hown hli HSI
   clear hl0
   generalize nextD i=ne at *
   obtain⟨g0,g1⟩:=HG.out.new hnr.out
   obtain⟨p0,p1⟩:=HP.out.new hnr.out
   go_wp2_with fail
   refine(KTi.out _ (n0.out.trans hnr.out)).mono ?_
   rintro e w4 ⟨rfl,n4⟩
   have N4:=Lib.hid (hnr.out.trans n4)
   replace hown:=Lib.hid (own_new hown.out n4)
   clear n4 KTi g0 g1 p0 p1
   go_upto_region 7 with fail
   refine Code.at (fun W5 hW=>?_)
   have n5:New w4 W5:=by subst hW;exact nw
   have HQ:Hid (SpAt (spO o1) W5 w4.heap.size):=Lib.hid (by subst hW;exact⟨by go_simp,by go_simp⟩)
   clear hW
   replace N4:=Lib.hid (N4.out.trans n5)
   replace hown:=Lib.hid (own_new hown.out n5)
   clear n5
   go_upto_if 23 with fail
   go_cut [5] (fun s5 Z=>∃ (ra:Option Addr) (rn rc:Nat),s5=.slice ra rn rc∧Z.ownsRow base 211 2 (.slice ra rn rc) (l0++o1.toList).length ((l0++o1.toList).flatMap Sp.enc)∧New W Z)
   case first =>
    rcases o1 with _|t
    ·have ho:Hid (W5.ownsRow base 211 2 (.slice ra rn rc) (l0++(none:Option Sp).toList).length ((l0++(none:Option Sp).toList).flatMap Sp.enc)):=Lib.hid (by simpa using hown.out)
     simp only[Option.isSome_none]
     go_wp2_with fail
     go_meet
     exact⟨ra,rn,rc,rfl,ho.out,N4.out⟩
    ·obtain⟨q0,q1⟩:=HQ.out
     have hb:base≤W5.heap.size:=by rw[HB.out];exact N4.out.size
     simp only[Option.isSome_some]
     go_wp2_with (at_builtin;refine wpList_append_sl rfl _ _ 255 rfl Sp.enc_len Sp.enc_one base 211 i0 _ 16 Tryz.underlying255 hi0 hz0 hz1 hz2 rfl (by decide) _ l0 rfl (own_new hown.out ((New.refl _).alloc _)) _ [t] rfl (sp_new _ t _) (by unfold maxLen;simp;omega) (by simp;omega) (by simp;omega) ?_;intro v' w1 hown' hnew _;obtain⟨a',d',N',hN',rfl⟩:=own_shape2 hown';clear hN';have nw1:=hnew W (N4.out.trans ((New.refl _).alloc _)) (Nat.le_of_eq HB.out.symm))
     go_meet
     exact⟨_,_,_,rfl,hown',nw1⟩
   case rest =>
    obtain⟨ra',rn',rc',rfl,hown5,hN5⟩:=hcut
    have HO5:=Lib.hid hown5
    have HN5:=Lib.hid hN5
    clear hown hown5 hN5 N4 HQ hnr
    rename World=>W6
    obtain⟨l1,hl1⟩:∃ q,q=l0++o1.toList:=⟨_,rfl⟩
    rw[←hl1]at HO5 HSI
    have hl1l:l1.length≤2*i+1:=by rw[hl1,List.length_append];have:=optLen o1;omega
    clear hl1 hli
    obtain⟨g0,g1⟩:=HG.out.new HN5.out
    obtain⟨p0,p1⟩:=HP.out.new HN5.out
    have hwl:=World.block_lt_of_cell? _ _ g0
    go_upto_region 9 with fail
    refine wp_region_loose_e 12 10 (dgV W6.heap.size (.agg #[.int .i64 wd,.slice la n lc]) (.agg #[.int .i64 ((s.c:Nat):Int),.int .i64 ((s.k:Nat):Int)]) (.agg #[.int .i64 (((spO o2).c:Nat):Int),.int .i64 (((spO o2).k:Nat):Int)]) 211 i ne o2.isSome) (by kernel_rfl) (by kernel_rfl) rfl rfl rfl rfl rfl (by decide) (fun _ _ h=>by cases h) dgV_keep ?_ ?_ ?_
    ·intro j o hj ho a' w' nn hr hd
     rcases(show j=0∨j=1∨j=2∨j=3∨j=4∨j=5∨j=6∨j=7∨j=8∨j=9∨j=10∨j=11 by omega)with rfl|rfl|rfl|rfl|rfl|rfl|rfl|rfl|rfl|rfl|rfl|rfl <;> obtain rfl:=Option.some.inj ho
     ·have r:(a'.tmps[2]?).getD undef=.pointer (some ⟨w.heap.size,0,none⟩):=(eval_get a' 2).symm.trans (hr 2 (by kernel_rfl))
      replace g0:=nn.keep g0
      replace g1:=nn.keep g1
      exact yields_value (.agg #[.int .i64 wd,.slice la n lc]) (by go_simp) ⟨New.refl _,rfl⟩
     ·have r:(a'.tmps[3]?).getD undef=.pointer (some ⟨w.heap.size+1,0,none⟩):=(eval_get a' 3).symm.trans (hr 3 (by kernel_rfl))
      replace p0:=nn.keep p0
      replace p1:=nn.keep p1
      exact yields_value (.agg #[.int .i64 ((s.c:Nat):Int),.int .i64 ((s.k:Nat):Int)]) (by go_simp) ⟨New.refl _,rfl⟩
     ·have r:(a'.tmps[7]?).getD undef=.int .i64 i:=(eval_get a' 7).symm.trans (hr 7 (by kernel_rfl))
      exact yields_value (.int .i64 i) (by go_simp) ⟨New.refl _,rfl⟩
     ·have r:(a'.tmps[7]?).getD undef=.int .i64 i:=(eval_get a' 7).symm.trans (hr 7 (by kernel_rfl))
      exact yields_value (.int .i64 i) (by go_simp) ⟨New.refl _,rfl⟩
     ·have e3:a'.eval (.tmp 32)=.int .i64 i:=hd 3 32 (by omega) (by kernel_rfl) (by kernel_rfl)
      have r:(a'.tmps[32]?).getD undef=_:=(eval_get a' 32).symm.trans e3
      exact yields_value (.int .i64 (i+1)) (by go_simp) ⟨New.refl _,rfl⟩
     ·have r:(a'.tmps[6]?).getD undef=.int .i64 4:=(eval_get a' 6).symm.trans (hr 6 (by kernel_rfl))
      exact yields_value (.int .i64 4) (by go_simp) ⟨New.refl _,rfl⟩
     ·have e4:a'.eval (.tmp 33)=.int .i64 (i+1):=hd 4 33 (by omega) (by kernel_rfl) (by kernel_rfl)
      have e5:a'.eval (.tmp 34)=.int .i64 4:=hd 5 34 (by omega) (by kernel_rfl) (by kernel_rfl)
      have r:(a'.tmps[33]?).getD undef=_:=(eval_get a' 33).symm.trans e4
      have r2:(a'.tmps[34]?).getD undef=_:=(eval_get a' 34).symm.trans e5
      exact yields_value (.int .i64 ne) (by go_simp) ⟨New.refl _,rfl⟩
     ·have e0:a'.eval (.tmp 29)=.agg #[.int .i64 wd,.slice la n lc]:=hd 0 29 (by omega) (by kernel_rfl) (by kernel_rfl)
      have e1:a'.eval (.tmp 30)=.agg #[.int .i64 ((s.c:Nat):Int),.int .i64 ((s.k:Nat):Int)]:=hd 1 30 (by omega) (by kernel_rfl) (by kernel_rfl)
      have e2:a'.eval (.tmp 31)=.int .i64 i:=hd 2 31 (by omega) (by kernel_rfl) (by kernel_rfl)
      have e6:a'.eval (.tmp 35)=.int .i64 ne:=hd 6 35 (by omega) (by kernel_rfl) (by kernel_rfl)
      have r0:(a'.tmps[29]?).getD undef=_:=(eval_get a' 29).symm.trans e0
      have r1:(a'.tmps[30]?).getD undef=_:=(eval_get a' 30).symm.trans e1
      have r2:(a'.tmps[31]?).getD undef=_:=(eval_get a' 31).symm.trans e2
      have r6:(a'.tmps[35]?).getD undef=_:=(eval_get a' 35).symm.trans e6
      exact yields_enter 216 #[.agg #[.int .i64 wd,.slice la n lc],.agg #[.int .i64 ((s.c:Nat):Int),.int .i64 ((s.k:Nat):Int)],.int .i64 i,.int .i64 ne] (by go_simp) ((KDi.out w' (n0.out.trans (HN5.out.trans nn))).mono fun e w'' ⟨he,hn⟩=>⟨_,he,hn,rfl⟩)
     ·have e7:a'.eval (.tmp 36)=.tuple #[.agg #[.int .i64 (((spO o2).c:Nat):Int),.int .i64 (((spO o2).k:Nat):Int)],.bool o2.isSome]:=hd 7 36 (by omega) (by kernel_rfl) (by kernel_rfl)
      have r:(a'.tmps[36]?).getD undef=_:=(eval_get a' 36).symm.trans e7
      exact yields_value (.tuple #[.agg #[.int .i64 (((spO o2).c:Nat):Int),.int .i64 (((spO o2).k:Nat):Int)],.bool o2.isSome]) (by go_simp) ⟨New.refl _,rfl⟩
     ·have e7:a'.eval (.tmp 28)=.tuple #[.agg #[.int .i64 (((spO o2).c:Nat):Int),.int .i64 (((spO o2).k:Nat):Int)],.bool o2.isSome]:=hd 8 28 (by omega) (by kernel_rfl) (by kernel_rfl)
      have r:(a'.tmps[28]?).getD undef=_:=(eval_get a' 28).symm.trans e7
      exact yields_value (.agg #[.int .i64 (((spO o2).c:Nat):Int),.int .i64 (((spO o2).k:Nat):Int)]) (by go_simp) ⟨New.refl _,rfl⟩
     ·have e7:a'.eval (.tmp 28)=.tuple #[.agg #[.int .i64 (((spO o2).c:Nat):Int),.int .i64 (((spO o2).k:Nat):Int)],.bool o2.isSome]:=hd 8 28 (by omega) (by kernel_rfl) (by kernel_rfl)
      have r:(a'.tmps[28]?).getD undef=_:=(eval_get a' 28).symm.trans e7
      exact yields_value (.bool o2.isSome) (by go_simp) ⟨New.refl _,rfl⟩
     ·exact yields_value (w':=w'.alloc (.cells #[.int .i64 0,.int .i64 0] 211)) (.pointer (some ⟨w'.heap.size,0,none⟩)) (by go_simp) ⟨(New.refl _).alloc _,_,_,rfl,heap_new _ _,rfl,nn.size⟩
    ·intro a' w' nn hd
     have e7:a'.eval (.tmp 28)=.tuple #[.agg #[.int .i64 (((spO o2).c:Nat):Int),.int .i64 (((spO o2).k:Nat):Int)],.bool o2.isSome]:=hd 8 28 (by omega) (by kernel_rfl) (by kernel_rfl)
     have r:(a'.tmps[28]?).getD undef=_:=(eval_get a' 28).symm.trans e7
     exact⟨.bool o2.isSome,fun W=>by go_simp⟩
    ·intro vs w' nn hv
     have e0:vs 0=.agg #[.int .i64 wd,.slice la n lc]:=hv 0 (by omega)
     have e1:vs 1=.agg #[.int .i64 ((s.c:Nat):Int),.int .i64 ((s.k:Nat):Int)]:=hv 1 (by omega)
     have e2:vs 2=.int .i64 i:=hv 2 (by omega)
     have e3:vs 3=.int .i64 i:=hv 3 (by omega)
     have e4:vs 4=.int .i64 (i+1):=hv 4 (by omega)
     have e5:vs 5=.int .i64 4:=hv 5 (by omega)
     have e6:vs 6=.int .i64 ne:=hv 6 (by omega)
     have e7:vs 7=.tuple #[.agg #[.int .i64 (((spO o2).c:Nat):Int),.int .i64 (((spO o2).k:Nat):Int)],.bool o2.isSome]:=hv 7 (by omega)
     have e8:vs 8=.tuple #[.agg #[.int .i64 (((spO o2).c:Nat):Int),.int .i64 (((spO o2).k:Nat):Int)],.bool o2.isSome]:=hv 8 (by omega)
     have e9:vs 9=.agg #[.int .i64 (((spO o2).c:Nat):Int),.int .i64 (((spO o2).k:Nat):Int)]:=hv 9 (by omega)
     have e10:vs 10=.bool o2.isSome:=hv 10 (by omega)
     obtain⟨g,cs,e11,hg,hcs,hgZ⟩:∃ g cs,vs 11=.pointer (some ⟨g,0,none⟩)∧w'.heap[g]? = some (.cells cs 211 (0,0))∧cs.size=2∧W6.heap.size≤g:=hv 11 (by omega)
     simp only[List.take_succ_cons,List.take_zero,List.drop_succ_cons,List.drop_zero,putL,Act.put,List.setIfInBounds_toArray,List.set_cons_zero,List.set_cons_succ,Nat.reduceAdd,Nat.zero_add]
     rw[e0,e1,e2,e3,e4,e5,e6,e7,e8,e9,e10,e11]
     have key:∀ (op:Oper) (x:Act),op.op=.store 211 (.tmp 10) (.tmp 37)→x.eval (.tmp 10)=.pointer (some ⟨g,0,none⟩)→x.eval (.tmp 37)=.agg #[.int .i64 (((spO o2).c:Nat):Int),.int .i64 (((spO o2).k:Nat):Int)]→∃ W,(execOp x.eval op).run Tryz.prog w'=.ok .skip W∧New W6 W∧CellsAt W g 0 #[.int .i64 (((spO o2).c:Nat):Int),.int .i64 (((spO o2).k:Nat):Int)].toList:=by
      intro op x ho hx hy
      obtain⟨Y,hrun,nY,kY,cY⟩:=store_blk_run (P:=Tryz.prog) (w:=w') 211 _ _ ho g #[.int .i64 (((spO o2).c:Nat):Int),.int .i64 (((spO o2).k:Nat):Int)] hx hy (thr_of hg hcs) (by kernel_rfl) (by intro v hv;simp at hv;rcases hv with rfl|rfl <;> rfl)
      exact⟨Y,hrun,nY _ nn hgZ,cY⟩
     refine Exists.elim (key _ _ ?_ ?_ ?_) (fun Y hY=>⟨Y,hY.1,?_⟩)
     ·rfl
     ·rfl
     ·rfl
     obtain⟨-,nY,hcY⟩:=hY
     have y0:Y.cell? ⟨g,0,none⟩=some (.int .i64 (((spO o2).c:Nat):Int)):=hcY 0 (by show 0<2;omega)
     have y1:Y.cell? ⟨g,1,none⟩=some (.int .i64 (((spO o2).k:Nat):Int)):=hcY 1 (by show 1<2;omega)
     have HNY:=Lib.hid (HN5.out.trans nY)
     have HOY:=Lib.hid (own_new HO5.out nY)
     have hb:base≤Y.heap.size:=by rw[HB.out];exact HNY.out.size
     clear hv e0 e1 e2 e3 e4 e5 e6 e7 e8 e9 e10 e11 hg hcs hgZ nn key hcY nY g0 g1 p0 p1 HO5 HN5 KDi
     rcases o2 with _|t
     ·have hnx:Hid (Y.ownsRow base 211 2 (.slice ra' rn' rc') (ar (i+1)).length ((ar (i+1)).flatMap Sp.enc)):=Lib.hid (by
       rw[HSI.out]
       simpa using HOY.out)
      simp only[Option.isSome_none]
      go_wp2_with fail
      go_roundg (4 - (i+1))
      case measure=>omega
      case rel=>exact⟨i+1,ra',rn',rc',by go_num,rfl,by omega,by omega,hnx,HNY⟩
     ·have ht:spO (some t)=t:=rfl
      rw[ht]at y0 y1
      simp only[Option.isSome_some]
      rw[ht]
      clear ht
      go_wp2_with (at_builtin;refine wpList_append_sl rfl _ _ 255 rfl Sp.enc_len Sp.enc_one base 211 i0 _ 16 Tryz.underlying255 hi0 hz0 hz1 hz2 rfl (by decide) _ l1 rfl (own_new HOY.out ((New.refl _).alloc _)) _ [t] rfl (sp_new _ t _) (by unfold maxLen;simp;omega) (by simp;omega) (by simp;omega) ?_;intro v' w1 hown' hnew _;obtain⟨a',d',N',hN',rfl⟩:=own_shape2 hown';clear hN';have nw1:=hnew W (HNY.out.trans ((New.refl _).alloc _)) (Nat.le_of_eq HB.out.symm))
      have hnx:Hid (w1.ownsRow base 211 2 (.slice a' N' d') (ar (i+1)).length ((ar (i+1)).flatMap Sp.enc)):=Lib.hid (by
       rw[HSI.out]
       exact hown')
      go_roundg (4 - (i+1))
      case measure=>omega
      case rel=>exact⟨i+1,a',N',d',by go_num,rfl,by omega,by omega,hnx,Lib.hid nw1⟩
  ·obtain rfl:i=4:=by omega
   have hsl:=own_sl Sp.enc_len hown.out
   have hnn:=n0.out.trans hnr.out
   obtain⟨a1,c1,e1,-⟩:=id hsl
   injection e1 with e1 e2 e3
   subst e1 e2 e3
   have hob:∀ g,(Value.slice ra (ar 4).length rc).ownBlock=some g→w.heap.size≤g:=fun g e=>by
    have h1:=own_block hown.out g e
    have h2:=HB.out
    have h3:=n0.out.size
    omega
   have HSL:=Lib.hid (And.intro hsl (And.intro hob hnn))
   clear hown hsl hnn hob
   go_wp2_with fail
   go_ret
   exact⟨_,_,rfl,HSL.out.1,HSL.out.2.1,HSL.out.2.2⟩
def edC (N:Net) (i k:Nat):List Sp:=((List.range k).map (Sp.mk i)).filter (fun s => !fulP N.go s)
def edT (N:Net):Nat→List Sp
 | 0=>[]
 | i+1=>edT N i++edC N i (colM N.M i).length
theorem edC_succ (N:Net) (i k:Nat):edC N i (k+1)=edC N i k++(if fulP N.go ⟨i,k⟩=true then []else [⟨i,k⟩]):=by
 unfold edC
 rw[List.range_succ,List.map_append,List.filter_append]
 congr 1
 cases h:fulP N.go ⟨i,k⟩ <;> simp[h]
theorem edC_len (N:Net) (i k:Nat):(edC N i k).length≤k:=by
 unfold edC
 refine Nat.le_trans (List.length_filter_le _ _) ?_
 simp
theorem edT_len (N:Net):∀ i,(edT N i).length≤8*i
 | 0=>by simp[edT]
 | i+1=>by
  have h1:=edT_len N i
  have h2:=edC_len N i (colM N.M i).length
  have h3:=N.col i
  simp only[edT,List.length_append]
  omega
theorem mem_edT (N:Net) {s:Sp}:∀ {i:Nat},s∈edT N i↔s.c<i∧s.k<(colM N.M s.c).length∧fulP N.go s=false
 | 0=>by simp[edT]
 | i+1=>by
  simp only[edT,List.mem_append,mem_edT N (i:=i)]
  unfold edC
  simp only[List.mem_filter,List.mem_map,List.mem_range,Bool.not_eq_true']
  constructor
  ·rintro(⟨h1,h2,h3⟩|⟨⟨k,hk,rfl⟩,h3⟩)
   ·exact⟨by omega,h2,h3⟩
   ·exact⟨by simp,hk,h3⟩
  ·rintro⟨h1,h2,h3⟩
   by_cases e:s.c=i
   ·refine .inr ⟨⟨s.k,by rw[←e];exact h2,?_⟩,h3⟩
    obtain⟨c,k⟩:=s
    simp only at e
    rw[e]
   ·exact .inl ⟨by omega,h2,h3⟩
def edgeL (N:Net):List Sp:=edT N N.M.length
theorem mem_edge (N:Net) {s:Sp}:s∈edgeL N↔SpIn N.M s∧fulP N.go s=false:=by
 unfold edgeL SpIn
 rw[mem_edT]
 constructor
 ·rintro⟨a,b,c⟩;exact⟨⟨a,b⟩,c⟩
 ·rintro⟨⟨a,b⟩,c⟩;exact⟨a,b,c⟩
theorem edge_len (N:Net):(edgeL N).length≤32768:=by
 have h1:=edT_len N N.M.length
 have h2:=N.len
 unfold edgeL
 omega
theorem fd_edge (N:Net) (la:Option Addr) (lc:Nat) (w0 w:World) (hn0:New w0 w) (h:RowsK Lnk.enc 4 w0 (.slice la N.M.length lc) N.M) (hD:Dirs w):Calls Tryz.prog 180 #[.agg #[.int .i64 ((N.W:Nat):Int),.slice la N.M.length lc]] w fun e w'=>∃ a c,e=.returned (.slice a (edgeL N).length c)∧Sl Sp.enc 2 w' (.slice a (edgeL N).length c) (edgeL N)∧New w w':=by
 obtain⟨i0,hi0,hz0,hz1,hz2⟩:=info_parts fst_info
 have KA:=Lib.hid (fun s hs W (q:New w W)=>fd_around N la lc s hs w0 W (hn0.trans q) h (hD.new q))
 have HH:=Lib.hid (fun W (q:New w W)=>h.keep (hn0.trans q))
 have HC:=Lib.hid (fun i=>edT_len N i)
 have HCk:=Lib.hid (fun i k=>edC_len N i k)
 have HCS:=Lib.hid (fun i k=>edC_succ N i k)
 have HFB:Hid (∀ s,fulP N.go s=decide (8≤(arP N.go s).length)):=Lib.hid (fun s=>rfl)
 have HLEN:=Lib.hid N.len
 have HCOL:=Lib.hid N.col
 have HAL:=Lib.hid (fun s=>arP_len (go:=N.go) s)
 obtain⟨n,hn⟩:∃ n,n=N.M.length:=⟨_,rfl⟩
 rw[←hn]at KA HH HLEN ⊢
 have HN:=Lib.hid hn
 unfold edgeL
 rw[←hn]
 obtain⟨wd,hwd⟩:∃ q,q=N.W:=⟨_,rfl⟩
 rw[←hwd]at KA ⊢
 clear hn hwd h hD hn0
 have HTS:Hid (∀ i,edT N (i+1)=edT N i++edC N i (colM N.M i).length):=Lib.hid (fun i=>rfl)
 have H0:Hid (edT N 0=[]):=Lib.hid rfl
 have H1:Hid (∀ i,edC N i 0=[]):=Lib.hid (fun i=>rfl)
 generalize edT N=eT at *
 generalize edC N=eC at *
 go_enter Tryz.func180,Tryz.ntmps180
 go_upto_region 1 with fail
 refine Code.at (fun W hW=>?_)
 have n0:Hid (New w W):=Lib.hid (by subst hW;exact nw)
 have HG:Hid (GnAt wd (.slice la n lc) W w.heap.size):=Lib.hid (by subst hW;exact⟨by go_simp,by go_simp⟩)
 clear hW
 obtain⟨base,hbase⟩:∃ q,q=W.heap.size:=⟨_,rfl⟩
 have HB:=Lib.hid hbase
 clear hbase
 have hnl:=HLEN.out
 obtain⟨g0,g1⟩:=HG.out
 go_wp2_with fail
 clear g0 g1
 go_loopg [11,3] n (fun gk s11 s3 wr=>∃ (i:Nat) (ra:Option Addr) (rn rc:Nat),s11=.int .i64 i∧s3=.slice ra rn rc∧i≤n∧n - i≤gk∧Hid (wr.ownsRow base 211 2 (.slice ra rn rc) (eT i).length ((eT i).flatMap Sp.enc))∧Hid (New W wr))
 case atStart=>exact⟨0,none,0,0,rfl,rfl,by omega,by omega,Lib.hid (by rw[H0.out];exact World.ownsRow_nil _ _ _ _),Lib.hid (New.refl _)⟩
 case round =>
  obtain⟨i,ra,rn,rc,rfl,rfl,hi,hgk,hown,hnr⟩:=hrel
  by_cases hlt:i<n
  ·have hil:i<N.M.length:=by rw[←HN.out];exact hlt
   obtain⟨b,off,a,c,rfl,hc,hsl⟩:=(HH.out _ (n0.out.trans hnr.out)).at i hil
   have hcl:=colM_at hil
   rw[←hcl]at hc
   have hc8:=HCOL.out i
   obtain⟨m,hm⟩:∃ q,q=(colM N.M i).length:=⟨_,rfl⟩
   rw[←hm]at hc hc8
   have HM:=Lib.hid hm
   have hti:=HTS.out i
   rw[←hm]at hti
   have HTI:=Lib.hid hti
   have hei:=HC.out i
   have HGK:=Lib.hid hgk
   clear hsl hm hti hcl hgk
   obtain⟨l0,hl0⟩:∃ q,q=eT i:=⟨_,rfl⟩
   rw[←hl0]at hown HTI hei
   clear hl0
   rename World=>Wo
   go_wp2_with fail
   clear hc
   go_loopg [18,3] m (fun gk s18 s3 wr=>∃ (k:Nat) (ca:Option Addr) (cn cc:Nat),s18=.int .i64 k∧s3=.slice ca cn cc∧k≤m∧m - k≤gk∧Hid (wr.ownsRow base 211 2 (.slice ca cn cc) (l0++eC i k).length ((l0++eC i k).flatMap Sp.enc))∧Hid (New W wr))
   case atStart=>exact⟨0,ra,rn,rc,rfl,rfl,by omega,by omega,Lib.hid (by rw[H1.out];simpa using hown.out),hnr⟩
   case round =>
    obtain⟨k,ca,cn,cc,rfl,rfl,hk,hgk,hown,hnk⟩:=hrel
    by_cases hkt:k<m
    ·have hin:SpIn N.M ⟨i,k⟩:=⟨hil,by rw[←HM.out];exact hkt⟩
     have KAi:=Lib.hid (KA.out ⟨i,k⟩ hin)
     simp only at KAi
     have hcs:=HCS.out i k
     rw[HFB.out]at hcs
     have hck:=HCk.out i k
     have hal:=HAL.out ⟨i,k⟩
     obtain⟨ar,har⟩:∃ q,q=arP N.go ⟨i,k⟩:=⟨_,rfl⟩
     rw[←har]at KAi hcs hal
     have HCSI:=Lib.hid hcs
     obtain⟨c0,hc0⟩:∃ q,q=eC i k:=⟨_,rfl⟩
     rw[←hc0]at HCSI hown hck
     obtain⟨al,hal2⟩:∃ q,q=ar.length:=⟨_,rfl⟩
     rw[←hal2]at KAi HCSI hal
     have hgl:(l0++c0).length≤8*i+k:=by rw[List.length_append];omega
     clear har hcs hc0 hal2 hin hck
     obtain⟨g0,g1⟩:=HG.out.new hnk.out
     have hwl:=World.block_lt_of_cell? _ _ g0
     simp only[]at hwl
     go_upto_region 9 with fail
     refine Code.at (fun W5 hW=>?_)
     have n5:New wr W5:=by subst hW;exact nw
     have HQ:Hid (SpAt ⟨i,k⟩ W5 wr.heap.size):=Lib.hid (by subst hW;exact⟨by go_simp,by go_simp⟩)
     clear hW g0 g1
     obtain⟨g0,g1⟩:=HG.out.new (hnk.out.trans n5)
     obtain⟨q0,q1⟩:=HQ.out
     simp only at q0 q1
     have N5:=Lib.hid (hnk.out.trans n5)
     have HO5:=Lib.hid (own_new hown.out n5)
     clear n5 hown
     go_wp2_with fail
     refine(KAi.out _ (n0.out.trans N5.out)).mono ?_
     rintro e w6 ⟨a6,c6,rfl,-,-,n6⟩
     replace HQ:=Lib.hid (HQ.out.new n6)
     replace N5:=Lib.hid (N5.out.trans n6)
     replace HO5:=Lib.hid (own_new HO5.out n6)
     clear n6 g0 g1 q0 q1 KAi
     obtain⟨q0,q1⟩:=HQ.out
     simp only at q0 q1
     have hb:base≤w6.heap.size:=by rw[HB.out];exact N5.out.size
     by_cases h8:al<8
     ·have hd:decide (al<8)=true:=decide_eq_true h8
      have hnx:Hid (eC i (k+1)=c0++[⟨i,k⟩]):=Lib.hid (by rw[HCSI.out,if_neg (by rw[decide_eq_true_eq];omega)])
      clear HCSI
      go_wp2_with (at_builtin;refine wpList_append_sl rfl _ _ 255 rfl Sp.enc_len Sp.enc_one base 211 i0 _ 16 Tryz.underlying255 hi0 hz0 hz1 hz2 rfl (by decide) _ (l0++c0) rfl (own_new HO5.out ((New.refl _).alloc _)) _ [⟨i,k⟩] rfl (sp_new _ ⟨i,k⟩ _) (by unfold maxLen;simp only[List.length_singleton];omega) (by simp only[List.length_singleton];omega) (by simp;omega) ?_;intro v' w1 hown' hnew _;obtain⟨a',d',N',hN',rfl⟩:=own_shape2 hown';clear hN';have nw1:=hnew W (N5.out.trans ((New.refl _).alloc _)) (Nat.le_of_eq HB.out.symm))
      go_roundg (m - (k+1))
      case measure=>omega
      case rel=>exact⟨k+1,a',N',d',by go_num,rfl,by omega,by omega,Lib.hid (by rw[hnx.out,←List.append_assoc];exact hown'),Lib.hid nw1⟩
     ·have hd:decide (al<8)=false:=decide_eq_false h8
      have hnx:Hid (eC i (k+1)=c0):=Lib.hid (by rw[HCSI.out,if_pos (by rw[decide_eq_true_eq];omega),List.append_nil])
      clear HCSI
      go_wp2_with fail
      go_roundg (m - (k+1))
      case measure=>omega
      case rel=>exact⟨k+1,ca,cn,cc,by go_num,rfl,by omega,by omega,Lib.hid (by rw[hnx.out];exact HO5.out),N5⟩
    ·obtain rfl:k=m:=by omega
     go_wp2_with fail
     have hgk:=HGK.out
     go_roundg (n - (i+1))
     case measure=>omega
     case rel=>exact⟨i+1,ca,cn,cc,by go_num,rfl,by omega,by omega,Lib.hid (by rw[HTI.out];exact hown.out),hnk⟩
  ·obtain rfl:i=n:=by omega
   have hsl:=own_sl Sp.enc_len hown.out
   have hnn:=n0.out.trans hnr.out
   obtain⟨a1,c1,e1,-⟩:=id hsl
   injection e1 with e1 e2 e3
   subst e1 e2 e3
   have HSL:=Lib.hid (And.intro hsl hnn)
   clear hown hsl hnn
   go_wp2_with fail
   go_ret
   exact⟨_,_,rfl,HSL.out.1,HSL.out.2⟩
def spLit (s:Sp):Lit:=.string (keyBytes [.int .i64 ((s.c:Nat):Int),.int .i64 ((s.k:Nat):Int)])
theorem mp_deep:Tryz.prog.keyTypeAt 3 211=true:=by kernel_rfl
theorem mp_law:Maps.Keyed Tryz.prog 211:=Maps.Keyed.of_law (deep_law_laid (m:=3) (by kernel_rfl) (by omega) (of_decide_eq_true (by kernel_rfl)) mp_deep (by kernel_rfl))
theorem mp_kt:Tryz.prog.keyType 211=true:=by kernel_rfl
theorem mp_size:1≤Tryz.prog.types.size:=of_decide_eq_true (by kernel_rfl)
theorem mp_cells:Tryz.prog.cellsOf 211=2:=by kernel_rfl
theorem mp_cell:Tryz.prog.cellsOf 3=1:=by kernel_rfl
theorem sp_key {s:Sp} (h1:s.c<4096) (h2:s.k<8):keyOf Tryz.prog 211 (.agg #[.int .i64 ((s.c:Nat):Int),.int .i64 ((s.k:Nat):Int)])=some (spLit s):=by
 obtain⟨m,hm⟩:∃ m,Tryz.prog.types.size=m+1:=⟨Tryz.prog.types.size - 1,by have:=mp_size;omega⟩
 have w1:(Lit.int .i64 ((s.c:Nat):Int)).wf=true:=WalkArith.wf_i64 (by omega)
 have w2:(Lit.int .i64 ((s.k:Nat):Int)).wf=true:=WalkArith.wf_i64 (by omega)
 have hl:Tryz.prog.keyLits (m+1+1) 211 [.int .i64 ((s.c:Nat):Int),.int .i64 ((s.k:Nat):Int)]=some [.int .i64 ((s.c:Nat):Int),.int .i64 ((s.k:Nat):Int)]:=by
  simp[Program.keyLits,Tryz.underlying211,Tryz.underlying3,mp_cells,mp_cell,w1,w2]
 unfold keyOf
 rw[Tryz.underlying211]
 simp only[]
 rw[mp_kt,hm]
 simp[Value.formed,Tryz.underlying211,mp_cells,Value.cells,hl,spLit]
theorem spLit_inj {s t:Sp} (h1:s.c<4096) (h2:s.k<8) (h3:t.c<4096) (h4:t.k<8) (e:spLit s=spLit t):s=t:=by
 have a:=sp_key h1 h2
 rw[e]at a
 have:=mp_law.inj a (sp_key h3 h4)
 obtain⟨sc,sk⟩:=s
 obtain⟨tc,tk⟩:=t
 simp at this
 obtain⟨q1,q2⟩:=this
 rw[Sp.mk.injEq]
 omega
def HeldAt (w:World) (b n:Nat) (F:Sp→Option Nat):Prop:=∃ D:DataW Unit,w.ownsMap Tryz.prog 211 (plainElem Tryz.prog 3) b n D∧∀ s:Sp,s.c<4096→s.k<8→Maps.has D (spLit s)=(F s).isSome∧∀ v:Nat,F s=some v→D.atKey (spLit s) (.lit (.int .i64 0))=.lit (.int .i64 ((v:Nat):Int))
theorem HeldAt.congr {w:World} {b n n':Nat} {F F':Sp→Option Nat} (h:HeldAt w b n F) (hn:n≤n') (e:∀ s:Sp,s.c<4096→s.k<8→F s=F' s):HeldAt w b n' F':=by
 obtain⟨D,h1,h2⟩:=h
 exact⟨D,h1.mono hn,fun s a b=>by rw[←e s a b];exact h2 s a b⟩
theorem HeldAt.kept {w w':World} {b n:Nat} {F:Sp→Option Nat} {row:Option Nat} (h:HeldAt w b n F) (hg:w.grownBy w' row) (hne:some b≠row):HeldAt w' b n F:=by
 obtain⟨D,h1,h2⟩:=h
 exact⟨D,h1.kept hg hne,h2⟩
theorem HeldAt.made (w:World):HeldAt (w.alloc (.map #[] 0)) w.heap.size 0 (fun _=>none) :=
 ⟨.map [],World.ownsMap_made w _ _ _,fun s _ _=>⟨rfl,fun v h=>by cases h⟩⟩
theorem HeldAt.lt {w:World} {b n:Nat} {F:Sp→Option Nat} (h:HeldAt w b n F):b<w.heap.size:=by
 obtain⟨D,h1,h2⟩:=h
 exact h1.lt
theorem HeldAt.new {w w':World} {b n:Nat} {F:Sp→Option Nat} (h:HeldAt w b n F) (q:New w w'):HeldAt w' b n F:=by
 obtain⟨D,⟨es,clock,hb,r⟩,h2⟩:=h
 exact⟨D,⟨es,clock,(q.block b (Array.getElem?_eq_some_iff.1 hb).1).trans hb,r⟩,h2⟩
theorem HeldAt.nocell {w:World} {b n:Nat} {F:Sp→Option Nat} (h:HeldAt w b n F) {c o:Nat} {v:Value} (hc:w.cell? ⟨c,o,none⟩=some v):c≠b:=by
 obtain⟨D,⟨es,clock,hb,-⟩,-⟩:=h
 intro e
 subst e
 simp[World.cell?,hb]at hc
theorem zeroI (w:World):(zeroValue 3).run Tryz.prog w=.ok (.int .i64 0) w:=by kernel_rfl
theorem wpList_held {ops:Array Oper} {rest:List Oper} {o:Oper} {a:Act} {w:World} {Q:Exit→Act→World→Prop} (hg:o.guard=none) (m x:Operand) (hop:o.op=Op.lookup 208 m x true)
  (b n:Nat) (F:Sp→Option Nat) (hm:a.eval m=.map (some b)) (H:HeldAt w b n F) (s:Sp) (h1:s.c<4096) (h2:s.k<8) (hx:a.eval x=.agg #[.int .i64 ((s.c:Nat):Int),.int .i64 ((s.k:Nat):Int)])
  (hK:wpList Tryz.prog ops Q rest (a.put o.dst (.tuple #[.int .i64 (((F s).getD 0:Nat):Int),.bool (F s).isSome])) w):wpList Tryz.prog ops Q (o::rest) a w:=by
 obtain⟨D,hown,hF⟩:=H
 obtain⟨e1,e2⟩:=hF s h1 h2
 refine wpList_lookup_own_ok_int w hg m x 208 hop 211 3 .i64 mp_law Tryz.underlying208 Tryz.underlying3 (zeroI w) b n D hm hown _ (spLit s) hx (sp_key h1 h2) ?_
 intro c hat _
 rw[e1]
 have hc:c=(((F s).getD 0:Nat):Int):=by
  cases q:F s with
  | none =>
   rw[q]at e1
   rw[Maps.atKey_of_not_has e1]at hat
   simp only[DataW.lit.injEq,Lit.int.injEq,true_and]at hat
   rw[←hat]
   rfl
  | some v =>
   rw[e2 v q]at hat
   simp only[DataW.lit.injEq,Lit.int.injEq,true_and]at hat
   exact hat.symm
 rw[hc]
 exact hK
theorem wpList_held_put {ops:Array Oper} {rest:List Oper} {o:Oper} {a:Act} {w:World} {Q:Exit→Act→World→Prop} (hg:o.guard=none) (m x v:Operand) (hop:o.op=Op.mapUpdate 208 m x v)
  (b n:Nat) (F:Sp→Option Nat) (hm:a.eval m=.map (some b)) (H:HeldAt w b n F) (hn:n<maxLen) (s:Sp) (h1:s.c<4096) (h2:s.k<8) (hx:a.eval x=.agg #[.int .i64 ((s.c:Nat):Int),.int .i64 ((s.k:Nat):Int)]) (r:Nat) (hr:r<4096) (hv:a.eval v=.int .i64 (r:Int))
  (hK:∀ w',HeldAt w' b (n+1) (fun t=>if t=s then some r else F t)→w.grownBy w' (some b)→wpList Tryz.prog ops Q rest (a.put o.dst undef) w'):wpList Tryz.prog ops Q (o::rest) a w:=by
 obtain⟨D,hown,hF⟩:=H
 refine wpList_mapUpdate_own w hg m x v 208 hop 211 3 mp_law Tryz.underlying208 _ b n D hm hown hn _ _ (spLit s) hx hv (sp_key h1 h2) _ [] (plainElem_int Tryz.underlying3 (WalkArith.wf_i64 (by omega))) ?_
 intro w' hown' hgrow
 refine hK w' ⟨_,hown',fun t a b=>?_⟩ hgrow
 have hD:Maps.IsMap D:=by
  obtain⟨es,clock,_,_,_,e⟩:=hown
  exact⟨_,e⟩
 by_cases e:t=s
 ·subst e
  simp only[if_true]
  refine⟨by rw[Maps.has_put_same hD (mp_law.key (sp_key a b))];rfl,fun v hv=>?_⟩
  injection hv with hv
  subst hv
  exact Maps.atKey_put_same hD (mp_law.key (sp_key a b)) _ _
 ·simp only[if_neg e]
  have ne:spLit t≠spLit s:=fun q=>e (spLit_inj a b h1 h2 q)
  rw[Maps.has_put_other ne]
  refine⟨(hF t a b).1,fun v hv=>?_⟩
  rw[Maps.atKey_put_other ne]
  exact(hF t a b).2 v hv
def Mut (M:Nat) (w w':World):Prop:=w.heap.size≤w'.heap.size∧∀ b,b<w.heap.size→b≠M→w'.heap[b]? = w.heap[b]?
theorem Mut.refl (M:Nat) (w:World):Mut M w w:=⟨Nat.le_refl _,fun _ _ _=>rfl⟩
theorem Mut.trans {M:Nat} {a b c:World} (h:Mut M a b) (k:Mut M b c):Mut M a c:=⟨Nat.le_trans h.1 k.1,fun x hx hm=>(k.2 x (Nat.lt_of_lt_of_le hx h.1) hm).trans (h.2 x hx hm)⟩
theorem Mut.new {M:Nat} {a b:World} (h:New a b):Mut M a b:=⟨h.size,fun x hx _=>h.block x hx⟩
theorem Mut.grown {M:Nat} {a b:World} (h:a.grownBy b (some M)):Mut M a b:=⟨h.size,fun x hx hm=>h.block x hx (fun e=>hm (by injection e))⟩
theorem Mut.cell {M:Nat} {a b:World} (h:Mut M a b) {x o:Nat} {v:Value} (hc:a.cell? ⟨x,o,none⟩=some v) (hm:x≠M):b.cell? ⟨x,o,none⟩=some v :=
 (World.cell?_of_block (a:=⟨x,o,none⟩) (h.2 x (World.block_lt_of_cell? _ _ hc) hm)).trans hc
theorem HeldAt.sl {w w':World} {b n:Nat} {F:Sp→Option Nat} (h:HeldAt w b n F) {u:Value} {l:List Sp} (hs:Sl Sp.enc 2 w u l) (hm:Mut b w w'):Sl Sp.enc 2 w' u l:=by
 obtain⟨a,c,rfl,h1,h2,h3,h4⟩:=hs
 refine⟨a,c,rfl,h1,h2,h3,fun h0=>?_⟩
 obtain⟨x,off,rfl,hr⟩:=h4 h0
 refine⟨x,off,rfl,fun j hj i hi=>?_⟩
 have hc:=hr j hj i hi
 exact hm.cell hc (h.nocell hc)
def putF (F:Sp→Option Nat) (r:Nat) (P:List Sp) (s:Sp):Option Nat:=match F s with
 | some v=>some v
 | none=>if s∈P then some r else none
theorem putF_nil (F:Sp→Option Nat) (r:Nat) (s:Sp):putF F r [] s=F s:=by
 unfold putF
 cases F s <;> simp
theorem putF_old {F:Sp→Option Nat} {r:Nat} {P:List Sp} {s:Sp} (h:(putF F r P s).isSome=true) (t:Sp):putF F r (P++[s]) t=putF F r P t:=by
 unfold putF at h ⊢
 cases q:F t with
 | some v=>rfl
 | none =>
  simp only[List.mem_append,List.mem_singleton]
  by_cases e:t=s
  ·subst e
   rw[q]at h
   simp only at h
   by_cases p:t∈P
   ·rw[if_pos (.inl p),if_pos p]
   ·rw[if_neg p]at h;cases h
  ·by_cases p:t∈P
   ·rw[if_pos (.inl p),if_pos p]
   ·rw[if_neg (by rintro(q|q);exact p q;exact e q),if_neg p]
theorem putF_new {F:Sp→Option Nat} {r:Nat} {P:List Sp} {s:Sp} (h:putF F r P s=none) (t:Sp):(if t=s then some r else putF F r P t)=putF F r (P++[s]) t:=by
 by_cases e:t=s
 ·subst e
  rw[if_pos rfl]
  unfold putF at h ⊢
  cases q:F t with
  | some v=>rw[q]at h;cases h
  | none=>simp
 ·rw[if_neg e]
  unfold putF
  cases q:F t with
  | some v=>rfl
  | none =>
   simp only[List.mem_append,List.mem_singleton]
   by_cases p:t∈P
   ·simp[p]
   ·simp[p,e]
def MemP (l P:List Sp) (F:Sp→Option Nat):Prop:=∀ s,s∈l↔s∈P∧F s=none
theorem MemP.old {l P:List Sp} {F:Sp→Option Nat} {r:Nat} {s:Sp} (h:MemP l P F) (q:(putF F r P s).isSome=true):MemP l (P++[s]) F:=fun t=>by
 rw[h t,List.mem_append,List.mem_singleton]
 constructor
 ·rintro⟨a,b⟩;exact⟨.inl a,b⟩
 ·rintro⟨a|a,b⟩
  ·exact⟨a,b⟩
  ·subst a
   unfold putF at q
   rw[b]at q
   simp only at q
   by_cases p:t∈P
   ·exact⟨p,b⟩
   ·rw[if_neg p]at q;cases q
theorem MemP.put {l P:List Sp} {F:Sp→Option Nat} {r:Nat} {s:Sp} (h:MemP l P F) (q:putF F r P s=none):MemP (l++[s]) (P++[s]) F:=fun t=>by
 rw[List.mem_append,List.mem_append,List.mem_singleton,h t]
 have hs:F s=none:=by
  unfold putF at q
  cases p:F s with
  | some v=>rw[p]at q;cases q
  | none=>rfl
 constructor
 ·rintro(⟨a,b⟩|a)
  ·exact⟨.inl a,b⟩
  ·subst a;exact⟨.inr rfl,hs⟩
 ·rintro⟨a|a,b⟩
  ·exact .inl ⟨a,b⟩
  ·exact .inr a
def rdP (N:Net) (R:List Sp) (i:Nat):List Sp:=(R.take i).flatMap (arP N.go)
theorem rdP_succ (N:Net) (R:List Sp) {i:Nat} (h:i<R.length):rdP N R (i+1)=rdP N R i++arP N.go R[i]:=by
 unfold rdP
 rw[List.take_succ_eq_append_getElem h,List.flatMap_append]
 simp
theorem rdP_len (N:Net) (R:List Sp):∀ i,(rdP N R i).length≤8*i
 | 0=>by simp[rdP]
 | i+1=>by
  have h1:=rdP_len N R i
  by_cases h:i<R.length
  ·rw[rdP_succ N R h,List.length_append]
   have:=arP_len (go:=N.go) R[i]
   omega
  ·have e:rdP N R (i+1)=rdP N R i:=by
    unfold rdP
    rw[List.take_of_length_le (by omega),List.take_of_length_le (by omega)]
   rw[e]
   omega
theorem wpList_app_sp {ops:Array Oper} {rest:List Oper} {o:Oper} {a:Act} {w:World} {Q:Exit→Act→World→Prop} (hgd:o.guard=none) (s x:Operand) (ho:o.op=.call { callee:=.builtin .append,args:=#[s,x],argTypes:=#[255,255] })
  (base:Nat) (v:Value) (l:List Sp) (hs:a.eval s=v) (hown:w.ownsRow base 211 2 v l.length (l.flatMap Sp.enc)) (g:Nat) (T:Sp) (hx:a.eval x=.slice (some ⟨g,0,none⟩) 1 1)
  (h0:w.cell? ⟨g,0,none⟩=some (.int .i64 ((T.c:Nat):Int))) (h1:w.cell? ⟨g,1,none⟩=some (.int .i64 ((T.k:Nat):Int))) (hl:l.length≤17179869184) (hbase:base≤w.heap.size)
  (h:∀ v' w',w'.ownsRow base 211 2 v' (l++[T]).length ((l++[T]).flatMap Sp.enc)→w.grownBy w' v.ownBlock→(v'.ownBlock=v.ownBlock∨v'.ownBlock=some w.heap.size)→wpList Tryz.prog ops Q rest (a.put o.dst v') w'):wpList Tryz.prog ops Q (o::rest) a w:=by
 obtain⟨i0,hi0,hz0,hz1,hz2⟩:=info_parts fst_info
 refine wpList_append_own_at w hgd s x 255 ho base 211 i0 (.agg #[.int .i64 0,.int .i64 0]) 2 16 Tryz.underlying255 hi0 hz0 hz1 hz2 rfl (by decide) v l.length (l.flatMap Sp.enc) hs hown ⟨g,0,none⟩ 1 1 T.enc hx rfl ?_ (Sp.enc_one T) (by unfold maxLen;omega) (by omega) hbase ?_
 ·intro j u hj
  match j,hj with
  | 0,hj =>
   injection hj with hj
   subst hj
   exact h0
  | 1,hj =>
   injection hj with hj
   subst hj
   exact h1
  | j+2,hj=>cases hj
 ·intro v' w' h2 h3 _ h5
  exact h v' w' (by simpa using h2) h3 h5
def Nexted (F:Sp→Option Nat) (r:Nat) (P:List Sp) (wB w:World) (M n:Nat) (e:Ending) (w':World):Prop:=∃ a c l,e=.returned (.slice a l.length c)∧Sl Sp.enc 2 w' (.slice a l.length c) l∧(∀ g,(Value.slice a l.length c).ownBlock=some g→w.heap.size≤g)∧MemP l P F∧l.length≤P.length∧HeldAt w' M (n+P.length) (putF F r P)∧Mut M w w'∧New wB w'
theorem fd_next (N:Net) (la:Option Addr) (lc:Nat) (R:List Sp) (hR:∀ s∈R,SpIn N.M s) (hRl:R.length≤1073741824) (r:Nat) (hr:r<4096) (wB w:World) (hnB:New wB w) (h:RowsK Lnk.enc 4 wB (.slice la N.M.length lc) N.M) (hD:Dirs wB) (B0 B1 B2 M n:Nat) (hM:wB.heap.size≤M) (hn:n≤17179869184) (hG:GnAt N.W (.slice la N.M.length lc) wB B0) (ra:Option Addr) (rc:Nat) (c1:w.cell? ⟨B1,0,none⟩=some (.slice ra R.length rc)) (hS:Sl Sp.enc 2 w (.slice ra R.length rc) R) (c2:w.cell? ⟨B2,0,none⟩=some (.map (some M))) (F:Sp→Option Nat) (hH:HeldAt w M n F):Calls Tryz.prog 181 #[.int .i64 (r:Nat),.pointer (some ⟨B1,0,none⟩),.pointer (some ⟨B0,0,none⟩),.pointer (some ⟨B2,0,none⟩)] w (Nexted F r (rdP N R R.length) wB w M n):=by
 obtain⟨i0,hi0,hz0,hz1,hz2⟩:=info_parts fst_info
 have KA:=Lib.hid (fun s hs W (q:New wB W)=>fd_around N la lc s hs wB W q h (hD.new q))
 have HG:=Lib.hid (fun W (q:New wB W)=>hG.new q)
 have HRI:=Lib.hid hR
 have HSM:=Lib.hid (fun s hs=>N.small (s:=s) (hR s hs))
 have HAI:Hid (∀ s∈R,∀ t∈arP N.go s,t.c<4096∧t.k<8):=Lib.hid (fun s hs t ht=>N.small (N.sym s (hR s hs) t ht).1)
 have HPS:=Lib.hid (fun i (hi:i<R.length)=>rdP_succ N R hi)
 have HPL:=Lib.hid (fun i=>rdP_len N R i)
 have HP0:Hid (rdP N R 0=[]):=Lib.hid (by unfold rdP;simp)
 have hM2:M<w.heap.size:=hH.lt
 have hb1:=World.block_lt_of_cell? _ _ c1
 have hb2:=World.block_lt_of_cell? _ _ c2
 simp only[]at hb1 hb2
 have n1:=hH.nocell c1
 have n2:=hH.nocell c2
 have HSL:Hid (∀ W,Mut M w W→Sl Sp.enc 2 W (.slice ra R.length rc) R):=Lib.hid (fun W q=>hH.sl hS q)
 have HC2:Hid (∀ W,Mut M w W→W.cell? ⟨B2,0,none⟩=some (.map (some M))):=Lib.hid (fun W q=>q.cell c2 n2)
 have HAL:=Lib.hid (fun s=>arP_len (go:=N.go) s)
 obtain⟨nm,hnm⟩:∃ n,n=N.M.length:=⟨_,rfl⟩
 rw[←hnm]at KA HG
 obtain⟨wd,hwd⟩:∃ q,q=N.W:=⟨_,rfl⟩
 rw[←hwd]at KA HG
 obtain⟨rn,hrn⟩:∃ q,q=R.length:=⟨_,rfl⟩
 rw[←hrn]at HSL c1 hRl ⊢
 have HRN:=Lib.hid hrn
 have HH:=Lib.hid hH
 have HnB:=Lib.hid hnB
 have HMB:=Lib.hid hM
 have hg0:=World.block_lt_of_cell? _ _ hG.c0
 simp only[]at hg0
 have hgw:B0<w.heap.size:=Nat.lt_of_lt_of_le hg0 hnB.size
 clear hnm hwd h hD hnB hR hG hS hH hrn hM
 generalize rdP N R=pf at *
 obtain⟨Q,hQ⟩:∃ Q,Q=Nexted F r (pf rn) wB w M n:=⟨_,rfl⟩
 rw[←hQ]
 have HQ:=Lib.hid hQ
 clear hQ
 obtain⟨base,hbase⟩:∃ q,q=w.heap.size:=⟨_,rfl⟩
 have HB:=Lib.hid hbase
 go_enter Tryz.func181,Tryz.ntmps181
 go_wp2_with fail
 clear c1 c2
 rw[←hbase]at hM2
 clear hbase
 go_loopg [14,5] rn (fun gk s14 s5 wr=>∃ (i:Nat) (ca:Option Addr) (cn cc:Nat) (l:List Sp),s14=.int .i64 i∧s5=.slice ca cn cc∧i≤rn∧rn - i≤gk∧Hid (wr.ownsRow base 211 2 (.slice ca cn cc) l.length (l.flatMap Sp.enc))∧Hid (MemP l (pf i) F∧l.length≤(pf i).length)∧Hid (HeldAt wr M (n+(pf i).length) (putF F r (pf i)))∧Hid (Mut M w wr)∧Hid (New wB wr))
 case atStart=>exact⟨0,none,0,0,[],rfl,rfl,by omega,by omega,Lib.hid (World.ownsRow_nil _ _ _ _),Lib.hid ⟨by rw[HP0.out];intro s;simp,by simp⟩,Lib.hid (HH.out.congr (by omega) (fun s _ _=>by rw[HP0.out,putF_nil])),Lib.hid (Mut.refl _ _),HnB⟩
 case round =>
  obtain⟨i,ca,cn,cc,l,rfl,rfl,hi,hgk,hown,hl,hheld,hmut,hnr⟩:=hrel
  by_cases hlt:i<rn
  ·have hil:i<R.length:=by rw[←HRN.out];exact hlt
   obtain⟨-,-,-,-,hrow⟩:=(HSL.out _ hmut.out).row'
   obtain⟨b,off,rfl,hA⟩:=hrow (by omega)
   obtain⟨e0,e1⟩:=Sp.cells hA i hil
   have hmem:R[i]∈R:=List.getElem_mem hil
   have hin:=HRI.out R[i] hmem
   have KAi:=Lib.hid (KA.out R[i] hin)
   have hps:=HPS.out i hil
   have hal:=HAL.out R[i]
   have hai:=Lib.hid (HAI.out R[i] hmem)
   obtain⟨S,hS⟩:∃ q,q=R[i]:=⟨_,rfl⟩
   rw[←hS]at KAi hps hal hai e0 e1
   clear hmem hin hS hA hrow
   obtain⟨ar,har⟩:∃ q,q=arP N.go S:=⟨_,rfl⟩
   rw[←har]at KAi hps hal hai
   have HPSI:=Lib.hid hps
   have hpl:=HPL.out i
   obtain⟨P,hP⟩:∃ q,q=pf i:=⟨_,rfl⟩
   rw[←hP]at hl hheld HPSI hpl
   obtain⟨al,hal2⟩:∃ q,q=ar.length:=⟨_,rfl⟩
   rw[←hal2]at KAi hal
   have HAR:=Lib.hid hal2
   have HGK:=Lib.hid hgk
   clear har hps hP hal2 hgk
   rename World=>Wo
   go_upto_region 4 with fail
   refine Code.at (fun W5 hW=>?_)
   have n5:New Wo W5:=by subst hW;exact nw
   have HQ5:Hid (SpAt S W5 Wo.heap.size):=Lib.hid (by subst hW;exact⟨by go_simp,by go_simp⟩)
   clear hW e0 e1
   have N5:=Lib.hid (hnr.out.trans n5)
   have M5:=Lib.hid (hmut.out.trans (Mut.new n5))
   have HO5:=Lib.hid (own_new hown.out n5)
   have HH5:=Lib.hid (hheld.out.new n5)
   clear n5 hown hheld hmut hnr
   obtain⟨q0,q1⟩:=HQ5.out
   obtain⟨g0,g1⟩:=HG.out _ N5.out
   go_wp2_with fail
   refine(KAi.out _ N5.out).mono ?_
   rintro e w6 ⟨a6,c6,rfl,hs6,hg6,n6⟩
   have HAP:Hid (∀ g,(Value.slice ca cn cc).ownBlock=some g→(Value.slice a6 al c6).ownBlock≠some g):=Lib.hid (fun g e e2=>by
    have h1:=(HO5.out.lt g e).2
    have h2:=hg6 g e2
    omega)
   replace N5:=Lib.hid (N5.out.trans n6)
   replace M5:=Lib.hid (M5.out.trans (Mut.new n6))
   replace HO5:=Lib.hid (own_new HO5.out n6)
   replace HH5:=Lib.hid (HH5.out.new n6)
   have HS6:=Lib.hid hs6
   clear n6 g0 g1 q0 q1 KAi hs6 HQ5 hg6
   go_wp2_with fail
   go_loopg [22,5] al (fun gk s22 s5 wr=>∃ (j:Nat) (ca:Option Addr) (cn cc:Nat) (l:List Sp),s22=.int .i64 j∧s5=.slice ca cn cc∧j≤al∧al - j≤gk∧Hid (wr.ownsRow base 211 2 (.slice ca cn cc) l.length (l.flatMap Sp.enc))∧Hid (MemP l (P++ar.take j) F∧l.length≤(P++ar.take j).length)∧Hid (HeldAt wr M (n+(P++ar.take j).length) (putF F r (P++ar.take j)))∧Hid (Sl Sp.enc 2 wr (.slice a6 al c6) ar)∧Hid (∀ g,(Value.slice ca cn cc).ownBlock=some g→(Value.slice a6 al c6).ownBlock≠some g)∧Hid (Mut M w wr)∧Hid (New wB wr))
   case atStart=>exact⟨0,ca,cn,cc,l,rfl,rfl,by omega,by omega,HO5,Lib.hid (by rw[List.take_zero,List.append_nil];exact hl.out),Lib.hid (by rw[List.take_zero,List.append_nil];exact HH5.out),HS6,HAP,M5,N5⟩
   case round =>
    clear HO5 HH5 N5 hl M5 HS6 HAP
    obtain⟨j,ca,cn,cc,l,rfl,rfl,hj,hgk,hown,hl,hheld,HS6,HAP,hmut,hnr⟩:=hrel
    by_cases hjt:j<al
    ·have hjl:j<ar.length:=by rw[←HAR.out];exact hjt
     obtain⟨-,-,-,-,hrow⟩:=HS6.out.row'
     obtain⟨b,off,rfl,hA⟩:=hrow (by omega)
     obtain⟨e0,e1⟩:=Sp.cells hA j hjl
     have htk:ar.take (j+1)=ar.take j++[ar[j]]:=List.take_succ_eq_append_getElem hjl
     obtain⟨hsc,hsk⟩:=hai.out ar[j] (List.getElem_mem hjl)
     have hm2:=HC2.out _ hmut.out
     obtain⟨T,hT⟩:∃ q,q=ar[j]:=⟨_,rfl⟩
     rw[←hT]at e0 e1 htk hsc hsk
     have hPl:(P++ar.take j).length≤8*i+8:=by rw[List.length_append,List.length_take];omega
     have htk2:P++ar.take (j+1)=(P++ar.take j)++[T]:=by rw[htk,List.append_assoc]
     have HTK:=Lib.hid htk2
     obtain⟨PP,hPP⟩:∃ q,q=P++ar.take j:=⟨_,rfl⟩
     rw[←hPP]at hl hheld HTK hPl
     clear hT htk htk2 hPP hA hrow
     rename World=>Wi
     go_upto_region 7 with fail
     refine Code.at (fun W7 hW=>?_)
     have n7:New Wi W7:=by subst hW;exact nw
     have HQ7:Hid (SpAt T W7 Wi.heap.size):=Lib.hid (by subst hW;exact⟨by go_simp,by go_simp⟩)
     clear hW e0 e1
     replace hm2:=n7.keep hm2
     have N7:=Lib.hid (hnr.out.trans n7)
     have M7:=Lib.hid (hmut.out.trans (Mut.new n7))
     have HO7:=Lib.hid (own_new hown.out n7)
     have HH7:=Lib.hid (hheld.out.new n7)
     replace HS6:=Lib.hid (HS6.out.keep n7)
     clear n7 hown hheld hmut hnr
     obtain⟨q0,q1⟩:=HQ7.out
     obtain⟨o,ho⟩:∃ o,o=putF F r PP T:=⟨_,rfl⟩
     have HPO:=Lib.hid ho
     clear ho
     go_upto_region 8 with (at_lookup;refine wpList_held rfl _ _ rfl M (n+PP.length) (putF F r PP) rfl HH7.out T hsc hsk rfl ?_;rw[←HPO.out])
     rcases o with _|v
     ·have hF:Hid (putF F r PP T=none):=Lib.hid HPO.out.symm
      clear HPO
      simp only[Option.isSome_none,Option.getD_none]
      go_upto_region 10 with (at_mapUpdate;refine wpList_held_put rfl _ _ _ rfl M (n+PP.length) (putF F r PP) rfl HH7.out (by unfold maxLen;omega) T hsc hsk rfl r hr rfl ?_;intro w8 hheld8 hgrow8)
      have HH8:Hid (HeldAt w8 M (n+(PP++[T]).length) (putF F r (PP++[T]))):=Lib.hid (hheld8.congr (by simp;omega) (fun t _ _=>putF_new hF.out t))
      have HO8:=Lib.hid (HO7.out.kept hgrow8 (by
       right
       intro e
       have:=own_block HO7.out M e
       omega))
      have M8:=Lib.hid (M7.out.trans (Mut.grown hgrow8))
      have HS8:=Lib.hid (HH7.out.sl HS6.out (Mut.grown hgrow8))
      have N8:=Lib.hid (newGrown N7.out hgrow8 (fun k e=>by injection e with e;have:=HMB.out;omega))
      have hqn:Wi.heap.size≠M:=HH7.out.nocell q0
      have q0':=hgrow8.cell q0 (by simpa using hqn)
      have q1':=hgrow8.cell q1 (by simpa using hqn)
      have HML:Hid (MemP (l++[T]) (PP++[T]) F∧(l++[T]).length≤(PP++[T]).length):=Lib.hid ⟨hl.out.1.put hF.out,by have:=hl.out.2;simp;omega⟩
      have hll:l.length≤8*i+8:=by have:=hl.out.2;omega
      have hbz:base≤w8.heap.size:=by rw[HB.out];exact M8.out.1
      clear hheld8 hgrow8 HO7 HH7 M7 N7 q0 q1 hl hF hm2 HS6
      go_upto_region 10 with fail
      obtain⟨w9,hw9⟩:∃ q,q=w8.alloc (.cells #[.int .i64 ((T.c:Nat):Int),.int .i64 ((T.k:Nat):Int)] 211):=⟨_,rfl⟩
      have n9:New w8 w9:=by subst hw9;exact(New.refl _).alloc _
      have t0:w9.cell? ⟨w8.heap.size,0,none⟩=some (.int .i64 ((T.c:Nat):Int)):=by subst hw9;exact cell_of_heap (heap_new _ _) rfl
      have t1:w9.cell? ⟨w8.heap.size,1,none⟩=some (.int .i64 ((T.k:Nat):Int)):=by subst hw9;exact cell_of_heap (heap_new _ _) rfl
      have HO9:=Lib.hid (own_new HO8.out n9)
      have HH9:=Lib.hid (HH8.out.new n9)
      have HS9:=Lib.hid (HS8.out.keep n9)
      have M9:=Lib.hid (M8.out.trans (Mut.new n9))
      have N9:=Lib.hid (N8.out.trans n9)
      have hbz9:base≤w9.heap.size:=Nat.le_trans hbz n9.size
      go_wp2_with (at_builtin;rw[←hw9];refine wpList_app_sp rfl _ _ rfl base _ l rfl HO9.out w8.heap.size T rfl t0 t1 (by omega) hbz9 ?_;intro v' w1 hown' hgrow hat;obtain⟨a',d',N',hN',rfl⟩:=own_shape2 hown';clear hN')
      have hob:=own_block HO9.out
      replace hgrow:w9.grownBy w1 (Value.slice ca cn cc).ownBlock:=hgrow
      replace hat:(Value.slice a' N' d').ownBlock=(Value.slice ca cn cc).ownBlock∨(Value.slice a' N' d').ownBlock=some w9.heap.size:=hat
      have hnx:Hid (Sl Sp.enc 2 w1 (.slice (some ⟨b,off,none⟩) al c6) ar):=Lib.hid (slk_other HS9.out hgrow (fun _ g e e2=>HAP.out g e2 e))
      have HAP':Hid (∀ g,(Value.slice a' N' d').ownBlock=some g→(Value.slice (some ⟨b,off,none⟩) al c6).ownBlock≠some g):=Lib.hid (fun g e e2=>by
       rcases hat with q|q
       ·exact HAP.out g (by rw[←q];exact e) e2
       ·have h1:=slk_lt Sp.enc_len (by omega) HS9.out (by omega) e2
        rw[q]at e
        injection e with e
        omega)
      have HH10:Hid (HeldAt w1 M (n+(P++ar.take (j+1)).length) (putF F r (P++ar.take (j+1)))):=Lib.hid (by
       rw[HTK.out]
       exact HH9.out.kept hgrow (fun e=>by have:=hob M e.symm;omega))
      have HL10:Hid (MemP (l++[T]) (P++ar.take (j+1)) F∧(l++[T]).length≤(P++ar.take (j+1)).length):=Lib.hid (by rw[HTK.out];exact HML.out)
      have M10:Hid (Mut M w w1):=Lib.hid ⟨Nat.le_trans M9.out.1 hgrow.size,fun x hx hne=>by
       rw[hgrow.block x (Nat.lt_of_lt_of_le hx M9.out.1) (fun e=>by have:=hob x e.symm;have:=HB.out;omega)]
       exact M9.out.2 x hx hne⟩
      have N10:=Lib.hid (newGrown N9.out hgrow (fun k e=>by have:=hob k e;have:=HB.out;have:=HnB.out.size;omega))
      clear hgrow hat hob HO9 HH9 HS9 M9 N9
      go_roundg (al - (j+1))
      case measure=>omega
      case rel=>exact⟨j+1,a',N',d',l++[T],by go_num,rfl,by omega,by omega,Lib.hid hown',HL10,HH10,hnx,HAP',M10,N10⟩
     ·have hF:Hid ((putF F r PP T).isSome=true):=Lib.hid (by rw[←HPO.out];rfl)
      clear HPO
      simp only[Option.isSome_some]
      have HH9:Hid (HeldAt W7 M (n+(P++ar.take (j+1)).length) (putF F r (P++ar.take (j+1)))):=Lib.hid (by
       rw[HTK.out]
       exact HH7.out.congr (by rw[List.length_append];omega) (fun t _ _=>(putF_old hF.out t).symm))
      have HL9:Hid (MemP l (P++ar.take (j+1)) F∧l.length≤(P++ar.take (j+1)).length):=Lib.hid (by
       rw[HTK.out]
       exact⟨hl.out.1.old hF.out,by have:=hl.out.2;simp;omega⟩)
      clear HH7 hl hF q0 q1 hm2
      go_wp2_with fail
      go_roundg (al - (j+1))
      case measure=>omega
      case rel=>exact⟨j+1,ca,cn,cc,l,by go_num,rfl,by omega,by omega,HO7,HL9,HH9,HS6,HAP,M7,N7⟩
    ·obtain rfl:j=al:=by omega
     have hfull:P++ar.take j=pf (i+1):=by rw[HPSI.out,List.take_of_length_le (by rw[HAR.out];exact Nat.le_refl _)]
     rw[hfull]at hl hheld
     clear hfull
     have hgk:=HGK.out
     go_wp2_with fail
     go_roundg (rn - (i+1))
     case measure=>omega
     case rel=>exact⟨i+1,ca,cn,cc,l,by go_num,rfl,by omega,by omega,hown,hl,hheld,hmut,hnr⟩
  ·obtain rfl:i=rn:=by omega
   have hsl:=own_sl Sp.enc_len hown.out
   obtain⟨a1,c1,e1,-⟩:=id hsl
   injection e1 with e1 e2 e3
   subst e1 e2 e3
   have hob:∀ g,(Value.slice ca l.length cc).ownBlock=some g→w.heap.size≤g:=fun g e=>by rw[←HB.out];exact own_block hown.out g e
   have HOB:=Lib.hid hob
   have HEND:=Lib.hid (And.intro hsl (And.intro hl.out (And.intro hheld.out (And.intro hmut.out hnr.out))))
   clear hown hsl hl hheld hmut hnr hob
   go_wp2_with fail
   rw[HQ.out]
   exact⟨_,_,l,rfl,HEND.out.1,HOB.out,HEND.out.2.1.1,HEND.out.2.1.2,HEND.out.2.2.1,HEND.out.2.2.2.1,HEND.out.2.2.2.2⟩
theorem mem_rdP (N:Net) (R:List Sp) (t:Sp):t∈rdP N R R.length↔∃ s∈R,t∈arP N.go s:=by
 unfold rdP
 rw[List.take_length,List.mem_flatMap]
theorem putF_zero (P:List Sp) (s t:Sp):(if t=s then some 0 else putF (fun _=>none) 0 P t)=putF (fun _=>none) 0 (P++[s]) t:=by
 unfold putF
 simp only[List.mem_append,List.mem_singleton]
 by_cases e:t=s
 ·simp[e]
 ·simp[e]
structure RdOK (N:Net) (f n:Nat) (R:List Sp) (F:Sp→Option Nat):Prop where
 mem:∀ s,s∈R↔SpIn N.M s∧justB N.go f s=true
 len:R.length≤32768*8 ^ f
 cnt:n≤65536*8 ^ f
 held:∀ s,SpIn N.M s→F s=heldF N.go f s
theorem RdOK.zero (N:Net) {n:Nat} (hn:n=(edgeL N).length):RdOK N 0 n (edgeL N) (putF (fun _=>none) 0 (edgeL N)):=by
 have hl:=edge_len N
 refine⟨fun s=>?_,by omega,by omega,fun s hs=>?_⟩
 ·rw[mem_edge,just_zero,Bool.not_eq_true']
 ·rw[held_zero]
  unfold putF
  simp only[mem_edge,hs,true_and]
  cases fulP N.go s <;> simp
theorem RdOK.next {N:Net} {f n:Nat} {R l:List Sp} {F:Sp→Option Nat} (h:RdOK N f n R F) (hm:MemP l (rdP N R R.length) F) (hl:l.length≤(rdP N R R.length).length):RdOK N (f+1) (n+(rdP N R R.length).length) l (putF F (f+1) (rdP N R R.length)):=by
 have hp:=rdP_len N R R.length
 have h1:=h.len
 have h2:=h.cnt
 have hP:∀ t,t∈rdP N R R.length↔∃ s,SpIn N.M s∧justB N.go f s=true∧t∈arP N.go s:=fun t=>by
  rw[mem_rdP]
  constructor
  ·rintro⟨s,hs,ht⟩
   exact⟨s,((h.mem s).1 hs).1,((h.mem s).1 hs).2,ht⟩
  ·rintro⟨s,a,b,c⟩
   exact⟨s,(h.mem s).2 ⟨a,b⟩,c⟩
 refine⟨fun s=>?_,by rw[Nat.pow_succ];omega,by rw[Nat.pow_succ];omega,fun s hs=>?_⟩
 ·rw[hm s,hP s]
  constructor
  ·rintro⟨⟨u,a,b,c⟩,e⟩
   have hs:=(N.sym u a s c).1
   rw[h.held s hs]at e
   exact⟨hs,(just_next N.sym hs).2 ⟨e,u,a,b,c⟩⟩
  ·rintro⟨hs,q⟩
   obtain⟨e,u,a,b,c⟩:=(just_next N.sym hs).1 q
   exact⟨⟨u,a,b,c⟩,by rw[h.held s hs];exact e⟩
 ·rw[held_next N.sym hs (s∈rdP N R R.length) (hP s)]
  unfold putF
  rw[h.held s hs]
  cases heldF N.go f s <;> rfl
theorem RdOK.last {N:Net} {f n:Nat} {R:List Sp} {F:Sp→Option Nat} (h:RdOK N f n R F) {s:Sp} (hs:SpIn N.M s):(F s).getD (f+1)=clr N.go (f+1) s:=by
 rw[h.held s hs]
 exact held_end (Nat.le_refl _) (fun q=>q)
theorem RdOK.stop {N:Net} {f n m:Nat} {R:List Sp} {F:Sp→Option Nat} (h:RdOK N f n R F) (h0:R.length=0) (hf:f<m) {s:Sp} (hs:SpIn N.M s):(F s).getD m=clr N.go m s:=by
 rw[h.held s hs]
 have hR:R=[]:=List.eq_nil_of_length_eq_zero h0
 have hj:∀ s,SpIn N.M s→justB N.go f s=false:=fun u hu=>by
  cases q:justB N.go f u
  ·rfl
  ·have:=(h.mem u).2 ⟨hu,q⟩
   rw[hR]at this
   cases this
 refine held_end hf (fun q=>?_)
 have:=no_more N.sym hj (m - f) s hs (geB_down _ _ q)
 rw[show f+(m - f)=m by omega]at this
 exact this
theorem pow_five {f:Nat} (h:f≤5):8 ^ f≤32768:=by
 rcases(show f=0∨f=1∨f=2∨f=3∨f=4∨f=5 by omega)with rfl|rfl|rfl|rfl|rfl|rfl <;> decide
theorem HeldAt.set {w:World} {b n:Nat} {F:Sp→Option Nat} (h:HeldAt w b n F) {p:Addr} (hp:b≠p.block) (v:Value):HeldAt (w.setCell p v) b n F:=by
 obtain⟨D,⟨es,clock,hb,r⟩,h2⟩:=h
 exact⟨D,⟨es,clock,(Below.heap_setCell _ _ _ _ hp).trans hb,r⟩,h2⟩
theorem sl_set {w:World} {u:Value} {l:List Sp} (hs:Sl Sp.enc 2 w u l) {p:Addr} (hp:∀ g,u.ownBlock=some g→g≠p.block) (x:Value):Sl Sp.enc 2 (w.setCell p x) u l:=by
 obtain⟨a,c,rfl,h1,h2,h3,h4⟩:=hs
 refine⟨a,c,rfl,h1,h2,h3,fun h0=>?_⟩
 obtain⟨b,off,rfl,hr⟩:=h4 h0
 have hne:b≠p.block:=hp b (by simp[Value.ownBlock])
 refine⟨b,off,rfl,fun i hi q hq=>?_⟩
 rw[World.cell?_of_block (a:=⟨b,off+i*2+q,none⟩) (Below.heap_setCell _ _ _ _ hne)]
 exact hr i hi q hq
def Grown (N:Net) (m:Nat) (w:World) (e:Ending) (w':World):Prop:=∃ M n F,e=.returned (.map (some M))∧HeldAt w' M n F∧(∀ s,SpIn N.M s→(F s).getD m=clr N.go m s)∧New w w'
theorem fd_grow (N:Net) (la:Option Addr) (lc:Nat) (m:Nat) (hm1:1≤m) (hm6:m≤6) (w:World) (h:RowsK Lnk.enc 4 w (.slice la N.M.length lc) N.M) (hD:Dirs w):Calls Tryz.prog 143 #[.agg #[.int .i64 ((N.W:Nat):Int),.slice la N.M.length lc],.int .i64 (m:Nat)] w (Grown N m w):=by
 have KE:=Lib.hid (fun W (q:New w W)=>fd_edge N la lc W W (New.refl _) (h.keep q) (hD.new q))
 have KN:=Lib.hid (fun R hR hRl r hr wB W hnB (q:New w wB) B0 B1 B2 M n hM hn hG ra rc c1 hS c2 F hH=>fd_next N la lc R hR hRl r hr wB W hnB (h.keep q) (hD.new q) B0 B1 B2 M n hM hn hG ra rc c1 hS c2 F hH)
 have HEL:=Lib.hid (edge_len N)
 have HEI:Hid (∀ s∈edgeL N,s.c<4096∧s.k<8):=Lib.hid (fun s hs=>N.small ((mem_edge N).1 hs).1)
 have HRZ:=Lib.hid (fun n hn=>RdOK.zero N (n:=n) hn)
 obtain⟨nm,hnm⟩:∃ n,n=N.M.length:=⟨_,rfl⟩
 rw[←hnm]at KE KN ⊢
 obtain⟨wd,hwd⟩:∃ q,q=N.W:=⟨_,rfl⟩
 rw[←hwd]at KE KN ⊢
 obtain⟨R0,hR0⟩:∃ q,q=edgeL N:=⟨_,rfl⟩
 rw[←hR0]at KE HEL HEI HRZ
 obtain⟨n0,hn0⟩:∃ q,q=R0.length:=⟨_,rfl⟩
 rw[←hn0]at KE HEL HRZ
 have HN0:=Lib.hid hn0
 clear hnm hwd h hD hR0 hn0
 obtain⟨Q,hQ⟩:∃ Q,Q=Grown N m w:=⟨_,rfl⟩
 rw[←hQ]
 have HQ:=Lib.hid hQ
 clear hQ
 have hmm:=@run_makeMap Tryz.prog
 go_enter Tryz.func143,Tryz.ntmps143
 go_wp2_with fail
 go_step3
 go_upto_region 1 with fail
 refine Code.at (fun wB hW=>?_)
 have nB:Hid (New w wB):=Lib.hid (by subst hW;exact nw)
 have HG:Hid (GnAt wd (.slice la nm lc) wB w.heap.size):=Lib.hid (by subst hW;exact⟨by go_simp,by go_simp⟩)
 clear hW
 go_upto_region 2 with fail
 refine Code.at (fun W2 hW=>?_)
 have n2:Hid (New wB W2):=Lib.hid (by subst hW;exact nw)
 have HM:Hid (HeldAt W2 wB.heap.size 0 (fun _=>none)):=Lib.hid (by subst hW;exact(HeldAt.made wB).new (by exact nw))
 have HB2:Hid (W2.cell? ⟨wB.heap.size+1,0,none⟩=some (.map (some wB.heap.size))):=Lib.hid (by subst hW;go_simp)
 clear hW
 obtain⟨M,hM⟩:∃ q,q=wB.heap.size:=⟨_,rfl⟩
 rw[←hM]at HM HB2 ⊢
 have HMM:=Lib.hid hM
 clear hM
 have hz2:=World.block_lt_of_cell? _ _ HB2.out
 simp only[]at hz2
 obtain⟨g0,g1⟩:=HG.out.new n2.out
 go_wp2_with fail
 refine(KE.out _ (nB.out.trans n2.out)).mono ?_
 rintro e w3 ⟨a3,c3,rfl,hs3,n3⟩
 clear g0 g1
 go_upto_region 3 with fail
 refine Code.at (fun W4 hW=>?_)
 have n4:New w3 W4:=by subst hW;exact nw
 have HB1:Hid (W4.cell? ⟨w3.heap.size,0,none⟩=some (.slice a3 n0 c3)∧W4.frozen? ⟨w3.heap.size,0,none⟩=false):=Lib.hid (by subst hW;exact⟨by go_simp,by go_simp⟩)
 clear hW
 have n34:=n3.trans n4
 replace HM:=Lib.hid (HM.out.new n34)
 replace HB2:=Lib.hid (n34.keep HB2.out)
 have HS4:=Lib.hid (hs3.keep n4)
 have N4:=Lib.hid (n2.out.trans n34)
 have hB1M:M+1<w3.heap.size:=Nat.lt_of_lt_of_le hz2 n3.size
 obtain⟨B1,hB1⟩:∃ q,q=w3.heap.size:=⟨_,rfl⟩
 rw[←hB1]at HB1 hB1M ⊢
 have hMwB:Hid (wB.heap.size≤M):=Lib.hid (by rw[HMM.out];exact Nat.le_refl _)
 have hB0M:w.heap.size<M:=by
  have h1:=World.block_lt_of_cell? _ _ HG.out.c0
  simp only[]at h1
  rw[HMM.out]
  exact h1
 clear hs3 n3 n4 n34 hB1 HMM hz2
 have hb1:=HB1.out.1
 go_wp2_with fail
 clear hb1
 go_loopg [16] n0 (fun gk s16 wr=>∃ i:Nat,s16=.int .i64 i∧i≤n0∧n0 - i≤gk∧Hid (HeldAt wr M i (putF (fun _=>none) 0 (R0.take i)))∧Hid (Mut M W4 wr)∧Hid (New wB wr))
 case atStart=>exact⟨0,rfl,by omega,by omega,Lib.hid (HM.out.congr (Nat.le_refl _) (fun s _ _=>by rw[List.take_zero,putF_nil])),Lib.hid (Mut.refl _ _),N4⟩
 case round =>
  obtain⟨i,rfl,hi,hgk,hheld,hmut,hnr⟩:=hrel
  by_cases hlt:i<n0
  ·have hil:i<R0.length:=by rw[←HN0.out];exact hlt
   have hnl:=HEL.out
   obtain⟨-,-,-,-,hrow⟩:=(HM.out.sl HS4.out hmut.out).row'
   obtain⟨b,off,rfl,hA⟩:=hrow (by omega)
   obtain⟨e0,e1⟩:=Sp.cells hA i hil
   have hb2:=hmut.out.cell HB2.out (by omega)
   obtain⟨hsc,hsk⟩:=HEI.out R0[i] (List.getElem_mem hil)
   have htk:R0.take (i+1)=R0.take i++[R0[i]]:=List.take_succ_eq_append_getElem hil
   obtain⟨T,hT⟩:∃ q,q=R0[i]:=⟨_,rfl⟩
   rw[←hT]at e0 e1 htk hsc hsk
   have HTK:=Lib.hid htk
   obtain⟨P,hP⟩:∃ q,q=R0.take i:=⟨_,rfl⟩
   rw[←hP]at hheld HTK
   clear hT htk hP hA hrow
   rename World=>Wi
   go_upto_region 6 with fail
   refine Code.at (fun W7 hW=>?_)
   have n7:New Wi W7:=by subst hW;exact nw
   have HQ7:Hid (SpAt T W7 Wi.heap.size):=Lib.hid (by subst hW;exact⟨by go_simp,by go_simp⟩)
   clear hW e0 e1
   replace hb2:=n7.keep hb2
   have N7:=Lib.hid (hnr.out.trans n7)
   have M7:=Lib.hid (hmut.out.trans (Mut.new n7))
   have HH7:=Lib.hid (hheld.out.new n7)
   clear n7 hheld hmut hnr
   obtain⟨q0,q1⟩:=HQ7.out
   go_wp2_with (at_mapUpdate;refine wpList_held_put rfl _ _ _ rfl M i (putF (fun _=>none) 0 P) rfl HH7.out (by unfold maxLen;omega) T hsc hsk rfl 0 (by omega) rfl ?_;intro w8 hheld8 hgrow8)
   have HH8:Hid (HeldAt w8 M (i+1) (putF (fun _=>none) 0 (R0.take (i+1)))):=Lib.hid (hheld8.congr (Nat.le_refl _) (fun t _ _=>by rw[HTK.out];exact putF_zero P T t))
   have M8:=Lib.hid (M7.out.trans (Mut.grown hgrow8))
   have N8:=Lib.hid (newGrown N7.out hgrow8 (fun k e=>by injection e with e;have:=hMwB.out;omega))
   clear hheld8 hgrow8 HH7 M7 N7
   go_roundg (n0 - (i+1))
   case measure=>omega
   case rel=>exact⟨i+1,by go_num,by omega,by omega,HH8,M8,N8⟩
  ·obtain rfl:i=n0:=by omega
   have HOK:=Lib.hid (HRZ.out i rfl)
   have HH0:Hid (HeldAt wr M i (putF (fun _=>none) 0 R0)):=Lib.hid (by
    have h:=hheld.out
    rw[List.take_of_length_le (by rw[HN0.out];exact Nat.le_refl _)]at h
    exact h)
   have HS0:=Lib.hid (HM.out.sl HS4.out hmut.out)
   rw[HN0.out]at HS0
   have hb2:=hmut.out.cell HB2.out (by omega)
   have HB20:=Lib.hid hb2
   have HB10:Hid (wr.cell? ⟨B1,0,none⟩=some (.slice a3 R0.length c3)∧wr.frozen? ⟨B1,0,none⟩=false):=Lib.hid (by
    rw[←HN0.out]
    have h1:=World.block_lt_of_cell? _ _ HB1.out.1
    simp only[]at h1
    exact⟨hmut.out.cell HB1.out.1 (by omega),(World.frozen?_of_block (a:=⟨B1,0,none⟩) (hmut.out.2 B1 h1 (by omega))).trans HB1.out.2⟩)
   have hNR:=hnr
   clear hheld hmut hnr hb2 HB1 HB2 HM HS4 N4 n2 HRZ HEL
   rename World=>W9
   go_wp2_with fail
   go_step3
   go_wp2_with fail
   go_loopg [10] m (fun gk s10 wr=>∃ (f n:Nat) (R:List Sp) (F:Sp→Option Nat) (a:Option Addr) (c:Nat),s10=.int .i64 ((f+1:Nat):Int)∧f+1≤m∧m - (f+1)≤gk∧Hid (RdOK N f n R F)∧Hid (HeldAt wr M n F)∧Hid (Sl Sp.enc 2 wr (.slice a R.length c) R)∧Hid (wr.cell? ⟨B1,0,none⟩=some (.slice a R.length c)∧wr.frozen? ⟨B1,0,none⟩=false)∧Hid (wr.cell? ⟨M+1,0,none⟩=some (.map (some M)))∧Hid (New wB wr))
   case atStart=>exact⟨0,_,R0,_,a3,c3,rfl,by omega,by omega,HOK,HH0,HS0,HB10,HB20,hNR⟩
   case round =>
    clear HOK HH0 HS0 HB10 HB20 hNR
    obtain⟨f,n,R,F,a,c,rfl,hf,hgk,HOK,HH,HS,HB1,HB2,hnr⟩:=hrel
    by_cases hlt:f+1<m
    ·have h5:8 ^ f≤32768:=pow_five (by omega)
     have h1:=HOK.out.len
     have h2:=HOK.out.cnt
     have KNi:=Lib.hid (KN.out R (fun s hs=>((HOK.out.mem s).1 hs).1) (by omega) (f+1) (by omega) wB wr hnr.out nB.out w.heap.size B1 (M+1) M n hMwB.out (by omega) HG.out a c HB1.out.1 HS.out HB2.out F HH.out)
     have hd:decide (((f+1:Nat):Int)<(m:Int))=true:=decide_eq_true (by omega)
     have HNX:=Lib.hid (fun l hm hl=>RdOK.next (l:=l) HOK.out hm hl)
     obtain⟨P,hP⟩:∃ q,q=rdP N R R.length:=⟨_,rfl⟩
     rw[←hP]at KNi HNX
     have hb1z:B1<wr.heap.size:=by have:=World.block_lt_of_cell? _ _ HB1.out.1;simpa using this
     clear hP h5 h1 h2
     rename World=>Wr
     go_wp2_with fail
     refine KNi.out.mono ?_
     rintro e w5 ⟨a5,c5,l,rfl,hs5,hg5,hm5,hl5,hh5,hmut5,hn5⟩
     have hb1:=hmut5.cell HB1.out.1 (by omega)
     have hf1:=(World.frozen?_of_block (a:=⟨B1,0,none⟩) (hmut5.2 B1 hb1z (by omega))).trans HB1.out.2
     have hb2:=hmut5.cell HB2.out (by omega)
     have HOK5:=Lib.hid (HNX.out l hm5 hl5)
     have HH5:=Lib.hid hh5
     have HS5:=Lib.hid (And.intro hs5 hg5)
     have HN5:=Lib.hid hn5
     obtain⟨ln,hln⟩:∃ q,q=l.length:=⟨_,rfl⟩
     rw[←hln]at HS5 ⊢
     have HLN:=Lib.hid hln
     clear hs5 hg5 hm5 hl5 hh5 hmut5 hn5 HNX KNi HOK HH HS hln
     go_upto_region 13 with fail
     refine Code.at (fun W6 hW=>?_)
     have HB16:Hid (W6.cell? ⟨B1,0,none⟩=some (.slice a5 ln c5)∧W6.frozen? ⟨B1,0,none⟩=false):=Lib.hid (by subst hW;exact⟨by go_simp,by go_simp⟩)
     have HB26:Hid (W6.cell? ⟨M+1,0,none⟩=some (.map (some M))):=Lib.hid (by
      subst hW
      have hne:M+1≠B1:=by omega
      go_simp)
     have HH6:Hid (HeldAt W6 M (n+P.length) (putF F (f+1) P)):=Lib.hid (by subst hW;exact HH5.out.set (p:=⟨B1,0,none⟩) (by show M≠B1;omega) _)
     have HS6:Hid (Sl Sp.enc 2 W6 (.slice a5 ln c5) l):=Lib.hid (by
      subst hW
      refine sl_set (p:=⟨B1,0,none⟩) HS5.out.1 (fun g e=>?_) _
      have:=HS5.out.2 g e
      show g≠B1
      omega)
     have HN6:Hid (New wB W6):=Lib.hid (by subst hW;exact New.setB (p:=⟨B1,0,none⟩) (by have:=hMwB.out;show wB.heap.size≤B1;omega) HN5.out _)
     clear hW hb1 hf1 hb2 HS5 HN5 HH5
     have hb1:=HB16.out.1
     by_cases h0:ln=0
     ·have hst:=Lib.hid (fun s (hs:SpIn N.M s)=>RdOK.stop (m:=m) HOK5.out (by rw[←HLN.out];exact h0) (by omega) hs)
      have hd2:((ln:Int)==0)=true:=by rw[h0];rfl
      have hb2:=HB26.out
      have HEND:=Lib.hid (And.intro HH6.out (And.intro hst.out (nB.out.trans HN6.out)))
      clear h0 hst HH6 HS6 HN6
      go_wp2_with fail
      rw[HQ.out]
      exact⟨M,_,_,rfl,HEND.out.1,HEND.out.2.1,HEND.out.2.2⟩
     ·have hd2:((ln:Int)==0)=false:=by rw[beq_eq_false_iff_ne];omega
      have HS7:Hid (Sl Sp.enc 2 W6 (.slice a5 l.length c5) l):=Lib.hid (by rw[←HLN.out];exact HS6.out)
      have HB17:Hid (W6.cell? ⟨B1,0,none⟩=some (.slice a5 l.length c5)∧W6.frozen? ⟨B1,0,none⟩=false):=Lib.hid (by rw[←HLN.out];exact HB16.out)
      clear h0 HS6 HB16
      go_wp2_with fail
      go_roundg (m - (f+1+1))
      case measure=>omega
      case rel=>exact⟨f+1,_,l,_,a5,c5,by go_num,by omega,by omega,HOK5,HH6,HS7,HB17,HB26,HN6⟩
    ·obtain rfl:m=f+1:=by omega
     have hd:decide (((f+1:Nat):Int)<((f+1:Nat):Int))=false:=decide_eq_false (by omega)
     have hst:=Lib.hid (fun s (hs:SpIn N.M s)=>RdOK.last HOK.out hs)
     have HEND:=Lib.hid (And.intro HH.out (And.intro hst.out (nB.out.trans hnr.out)))
     have hb2:=HB2.out
     clear hst HH HS hnr HB1
     go_wp2_with fail
     rw[HQ.out]
     exact⟨M,_,_,rfl,HEND.out.1,HEND.out.2.1,HEND.out.2.2⟩
section
variable {α:Type} {enc:α→List Value} {k:Nat}
def RowsA (enc:α→List Value) (k base:Nat) (w:World) (v:Value) (L:List (List α)):Prop :=
 ∃ us:List Value,us.length=L.length∧Sl oneV 1 w v us∧(∀ j (h:j<L.length),∃ u,us[j]? = some u∧Sl enc k w u L[j])∧(∀ g,v.ownBlock=some g→base≤g)∧∀ u∈us,∀ g,u.ownBlock=some g→base≤g
theorem RowsA.rows {base:Nat} {w:World} {v:Value} {L:List (List α)} (h:RowsA enc k base w v L):RowsK enc k w v L:=by
 obtain⟨us,h1,h2,h3,-⟩:=h
 exact⟨us,h1,h2,h3⟩
theorem RowsA.mono {base b0:Nat} {w:World} {v:Value} {L:List (List α)} (h:RowsA enc k base w v L) (hb:b0≤base):RowsA enc k b0 w v L:=by
 obtain⟨us,h1,h2,h3,h4,h5⟩:=h
 exact⟨us,h1,h2,h3,fun g e=>Nat.le_trans hb (h4 g e),fun u hu g e=>Nat.le_trans hb (h5 u hu g e)⟩
theorem RowsA.nil {base:Nat} {w:World}:RowsA enc k base w (.slice none 0 0) ([]:List (List α)):=⟨[],rfl,Sl.nil,fun j h=>absurd h (by simp),fun g e=>by simp[Value.ownBlock]at e,fun u hu=>by cases hu⟩
theorem RowsA.of {base b0:Nat} {tG:TypeId} {w:World} {v:Value} {us:List Value} {L:List (List α)} (h:RowsOK enc k tG base w v us L) (hu:∀ u∈us,∀ g,u.ownBlock=some g→base≤g) (hb:b0≤base):RowsA enc k b0 w v L :=
 ⟨us,h.len,own_sl (enc:=oneV) (k:=1) (l:=us) (fun _=>rfl) (by rw[oneV_flat];exact h.own),fun j hj=>by obtain⟨u,e,hs,_⟩:=h.each j hj;exact⟨u,e,hs⟩,fun g e=>Nat.le_trans hb (h.own.lt g e).1,fun u hu' g e=>Nat.le_trans hb (hu u hu' g e)⟩
theorem slA_kept {β:Type} {en:β→List Value} {m base:Nat} {w W:World} {u:Value} {l:List β} (h:Sl en m w u l) (hb:∀ b,u.ownBlock=some b→base≤b) (hm:∀ x,(en x).length=m) (hm0:0<m) (hk:∀ b,base≤b→b<w.heap.size→W.heap[b]? = w.heap[b]?):Sl en m W u l:=by
 obtain⟨a,c,rfl,h1,h2,h3,h4⟩:=h
 refine⟨a,c,rfl,h1,h2,h3,fun h0=>?_⟩
 obtain⟨B,off,rfl,hA⟩:=h4 h0
 have hlt:B<w.heap.size:=World.block_lt_of_cell? _ _ (hA 0 h0 0 (by rw[hm];exact hm0))
 exact⟨B,off,rfl,fun j hj i hi=>(World.cell?_of_block (a:=⟨B,off+j*m+i,none⟩) (hk B (hb B rfl) hlt)).trans (hA j hj i hi)⟩
theorem RowsA.kept (hm:∀ x,(enc x).length=k) (hm0:0<k) {base:Nat} {w W:World} {v:Value} {L:List (List α)} (h:RowsA enc k base w v L) (hk:∀ b,base≤b→b<w.heap.size→W.heap[b]? = w.heap[b]?):RowsA enc k base W v L:=by
 obtain⟨us,h1,h2,h3,h4,h5⟩:=h
 refine⟨us,h1,slA_kept h2 h4 (fun _=>rfl) (by omega) hk,fun j hj=>?_,h4,h5⟩
 obtain⟨u,e,hs⟩:=h3 j hj
 exact⟨u,e,slA_kept hs (h5 u (List.mem_of_getElem? e)) hm hm0 hk⟩
theorem RowsA.new (hm:∀ x,(enc x).length=k) (hm0:0<k) {base:Nat} {w W:World} {v:Value} {L:List (List α)} (h:RowsA enc k base w v L) (n:New w W):RowsA enc k base W v L:=h.kept hm hm0 fun b _ hb=>n.block b hb
end
theorem iE_one (t:Int):∀ u∈iE t,u.oneCell'=true:=by
 intro u hu
 simp[iE]at hu
 subst hu
 rfl
theorem i_new (w:World) (t:Int) (ty:TypeId):Sl iE 1 (w.alloc (.cells #[.int .i64 t] ty)) (.slice (some ⟨w.heap.size,0,none⟩) 1 1) [t] :=
 ⟨_,_,rfl,Nat.le_refl _,by unfold maxLen;omega,fun h=>(by cases h),fun _=>⟨w.heap.size,0,rfl,fun j hj i hi=>by
  have hj':j=0:=by simpa using hj
  subst hj'
  have hi':i=0:=by have:i<1:=hi;omega
  subst hi'
  exact cell_of_heap (heap_new w (.cells #[.int .i64 t] ty)) rfl⟩⟩
theorem ints_info:(Tryz.prog.info? 41).map (fun i=>(i.zero,i.size,i.bytes))=some (some (.slice none 0 0),1,24):=by kernel_rfl
def fcC (N:Net) (m i k:Nat):List Int:=(List.range k).map fun j=>((clr N.go m ⟨i,j⟩:Nat):Int)
def clT (N:Net) (m i:Nat):List (List Int):=(List.range i).map fun j=>fcC N m j (colM N.M j).length
def clL (N:Net) (m:Nat):List (List Int):=clT N m N.M.length
theorem fcC_len (N:Net) (m i k:Nat):(fcC N m i k).length=k:=by unfold fcC;simp
theorem fcC_succ (N:Net) (m i k:Nat):fcC N m i (k+1)=fcC N m i k++[((clr N.go m ⟨i,k⟩:Nat):Int)]:=by
 unfold fcC
 rw[List.range_succ,List.map_append]
 rfl
theorem clT_len (N:Net) (m i:Nat):(clT N m i).length=i:=by unfold clT;simp
theorem clT_succ (N:Net) (m i:Nat):clT N m (i+1)=clT N m i++[fcC N m i (colM N.M i).length]:=by
 unfold clT
 rw[List.range_succ,List.map_append]
 rfl
theorem fd_clearances (N:Net) (la:Option Addr) (lc:Nat) (m:Nat) (hm1:1≤m) (hm6:m≤6) (w:World) (h:RowsK Lnk.enc 4 w (.slice la N.M.length lc) N.M) (hD:Dirs w):Calls Tryz.prog 115 #[.agg #[.int .i64 ((N.W:Nat):Int),.slice la N.M.length lc],.int .i64 (m:Nat)] w fun e w'=>∃ v,e=.returned v∧RowsA iE 1 w.heap.size w' v (clL N m)∧New w w':=by
 obtain⟨i0,hi0,hz0,hz1,hz2⟩:=info_parts int_info
 obtain⟨i1,hi1,hy0,hy1,hy2⟩:=info_parts ints_info
 have KG:=Lib.hid (fun W (q:New w W)=>fd_grow N la lc m hm1 hm6 W (h.keep q) (hD.new q))
 have HH:=Lib.hid (fun W (q:New w W)=>h.keep q)
 have HCL:=Lib.hid (fun i k=>fcC_len N m i k)
 have HCS:=Lib.hid (fun i k=>fcC_succ N m i k)
 have HTL:=Lib.hid (fun i=>clT_len N m i)
 have HTS:=Lib.hid (fun i=>clT_succ N m i)
 have HT0:Hid (clT N m 0=[]):=Lib.hid rfl
 have HC0:Hid (∀ i,fcC N m i 0=[]):=Lib.hid (fun i=>rfl)
 have HLEN:=Lib.hid N.len
 have HCOL:=Lib.hid N.col
 obtain⟨n,hn⟩:∃ n,n=N.M.length:=⟨_,rfl⟩
 have HN:=Lib.hid hn
 unfold clL Grown at *
 rw[←hn]at KG HH HLEN ⊢
 obtain⟨wd,hwd⟩:∃ q,q=N.W:=⟨_,rfl⟩
 rw[←hwd]at KG ⊢
 have HCLR:Hid (∀ s,clr N.go m s≤6):=Lib.hid (fun s=>Nat.le_trans (clr_le m s) hm6)
 clear hn hwd h hD
 generalize clr N.go m=cl at *
 generalize fcC N m=cC at *
 generalize clT N m=cT at *
 go_enter Tryz.func115,Tryz.ntmps115
 go_upto_region 1 with fail
 refine Code.at (fun W hW=>?_)
 have n0:New w W:=by subst hW;exact nw
 have HG:Hid (GnAt wd (.slice la n lc) W w.heap.size):=Lib.hid (by subst hW;exact⟨by go_simp,by go_simp⟩)
 clear hW
 obtain⟨g0,g1⟩:=HG.out
 go_wp2_with fail
 refine(KG.out _ n0).mono ?_
 rintro e w1 ⟨M,mc,F,rfl,hheld,hF,n1⟩
 have N1:=Lib.hid (n0.trans n1)
 replace HG:=Lib.hid (HG.out.new n1)
 have HH1:=Lib.hid hheld
 have HF:=Lib.hid hF
 obtain⟨base,hbase⟩:∃ q,q=w1.heap.size:=⟨_,rfl⟩
 have HBS:=Lib.hid hbase
 clear hheld hF n1 n0 KG hbase g0 g1
 obtain⟨g0,g1⟩:=HG.out
 have hnl:=HLEN.out
 go_wp2_with fail
 clear g0 g1
 go_loopg [19,6] n (fun gk s19 s6 wr=>∃ (i:Nat) (ra:Option Addr) (rn rc:Nat) (us:List Value),s19=.int .i64 i∧s6=.slice ra rn rc∧i≤n∧n - i≤gk∧Hid (RowsOK iE 1 41 base wr (.slice ra rn rc) us (cT i))∧Hid (∀ u∈us,∀ g,u.ownBlock=some g→base≤g)∧Hid (New w1 wr))
 case atStart=>exact⟨0,none,0,0,[],rfl,rfl,by omega,by omega,Lib.hid (by rw[HT0.out];exact RowsOK.nil),Lib.hid (fun u hu=>by cases hu),Lib.hid (New.refl _)⟩
 case round =>
  obtain⟨i,ra,rn,rc,us,rfl,rfl,hi,hgk,HRO,HUS,hnr⟩:=hrel
  by_cases hlt:i<n
  ·have hil:i<N.M.length:=by rw[←HN.out];exact hlt
   obtain⟨b,off,a,c,rfl,hc,hsl⟩:=(HH.out _ (N1.out.trans hnr.out)).at i hil
   have hcl:=colM_at hil
   rw[←hcl]at hc
   have hc8:=HCOL.out i
   obtain⟨k0,hk0⟩:∃ q,q=(colM N.M i).length:=⟨_,rfl⟩
   rw[←hk0]at hc hc8
   have HM:=Lib.hid hk0
   have hti:=HTS.out i
   rw[←hk0]at hti
   have HTI:=Lib.hid hti
   have HGK:=Lib.hid hgk
   clear hsl hk0 hti hcl hgk
   rename World=>Wo
   obtain⟨base2,hb2⟩:∃ q,q=Wo.heap.size:=⟨_,rfl⟩
   have HB2:=Lib.hid hb2
   clear hb2
   go_wp2_with fail
   clear hc
   go_loopg [26,9] k0 (fun gk s26 s9 wr=>∃ (k:Nat) (ca:Option Addr) (cn cc:Nat),s26=.int .i64 k∧s9=.slice ca cn cc∧k≤k0∧k0 - k≤gk∧Hid (wr.ownsRow base2 3 1 (.slice ca cn cc) (cC i k).length ((cC i k).flatMap iE))∧Hid (New Wo wr))
   case atStart=>exact⟨0,none,0,0,rfl,rfl,by omega,by omega,Lib.hid (by rw[HC0.out];exact World.ownsRow_nil _ _ _ _),Lib.hid (New.refl _)⟩
   case round =>
    obtain⟨k,ca,cn,cc,rfl,rfl,hk,hgk,hown,hnk⟩:=hrel
    by_cases hkt:k<k0
    ·have hin:SpIn N.M ⟨i,k⟩:=⟨hil,by rw[←HM.out];exact hkt⟩
     have hFi:=Lib.hid (HF.out ⟨i,k⟩ hin)
     have hck:=HCL.out i k
     have HCK:=Lib.hid (HCS.out i k)
     have hcl6:=HCLR.out ⟨i,k⟩
     obtain⟨c0,hc0⟩:∃ q,q=cC i k:=⟨_,rfl⟩
     rw[←hc0]at hown hck HCK
     obtain⟨x,hx⟩:∃ q,q=cl ⟨i,k⟩:=⟨_,rfl⟩
     rw[←hx]at hFi HCK hcl6
     obtain⟨o,ho⟩:∃ o,o=F ⟨i,k⟩:=⟨_,rfl⟩
     rw[←ho]at hFi
     have HO:=Lib.hid ho
     clear hc0 hx ho hin
     have hbz:base2≤wr.heap.size:=by rw[HB2.out];exact hnk.out.size
     have HHr:=Lib.hid (HH1.out.new (hnr.out.trans hnk.out))
     go_upto_region 11 with (at_lookup;refine wpList_held rfl _ _ rfl M mc F rfl HHr.out ⟨i,k⟩ (by show i<4096;omega) (by show k<8;omega) rfl ?_;rw[←HO.out])
     rcases o with _|v
     ·have hxm:m=x:=hFi.out
      subst hxm
      simp only[Option.isSome_none,Option.getD_none]
      go_wp2_with (at_builtin;refine wpList_append_sl rfl _ _ 41 rfl iE_len iE_one base2 3 i0 _ 8 Tryz.underlying41 hi0 hz0 hz1 hz2 rfl (by decide) _ c0 rfl (own_new hown.out ((New.refl _).alloc _)) _ [((m:Nat):Int)] rfl (i_new _ _ _) (by unfold maxLen;simp only[List.length_singleton];omega) (by simp only[List.length_singleton];omega) (by simp;omega) ?_;intro v' w2 hown' hnew _;obtain⟨a',d',N',hN',rfl⟩:=own_shape2 hown';clear hN';have nw1:=hnew Wo (hnk.out.trans ((New.refl _).alloc _)) (Nat.le_of_eq HB2.out.symm))
      go_roundg (k0 - (k+1))
      case measure=>omega
      case rel=>exact⟨k+1,a',N',d',by go_num,rfl,by omega,by omega,Lib.hid (by rw[HCK.out];exact hown'),Lib.hid nw1⟩
     ·have hxm:v=x:=hFi.out
      subst hxm
      simp only[Option.isSome_some,Option.getD_some]
      go_wp2_with (at_builtin;refine wpList_append_sl rfl _ _ 41 rfl iE_len iE_one base2 3 i0 _ 8 Tryz.underlying41 hi0 hz0 hz1 hz2 rfl (by decide) _ c0 rfl (own_new hown.out ((New.refl _).alloc _)) _ [((v:Nat):Int)] rfl (i_new _ _ _) (by unfold maxLen;simp only[List.length_singleton];omega) (by simp only[List.length_singleton];omega) (by simp;omega) ?_;intro v' w2 hown' hnew _;obtain⟨a',d',N',hN',rfl⟩:=own_shape2 hown';clear hN';have nw1:=hnew Wo (hnk.out.trans ((New.refl _).alloc _)) (Nat.le_of_eq HB2.out.symm))
      go_roundg (k0 - (k+1))
      case measure=>omega
      case rel=>exact⟨k+1,a',N',d',by go_num,rfl,by omega,by omega,Lib.hid (by rw[HCK.out];exact hown'),Lib.hid nw1⟩
    ·obtain rfl:k=k0:=by omega
     have HRn:=Lib.hid (HRO.out.new hnk.out)
     have HNN:=Lib.hid (hnr.out.trans hnk.out)
     have hbz:base≤wr.heap.size:=by rw[HBS.out];exact HNN.out.size
     have hsl:=own_sl iE_len hown.out
     have HSL:=Lib.hid hsl
     have HOB:=Lib.hid (fun g e=>own_block hown.out g e)
     have htl:=HTL.out i
     have hul:=HRn.out.len
     rw[htl]at hul
     generalize cC i k=col at *
     clear hown hsl hgk htl
     go_upto_region 15 with fail
     obtain⟨w9,hw9⟩:∃ q,q=wr.alloc (.cells #[.slice ca cn cc] 41):=⟨_,rfl⟩
     have n9:New wr w9:=by subst hw9;exact(New.refl _).alloc _
     have hp:w9.cell? ⟨wr.heap.size,0,none⟩=some (.slice ca cn cc):=by subst hw9;exact cell_of_heap (heap_new _ _) rfl
     have HR9:=Lib.hid (HRn.out.new n9)
     have hb9:base≤w9.heap.size:=Nat.le_trans hbz n9.size
     have ho9:=HR9.out.own
     go_wp2_with (at_builtin;rw[←hw9];refine wpList_append_own_at _ rfl _ _ 51 rfl base 41 i1 (.slice none 0 0) 1 24 Tryz.underlying51 hi1 hy0 hy1 hy2 rfl (by decide) _ _ _ rfl ho9 ⟨wr.heap.size,0,none⟩ 1 1 [.slice ca cn cc] rfl rfl (by intro j u hj;cases j with|zero=>(simp at hj;subst hj;exact hp)|succ j=>simp at hj) (by intro u hu;rw[List.mem_singleton]at hu;subst hu;rfl) (by unfold maxLen;omega) (by omega) hb9 ?_;intro v' w4 hown' hgrow _ hat;obtain⟨a',d',N',hN',rfl⟩:=own_shape2 hown';clear hN')
     replace hgrow:w9.grownBy w4 (Value.slice ra rn rc).ownBlock:=hgrow
     replace hat:(Value.slice a' N' d').ownBlock=(Value.slice ra rn rc).ownBlock∨(Value.slice a' N' d').ownBlock=some w9.heap.size:=hat
     have HP:Hid (RowsOK iE 1 41 base w4 (.slice a' N' d') (us++[.slice ca cn cc]) (cT (i+1))):=Lib.hid (by
      rw[HTI.out]
      refine HR9.out.push iE_len (by omega) (HSL.out.keep n9) (fun _ g e e2=>?_) hown' hgrow hat
      have q1:=HOB.out g e
      have q2:=(HRO.out.own.lt g e2).2
      have q3:=HB2.out
      omega)
     have HUS2:Hid (∀ u∈us++[.slice ca cn cc],∀ g,u.ownBlock=some g→base≤g):=Lib.hid (fun u hu g e=>by
      rcases List.mem_append.1 hu with h|h
      ·exact HUS.out u h g e
      ·rw[List.mem_singleton]at h
       subst h
       have q1:=HOB.out g e
       have q3:=HB2.out
       have q4:=HBS.out
       have q5:=hnr.out.size
       omega)
     have HN4:Hid (New w1 w4):=Lib.hid (newGrown (HNN.out.trans n9) hgrow (fun j hj=>by have:=(HRO.out.own.lt j hj).1;have:=HBS.out;omega))
     clear hgrow hat hown' n9 hp
     go_roundg (n - (i+1))
     case measure=>have:=HGK.out;omega
     case rel=>exact⟨i+1,a',N',d',_,by go_num,rfl,by omega,by omega,HP,HUS2,HN4⟩
  ·obtain rfl:i=n:=by omega
   have HO:Hid (RowsA iE 1 w.heap.size wr (.slice ra rn rc) (cT i)):=Lib.hid (RowsA.of HRO.out HUS.out (by have:=HBS.out;have:=N1.out.size;omega))
   go_wp2_with fail
   go_ret
   exact⟨_,rfl,HO.out,N1.out.trans hnr.out⟩
def grV (C:CfgR) (G:Gd):Value:=.tuple #[.agg #[.int .i64 (grC C G).cl,.int .i64 (grC C G).cb,.int .i64 (grC C G).ht,.int .i64 (grC C G).ri,.int .i64 (grC C G).ru,.int .i64 (grC C G).wd,.int .i64 (grC C G).dp,.int .i64 (grG C G).x,.int .i64 (grG C G).z,.int .i64 (grG C G).w,.int .i64 (grG C G).d,.slice (grG C G).ga (grG C G).L.length (grG C G).gc],.int .i64 (lkE C G)]
theorem grV_bad {C:CfgR} {G:Gd} (h:lkE C G≠0):grV C G=.tuple #[.agg #[.int .i64 0,.int .i64 0,.int .i64 0,.int .i64 0,.int .i64 0,.int .i64 0,.int .i64 0,.int .i64 0,.int .i64 0,.int .i64 0,.int .i64 0,.slice none 0 0],.int .i64 (lkE C G)]:=by
 unfold grV grC grG
 rw[if_neg h,if_neg h]
 rfl
theorem grV_fine {C:CfgR} {G:Gd} (h:lkE C G=0):grV C G=.tuple #[.agg #[.int .i64 C.cl,.int .i64 C.cb,.int .i64 C.ht,.int .i64 C.ri,.int .i64 C.ru,.int .i64 C.wd,.int .i64 C.dp,.int .i64 G.x,.int .i64 G.z,.int .i64 G.w,.int .i64 G.d,.slice G.ga G.L.length G.gc],.int .i64 0]:=by
 unfold grV grC grG
 rw[if_pos h,if_pos h,h]
theorem lk_groundOf (C:CfgR) (G:Gd) (w:World) (h:G.ok w):Calls Tryz.prog 140 #[.agg #[.int .i64 C.cl,.int .i64 C.cb,.int .i64 C.ht,.int .i64 C.ri,.int .i64 C.ru,.int .i64 C.wd,.int .i64 C.dp],.agg #[.int .i64 G.x,.int .i64 G.z,.int .i64 G.w,.int .i64 G.d,.slice G.ga G.L.length G.gc]] w fun e w'=>e=.returned (grV C G)∧New w w':=by
 have KC:Hid (∀ W,Calls Tryz.prog 30 #[.agg #[.int .i64 C.cl,.int .i64 C.cb,.int .i64 C.ht,.int .i64 C.ri,.int .i64 C.ru,.int .i64 C.wd,.int .i64 C.dp]] W fun e w'=>e=.returned (.int .i64 C.err)∧New W w'):=Lib.hid (fun W=>(check_any C.cl C.cb C.ht C.ri C.ru C.wd C.dp W).mono fun e w' h=>⟨h.1,h.2.1⟩)
 have KG:=Lib.hid (fun W n=>og_check G W (h.keep (n:New w W)))
 have h1:=err_or C
 have h2:=gE_two G
 have HB:=Lib.hid (fun q=>grV_bad (C:=C) (G:=G) q)
 have HF:=Lib.hid (fun q=>grV_fine (C:=C) (G:=G) q)
 have HL:Hid (lkE C G=if C.err=0 then gE G else 20):=Lib.hid rfl
 obtain⟨r,hr⟩:∃ r,r=grV C G:=⟨_,rfl⟩
 rw[←hr]at HB HF ⊢
 obtain⟨n,hn⟩:∃ n,n=G.L.length:=⟨_,rfl⟩
 rw[←hn]at KG HF ⊢
 clear hr hn h
 generalize lkE C G=le at *
 generalize C.err=ce at *
 generalize gE G=ge at *
 have one:∀ v:Value,(∃ a:Int,v=.int .i64 a)∨(∃ a b c,v=.slice a b c)→v.oneCell'=true:=fun v hv=>by
  rcases hv with ⟨a,rfl⟩|⟨a,b,c,rfl⟩ <;> rfl
 have HO:=Lib.hid one
 clear one
 go_enter Tryz.func140,Tryz.ntmps140
 go_wp2_with fail
 refine Calls.at (fun W hW=>?_)
 have n0:New w W:=by subst hW;exact nw
 ((have c0:W.cell? ⟨w.heap.size,0,none⟩=some (.int .i64 C.cl):=(by subst hW;go_simp));(have c1:W.cell? ⟨w.heap.size,1,none⟩=some (.int .i64 C.cb):=(by subst hW;go_simp));(have c2:W.cell? ⟨w.heap.size,2,none⟩=some (.int .i64 C.ht):=(by subst hW;go_simp));(have c3:W.cell? ⟨w.heap.size,3,none⟩=some (.int .i64 C.ri):=(by subst hW;go_simp));(have c4:W.cell? ⟨w.heap.size,4,none⟩=some (.int .i64 C.ru):=(by subst hW;go_simp));(have c5:W.cell? ⟨w.heap.size,5,none⟩=some (.int .i64 C.wd):=(by subst hW;go_simp));(have c6:W.cell? ⟨w.heap.size,6,none⟩=some (.int .i64 C.dp):=(by subst hW;go_simp)))
 have g0:W.cell? ⟨w.heap.size+1,0,none⟩=some (.int .i64 G.x):=by subst hW;go_simp
 have g1:W.cell? ⟨w.heap.size+1,1,none⟩=some (.int .i64 G.z):=by subst hW;go_simp
 have g2:W.cell? ⟨w.heap.size+1,2,none⟩=some (.int .i64 G.w):=by subst hW;go_simp
 have g3:W.cell? ⟨w.heap.size+1,3,none⟩=some (.int .i64 G.d):=by subst hW;go_simp
 have g4:W.cell? ⟨w.heap.size+1,4,none⟩=some (.slice G.ga n G.gc):=by subst hW;go_simp
 have HT:Hid (Thr W (w.heap.size+1+1) 12):=Lib.hid (by
  subst hW
  exact Thr.new _ _ _ _ (by simp))
 clear hW
 refine(KC.out _).mono ?_
 rintro e w1 ⟨rfl,n1⟩
 ((replace c0:=New.keep n1 c0);(replace c1:=New.keep n1 c1);(replace c2:=New.keep n1 c2);(replace c3:=New.keep n1 c3);(replace c4:=New.keep n1 c4);(replace c5:=New.keep n1 c5);(replace c6:=New.keep n1 c6))
 replace g0:=n1.keep g0
 replace g1:=n1.keep g1
 replace g2:=n1.keep g2
 replace g3:=n1.keep g3
 replace g4:=n1.keep g4
 replace HT:=Lib.hid (HT.out.keep n1)
 have N1:=Lib.hid (n0.trans n1)
 clear n0 n1 KC
 rcases h1 with rfl|rfl
 rotate_left
 ·have hle:le=20:=HL.out
  subst hle
  have HRR:=Lib.hid (HB.out (by decide))
  have hth:=HT.out
  clear HB HF KG c0 c1 c2 c3 c4 c5 c6 g0 g1 g2 g3 g4
  go_wp2_with (refine wpList_store_blk rfl 203 _ _ rfl _ _ rfl rfl hth (by kernel_rfl) (by intro u hu;simp at hu;rcases hu with rfl|rfl <;> rfl) (fun Z nZ kZ cZ=>?_))
  ((have k0:=cZ 0 (by show 0<12;omega));(have k1:=cZ 1 (by show 1<12;omega));(have k2:=cZ 2 (by show 2<12;omega));(have k3:=cZ 3 (by show 3<12;omega));(have k4:=cZ 4 (by show 4<12;omega));(have k5:=cZ 5 (by show 5<12;omega));(have k6:=cZ 6 (by show 6<12;omega));(have k7:=cZ 7 (by show 7<12;omega));(have k8:=cZ 8 (by show 8<12;omega));(have k9:=cZ 9 (by show 9<12;omega));(have k10:=cZ 10 (by show 10<12;omega));(have k11:=cZ 11 (by show 11<12;omega));simp only[Nat.zero_add]at k0 k1 k2 k3 k4 k5 k6 k7 k8 k9 k10 k11)
  have hn:=nZ w N1.out (by show w.heap.size≤_;omega)
  clear nZ kZ cZ
  refine bodyPost_ret (v:=.tuple #[.agg #[.int .i64 0,.int .i64 0,.int .i64 0,.int .i64 0,.int .i64 0,.int .i64 0,.int .i64 0,.int .i64 0,.int .i64 0,.int .i64 0,.int .i64 0,.slice none 0 0],.int .i64 20]) (by simp[results,Tryz.results140,go_sem, *]) rfl ?_
  exact⟨by rw[HRR.out],hn⟩
 have hle:le=ge:=HL.out
 subst hle
 go_wp2_with fail
 refine(KG.out _ N1.out).mono ?_
 rintro e w2 ⟨rfl,n2⟩
 ((replace c0:=New.keep n2 c0);(replace c1:=New.keep n2 c1);(replace c2:=New.keep n2 c2);(replace c3:=New.keep n2 c3);(replace c4:=New.keep n2 c4);(replace c5:=New.keep n2 c5);(replace c6:=New.keep n2 c6))
 replace g0:=n2.keep g0
 replace g1:=n2.keep g1
 replace g2:=n2.keep g2
 replace g3:=n2.keep g3
 replace g4:=n2.keep g4
 have hth:=HT.out.keep n2
 have N2:=Lib.hid (N1.out.trans n2)
 clear n2 KG N1
 rcases h2 with rfl|rfl
 rotate_left
 ·have HRR:=Lib.hid (HB.out (by decide))
  clear HB HF c0 c1 c2 c3 c4 c5 c6 g0 g1 g2 g3 g4
  go_wp2_with (refine wpList_store_blk rfl 203 _ _ rfl _ _ rfl rfl hth (by kernel_rfl) (by intro u hu;simp at hu;rcases hu with rfl|rfl <;> rfl) (fun Z nZ kZ cZ=>?_))
  ((have k0:=cZ 0 (by show 0<12;omega));(have k1:=cZ 1 (by show 1<12;omega));(have k2:=cZ 2 (by show 2<12;omega));(have k3:=cZ 3 (by show 3<12;omega));(have k4:=cZ 4 (by show 4<12;omega));(have k5:=cZ 5 (by show 5<12;omega));(have k6:=cZ 6 (by show 6<12;omega));(have k7:=cZ 7 (by show 7<12;omega));(have k8:=cZ 8 (by show 8<12;omega));(have k9:=cZ 9 (by show 9<12;omega));(have k10:=cZ 10 (by show 10<12;omega));(have k11:=cZ 11 (by show 11<12;omega));simp only[Nat.zero_add]at k0 k1 k2 k3 k4 k5 k6 k7 k8 k9 k10 k11)
  have hn:=nZ w N2.out (by show w.heap.size≤_;omega)
  clear nZ kZ cZ
  refine bodyPost_ret (v:=.tuple #[.agg #[.int .i64 0,.int .i64 0,.int .i64 0,.int .i64 0,.int .i64 0,.int .i64 0,.int .i64 0,.int .i64 0,.int .i64 0,.int .i64 0,.int .i64 0,.slice none 0 0],.int .i64 2]) (by simp[results,Tryz.results140,go_sem, *]) rfl ?_
  exact⟨by rw[HRR.out],hn⟩
 ·have HRR:=Lib.hid (HF.out rfl)
  clear HB HF
  go_wp2_with (refine wpList_store_blk rfl 203 _ _ rfl _ _ rfl rfl hth (by kernel_rfl) (by intro u hu;simp at hu;rcases hu with rfl|rfl|rfl|rfl|rfl|rfl|rfl|rfl|rfl|rfl|rfl|rfl <;> rfl) (fun Z nZ kZ cZ=>?_))
  ((have k0:=cZ 0 (by show 0<12;omega));(have k1:=cZ 1 (by show 1<12;omega));(have k2:=cZ 2 (by show 2<12;omega));(have k3:=cZ 3 (by show 3<12;omega));(have k4:=cZ 4 (by show 4<12;omega));(have k5:=cZ 5 (by show 5<12;omega));(have k6:=cZ 6 (by show 6<12;omega));(have k7:=cZ 7 (by show 7<12;omega));(have k8:=cZ 8 (by show 8<12;omega));(have k9:=cZ 9 (by show 9<12;omega));(have k10:=cZ 10 (by show 10<12;omega));(have k11:=cZ 11 (by show 11<12;omega));simp only[Nat.zero_add]at k0 k1 k2 k3 k4 k5 k6 k7 k8 k9 k10 k11)
  have hn:=nZ w N2.out (by show w.heap.size≤_;omega)
  clear nZ kZ cZ hth
  refine bodyPost_ret (v:=.tuple #[.agg #[.int .i64 C.cl,.int .i64 C.cb,.int .i64 C.ht,.int .i64 C.ri,.int .i64 C.ru,.int .i64 C.wd,.int .i64 C.dp,.int .i64 G.x,.int .i64 G.z,.int .i64 G.w,.int .i64 G.d,.slice G.ga n G.gc],.int .i64 0]) (by simp[results,Tryz.results140,go_sem, *]) rfl ?_
  exact⟨by rw[HRR.out],hn⟩
end Go.Proofs.YtmhghnbgllaihaaGreatDoor
