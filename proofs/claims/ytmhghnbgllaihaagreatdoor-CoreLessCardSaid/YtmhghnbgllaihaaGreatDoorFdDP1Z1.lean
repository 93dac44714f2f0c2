import Derived.Test.YtmhghnbgllaihaaGreatDoorOgWP1Z1
import Derived.Test.YtmhghnbgllaihaaGreatDoorLkGP1Z1
import Derived.Deep.DeepCutAuto

namespace Go.Proofs.YtmhghnbgllaihaaGreatDoor
open Go.RowKit
set_option linter.unusedVariables false
set_option maxHeartbeats 8000000 in
set_option maxRecDepth 100000 in
theorem fd_to (N:Net) (la:Option Addr) (lc:Nat) (s:Sp) (hs:SpIn N.M s) (d:Int) (hd:okD d=true) (w0 w:World) (hn0:New w0 w) (h:RowsK Lnk.enc 4 w0 (.slice la N.M.length lc) N.M) (hD:Dirs w):Calls Tryz.prog 215 #[.agg #[.int .i64 ((N.W:Nat):Int),.slice la N.M.length lc],.agg #[.int .i64 ((s.c:Nat):Int),.int .i64 ((s.k:Nat):Int)],.int .i64 d] w fun e w'=>e=.returned (.tuple #[.agg #[.int .i64 (((spO (N.go s d)).c:Nat):Int),.int .i64 (((spO (N.go s d)).k:Nat):Int)],.bool (N.go s d).isSome])∧New w w':=by
  have KS:=Lib.hid (fun W (q:New w W)=>lk_Step d W (hD.new q))
  unfold stV at KS
  rw[hd]at KS
  have hs1:s.c<N.M.length:=hs.1
  obtain⟨b,off,a,c,rfl,hc,hsl⟩:=(h.keep hn0).at s.c hs.1
  obtain⟨-,-,-,-,hrow⟩:=hsl.row'
  have hcol:=colM_at hs.1
  have hk:s.k<N.M[s.c].length:=by rw[←hcol];exact hs.2
  obtain⟨b2,o2,rfl,hA⟩:=hrow (by omega)
  obtain⟨e0,e1,e2,e3⟩:=Lnk.cells hA s.k hk
  have hx:=N.is s hs d hd
  have hat:=Lib.hid (fun t q=>N.lead s hs d t q)
  have hsm:=N.small hs
  have hx2:N.M[s.c][s.k]=(colM N.M s.c)[s.k]'hs.2:=by simp only[hcol]
  rw[hx2]at e0 e1 e2 e3
  clear hx2 hA hrow
  generalize (colM N.M s.c)[s.k]'hs.2=x at *
  obtain⟨m,hm⟩:∃ m,m=N.M[s.c].length:=⟨_,rfl⟩
  rw[←hm]at hc hk
  have hN1:N.W≤64:=N.wle
  have hN2:=N.len
  have hN3:=hs.1
  obtain⟨o,ho⟩:∃ o,o=N.go s d:=⟨_,rfl⟩
  rw[←ho]at hx hat ⊢
  obtain⟨W,hW⟩:∃ W,W=N.W:=⟨_,rfl⟩
  rw[←hW]at hat hN1 ⊢
  obtain⟨n,hn⟩:∃ n,n=N.M.length:=⟨_,rfl⟩
  rw[←hn]at hN2 hN3 ⊢
  clear ho hW hn hm hsl h hn0 hD hs hcol hs1
  obtain⟨sc,sk⟩:=s
  simp only at *
  have hd1:=dxD_small d
  have hd2:=dzD_small d
  obtain⟨l,hl⟩:∃ l,l=lkD x d:=⟨_,rfl⟩
  have hcell:w.cell? ⟨b2,o2+sk*4+d.toNat,none⟩=some (.int .i64 l):=by
    rcases okD_cases hd with rfl|rfl|rfl|rfl <;> rw[hl] <;> first|exact e0|exact e1|exact e2|exact e3
  rw[←hl]at hx
  clear hl e0 e1 e2 e3
  have hdr:0≤d∧d≤3:=wiB_iff.1 hd
  obtain⟨dn,rfl⟩:∃ dn:Nat,d=dn:=⟨d.toNat,by omega⟩
  simp only[Int.toNat_natCast]at hcell
  go_enter Tryz.func215,Tryz.ntmps215
  go_upto_region 1 with fail
  refine Code.at (fun W1 hW=>?_)
  have n0:New w W1:=by subst hW;exact nw
  have HG:Hid (GnAt W (.slice (some ⟨b,off,none⟩) n lc) W1 w.heap.size):=Lib.hid (by subst hW;exact⟨by go_simp,by go_simp⟩)
  have HS:Hid (SpAt ⟨sc,sk⟩ W1 (w.heap.size+1)):=Lib.hid (by subst hW;exact⟨by go_simp,by go_simp⟩)
  have HZ:Hid (Res2 W1 (w.heap.size+1+1)):=Lib.hid (by subst hW;exact⟨by go_simp,by go_simp,by go_simp,by go_simp⟩)
  clear hW
  replace hc:=n0.keep hc
  replace hcell:=n0.keep hcell
  obtain⟨g0,g1⟩:=HG.out
  obtain⟨s0,s1⟩:=HS.out
  simp only at s0 s1
  (refine wp_region_hat (by kernel_rfl) (by kernel_rfl) ?_;intro hatc hatf;(repeat(go_big_quiet_step ((fail))));refine wpQuiet_nil ?_;rintro _ ⟨q,rfl⟩)
  replace HG:=Lib.hid (HG.out.new q.h)
  replace HS:=Lib.hid (HS.out.new q.h)
  replace HZ:=Lib.hid (HZ.out.new q.h)
  have N1:=Lib.hid (n0.trans q.h)
  clear hatc hatf s0 s1 g0 g1 hc hcell n0
  generalize q.w=w4 at *
  clear q
  rcases o with _|t
  · simp only at hx
    subst hx
    obtain⟨z0,z1,f0,f1⟩:=HZ.out
    have n3:=N1.out
    clear KS hat
    go_wp2_with fail
    ((generalize hW5:World.setCell _ _ _=W5);(have n5:New w W5:=(by subst hW5;exact nw));(have k0:W5.cell? ⟨w.heap.size+1+1,0,none⟩=some (.int .i64 0):=(by subst hW5;go_simp));(have k1:W5.cell? ⟨w.heap.size+1+1,1,none⟩=some (.int .i64 0):=(by subst hW5;go_simp));clear hW5 z0 z1 f0 f1;refine bodyPost_ret (v:=.tuple #[.agg #[.int .i64 0,.int .i64 0],.bool false]) (by simp[results,Tryz.results215,go_sem, *]) rfl ?_)
    exact⟨rfl,n5⟩
  · simp only at hx
    subst hx
    have htc:=(hat.out t rfl).2
    clear hat
    have hlt:decide (((t.k:Nat):Int)<0)=false:=decide_eq_false (by omega)
    go_wp2_with fail
    refine(KS.out _ N1.out).mono ?_
    rintro e w5 ⟨rfl,n5⟩
    replace HG:=HG.out.new n5
    replace HS:=HS.out.new n5
    replace HZ:=HZ.out.new n5
    replace N1:=N1.out.trans n5
    clear n5 KS
    obtain⟨g0,g1⟩:=HG
    obtain⟨s0,s1⟩:=HS
    obtain⟨z0,z1,f0,f1⟩:=HZ
    simp only at s0 s1 htc
    obtain⟨dx,hdx⟩:∃ q,q=dxD ((dn:Nat):Int):=⟨_,rfl⟩
    obtain⟨dz,hdz⟩:∃ q,q=dzD ((dn:Nat):Int):=⟨_,rfl⟩
    rw[←hdx]at hd1 htc
    rw[←hdz]at hd2 htc
    rw[←hdx,←hdz]
    have hm1 : -64≤dz*W∧dz*W≤64:=by
      rcases(show dz = -1∨dz=0∨dz=1 by omega)with rfl|rfl|rfl <;> omega
    have hw1:IntKind.i64.wrap ((sc:Nat)+dx)=sc+dx:=IntWalk.i64_in _ (by omega)
    have hw2:IntKind.i64.wrap (dz*(W:Nat))=dz*W:=IntWalk.i64_in _ (by omega)
    have hw3:IntKind.i64.wrap ((sc:Nat)+dx+dz*(W:Nat))=((t.c:Nat):Int):=by rw[htc];exact IntWalk.i64_in _ (by omega)
    clear hdx hdz hd1 hd2 hm1 htc
    go_wp2_with fail
    ((generalize hW5:World.setCell _ _ _=W5);(have n5:New w W5:=(by subst hW5;exact nw));(have k0:W5.cell? ⟨w.heap.size+1+1,0,none⟩=some (.int .i64 ((t.c:Nat):Int)):=(by subst hW5;go_simp));(have k1:W5.cell? ⟨w.heap.size+1+1,1,none⟩=some (.int .i64 ((t.k:Nat):Int)):=(by subst hW5;go_simp));clear hW5 z0 z1 f0 f1;refine bodyPost_ret (v:=.tuple #[.agg #[.int .i64 ((t.c:Nat):Int),.int .i64 ((t.k:Nat):Int)],.bool true]) (by simp[results,Tryz.results215,go_sem, *]) rfl ?_)
    exact⟨rfl,n5⟩
end Go.Proofs.YtmhghnbgllaihaaGreatDoor

namespace Go.Proofs.YtmhghnbgllaihaaGreatDoor
open Go.RowKit
set_option linter.unusedVariables false
set_option maxHeartbeats 8000000 in
set_option maxRecDepth 100000 in
theorem fd_round (N:Net) (la:Option Addr) (lc:Nat) (s:Sp) (hs:SpIn N.M s) (d d2:Int) (hd:okD d=true) (hd2:okD d2=true) (w0 w:World) (hn0:New w0 w) (h:RowsK Lnk.enc 4 w0 (.slice la N.M.length lc) N.M) (hD:Dirs w) (B0 B1:Nat) (hG:GnAt N.W (.slice la N.M.length lc) w B0) (hS:SpAt s w B1):Calls Tryz.prog 241 #[.int .i64 d,.int .i64 d2,.pointer (some ⟨B0,0,none⟩),.pointer (some ⟨B1,0,none⟩)] w fun e w'=>e=.returned (.tuple #[.agg #[.int .i64 (((spO (rndP N.go s d d2)).c:Nat):Int),.int .i64 (((spO (rndP N.go s d d2)).k:Nat):Int)],.bool (rndP N.go s d d2).isSome])∧New w w':=by
  have K1:=Lib.hid (fun W (q:New w W)=>fd_to N la lc s hs d hd w0 W (hn0.trans q) h (hD.new q))
  have K2:=Lib.hid (fun m (hm:SpIn N.M m) W (q:New w W)=>fd_to N la lc m hm d2 hd2 w0 W (hn0.trans q) h (hD.new q))
  have HG:=Lib.hid (fun W (q:New w W)=>hG.new q)
  have HS:=Lib.hid (fun W (q:New w W)=>hS.new q)
  have hz0:=World.block_lt_of_cell? _ _ hG.c0
  have hz1:=World.block_lt_of_cell? _ _ hS.c0
  simp only[]at hz0 hz1
  obtain⟨r,hr⟩:∃ r,r=rndP N.go s d d2:=⟨_,rfl⟩
  have R1:Hid (N.go s d=none→r=none):=Lib.hid (fun q=>by rw[hr];unfold rndP;rw[q])
  have R2:Hid (∀ m,N.go s d=some m→r=N.go m d2):=Lib.hid (fun m q=>by rw[hr];unfold rndP;rw[q])
  have HI:Hid (∀ m,N.go s d=some m→SpIn N.M m):=Lib.hid (fun m q=>(N.lead s hs d m q).1)
  rw[←hr]
  obtain⟨n,hn⟩:∃ n,n=N.M.length:=⟨_,rfl⟩
  rw[←hn]at K1 K2 HG
  obtain⟨wd,hwd⟩:∃ q,q=N.W:=⟨_,rfl⟩
  rw[←hwd]at K1 K2 HG
  clear hr hn hwd h hD hG hS hd hd2
  obtain⟨o,ho⟩:∃ o,o=N.go s d:=⟨_,rfl⟩
  rw[←ho]at K1 R1 R2 HI
  clear ho
  go_enter Tryz.func241,Tryz.ntmps241
  go_upto_region 1 with fail
  refine Code.at (fun W hW=>?_)
  have n0:New w W:=by subst hW;exact nw
  have HZ:Hid (Res2 W w.heap.size):=Lib.hid (by subst hW;exact⟨by go_simp,by go_simp,by go_simp,by go_simp⟩)
  clear hW
  obtain⟨g0,g1⟩:=HG.out W n0
  obtain⟨s0,s1⟩:=HS.out W n0
  go_wp2_with fail
  refine(K1.out _ n0).mono ?_
  rintro e w1 ⟨rfl,n1⟩
  have N1:=Lib.hid (n0.trans n1)
  replace HZ:=Lib.hid (HZ.out.new n1)
  have hz3:w.heap.size<w1.heap.size:=World.block_lt_of_cell? _ _ HZ.out.c0
  clear n0 n1 K1 s0 s1 g0 g1
  rcases o with _|m
  · have HR:=Lib.hid (R1.out rfl)
    simp only[Option.isSome_none]
    clear R1 R2 K2 HG HS HI
    go_upto_region 3 with fail
    refine Code.at (fun W2 hW=>?_)
    have n2:New w1 W2:=by subst hW;exact nw
    clear hW
    obtain⟨z0,z1,f0,f1⟩:=HZ.out.new n2
    have n3:=N1.out.trans n2
    go_wp2_with fail
    ((generalize hW5:World.setCell _ _ _=W5);(have n5:New w W5:=(by subst hW5;exact nw));(have k0:W5.cell? ⟨w.heap.size,0,none⟩=some (.int .i64 0):=(by subst hW5;go_simp));(have k1:W5.cell? ⟨w.heap.size,1,none⟩=some (.int .i64 0):=(by subst hW5;go_simp));clear hW5 z0 z1 f0 f1;refine bodyPost_ret (v:=.tuple #[.agg #[.int .i64 0,.int .i64 0],.bool false]) (by simp[results,Tryz.results241,go_sem, *]) rfl ?_)
    rw[HR.out]
    exact⟨rfl,n5⟩
  have HR:=Lib.hid (R2.out m rfl)
  have hmi:=HI.out m rfl
  simp only[Option.isSome_some]
  have hm:spO (some m)=m:=rfl
  rw[hm]
  clear hm R1 R2 HI
  go_upto_region 4 with fail
  refine Code.at (fun W2 hW=>?_)
  have n2:New w1 W2:=by subst hW;exact nw
  have hm0:W2.cell? ⟨w1.heap.size,0,none⟩=some (.int .i64 ((m.c:Nat):Int)):=by subst hW;go_simp
  have hm1:W2.cell? ⟨w1.heap.size,1,none⟩=some (.int .i64 ((m.k:Nat):Int)):=by subst hW;go_simp
  clear hW
  have N2:=Lib.hid (N1.out.trans n2)
  obtain⟨g0,g1⟩:=HG.out W2 N2.out
  replace HZ:=Lib.hid (HZ.out.new n2)
  have K2m:=Lib.hid (K2.out m hmi)
  clear K2 hmi
  go_wp2_with fail
  refine(K2m.out _ N2.out).mono ?_
  rintro e w3 ⟨rfl,n3⟩
  obtain⟨z0,z1,f0,f1⟩:=HZ.out.new n3
  have N3:=N2.out.trans n3
  clear n2 hm0 hm1 n3 g0 g1
  rw[←HR.out]
  obtain⟨v,hv⟩:∃ v,v=spO r:=⟨_,rfl⟩
  obtain⟨b,hb⟩:∃ b,b=r.isSome:=⟨_,rfl⟩
  rw[←hv,←hb]
  have HV:=Lib.hid (And.intro hv hb)
  clear HR hv hb
  go_wp2_with fail
  ((generalize hW5:World.setCell _ _ _=W5);(have n5:New w W5:=(by subst hW5;exact nw));(have k0:W5.cell? ⟨w.heap.size,0,none⟩=some (.int .i64 ((v.c:Nat):Int)):=(by subst hW5;go_simp));(have k1:W5.cell? ⟨w.heap.size,1,none⟩=some (.int .i64 ((v.k:Nat):Int)):=(by subst hW5;go_simp));clear hW5 z0 z1 f0 f1;refine bodyPost_ret (v:=.tuple #[.agg #[.int .i64 ((v.c:Nat):Int),.int .i64 ((v.k:Nat):Int)],.bool b]) (by simp[results,Tryz.results241,go_sem, *]) rfl ?_)
  rw[←HV.out.1,←HV.out.2]
  exact⟨rfl,n5⟩
set_option maxHeartbeats 8000000 in
set_option maxRecDepth 100000 in
theorem fd_diagonal (N:Net) (la:Option Addr) (lc:Nat) (s:Sp) (hs:SpIn N.M s) (d d2:Int) (hd:okD d=true) (hd2:okD d2=true) (w0 w:World) (hn0:New w0 w) (h:RowsK Lnk.enc 4 w0 (.slice la N.M.length lc) N.M) (hD:Dirs w):Calls Tryz.prog 216 #[.agg #[.int .i64 ((N.W:Nat):Int),.slice la N.M.length lc],.agg #[.int .i64 ((s.c:Nat):Int),.int .i64 ((s.k:Nat):Int)],.int .i64 d,.int .i64 d2] w fun e w'=>e=.returned (.tuple #[.agg #[.int .i64 (((spO (diaP N.go s d d2)).c:Nat):Int),.int .i64 (((spO (diaP N.go s d d2)).k:Nat):Int)],.bool (diaP N.go s d d2).isSome])∧New w w':=by
  have K11:=Lib.hid (fun W (q:New w W) B0 B1 h1 h2=>fd_round N la lc s hs d d2 hd hd2 w0 W (hn0.trans q) h (hD.new q) B0 B1 h1 h2)
  have K12:=Lib.hid (fun W (q:New w W) B0 B1 h1 h2=>fd_round N la lc s hs d2 d hd2 hd w0 W (hn0.trans q) h (hD.new q) B0 B1 h1 h2)
  obtain⟨r,hr⟩:∃ r,r=diaP N.go s d d2:=⟨_,rfl⟩
  rw[←hr]
  have HR2:Hid (r=bothP (rndP N.go s d d2) (rndP N.go s d2 d)):=Lib.hid hr
  obtain⟨n,hn⟩:∃ n,n=N.M.length:=⟨_,rfl⟩
  rw[←hn]at K11 K12 ⊢
  obtain⟨wd,hwd⟩:∃ q,q=N.W:=⟨_,rfl⟩
  rw[←hwd]at K11 K12 ⊢
  clear hr hn hwd h hD hs hd hd2
  go_enter Tryz.func216,Tryz.ntmps216
  go_upto_region 1 with fail
  refine Code.at (fun W hW=>?_)
  have n0:New w W:=by subst hW;exact nw
  have HG:Hid (GnAt wd (.slice la n lc) W w.heap.size):=Lib.hid (by subst hW;exact⟨by go_simp,by go_simp⟩)
  have HS:Hid (SpAt s W (w.heap.size+1)):=Lib.hid (by subst hW;exact⟨by go_simp,by go_simp⟩)
  have HZ:Hid (Res2 W (w.heap.size+1+1)):=Lib.hid (by subst hW;exact⟨by go_simp,by go_simp,by go_simp,by go_simp⟩)
  clear hW
  generalize rndP N.go s d d2=o1 at *
  generalize rndP N.go s d2 d=o2 at *
  go_wp2_with fail
  refine(K11.out _ n0 _ _ HG.out HS.out).mono ?_
  rintro e w1 ⟨rfl,n1⟩
  have N1:=Lib.hid (n0.trans n1)
  replace HG:=Lib.hid (HG.out.new n1)
  replace HS:=Lib.hid (HS.out.new n1)
  replace HZ:=Lib.hid (HZ.out.new n1)
  clear n0 n1 K11
  go_wp2_with fail
  refine Calls.at (fun W2 hW=>?_)
  have n2:New w1 W2:=by subst hW;exact nw
  have HT:Hid (SpAt (spO o1) W2 w1.heap.size):=Lib.hid (by subst hW;exact⟨by go_simp,by go_simp⟩)
  clear hW
  have N2:=Lib.hid (N1.out.trans n2)
  refine(K12.out _ N2.out _ _ (HG.out.new n2) (HS.out.new n2)).mono ?_
  rintro e w3 ⟨rfl,n3⟩
  replace HZ:=Lib.hid (HZ.out.new (n2.trans n3))
  replace HT:=Lib.hid (HT.out.new n3)
  have N3:=Lib.hid (N2.out.trans n3)
  clear n2 n3 K12 HG HS N1 N2
  go_upto_region 4 with fail
  refine Code.at (fun W4 hW=>?_)
  have n4:New w3 W4:=by subst hW;exact nw
  have HU:Hid (SpAt (spO o2) W4 w3.heap.size):=Lib.hid (by subst hW;exact⟨by go_simp,by go_simp⟩)
  clear hW
  obtain⟨z0,z1,f0,f1⟩:=HZ.out.new n4
  obtain⟨t0,t1⟩:=HT.out.new n4
  obtain⟨u0,u1⟩:=HU.out
  have n3:=N3.out.trans n4
  clear n4 HZ HT HU N3
  rcases o1 with _|t
  · have HRR:Hid (r=none):=Lib.hid (by rw[HR2.out];rfl)
    simp only[Option.isSome_none]
    clear HR2
    go_wp2_with fail
    ((generalize hW5:World.setCell _ _ _=W5);(have n5:New w W5:=(by subst hW5;exact nw));(have k0:W5.cell? ⟨w.heap.size+1+1,0,none⟩=some (.int .i64 0):=(by subst hW5;go_simp));(have k1:W5.cell? ⟨w.heap.size+1+1,1,none⟩=some (.int .i64 0):=(by subst hW5;go_simp));clear hW5 z0 z1 f0 f1;refine bodyPost_ret (v:=.tuple #[.agg #[.int .i64 0,.int .i64 0],.bool false]) (by simp[results,Tryz.results216,go_sem, *]) rfl ?_)
    rw[HRR.out]
    exact⟨rfl,n5⟩
  rcases o2 with _|u
  · have HRR:Hid (r=none):=Lib.hid (by rw[HR2.out];rfl)
    simp only[Option.isSome_none,Option.isSome_some]
    clear HR2
    go_wp2_with fail
    ((generalize hW5:World.setCell _ _ _=W5);(have n5:New w W5:=(by subst hW5;exact nw));(have k0:W5.cell? ⟨w.heap.size+1+1,0,none⟩=some (.int .i64 0):=(by subst hW5;go_simp));(have k1:W5.cell? ⟨w.heap.size+1+1,1,none⟩=some (.int .i64 0):=(by subst hW5;go_simp));clear hW5 z0 z1 f0 f1;refine bodyPost_ret (v:=.tuple #[.agg #[.int .i64 0,.int .i64 0],.bool false]) (by simp[results,Tryz.results216,go_sem, *]) rfl ?_)
    rw[HRR.out]
    exact⟨rfl,n5⟩
  have ht:spO (some t)=t:=rfl
  have hu:spO (some u)=u:=rfl
  rw[ht]at t0 t1
  rw[hu]at u0 u1
  simp only[Option.isSome_some]
  rw[ht,hu]
  clear ht hu
  cases e1:((t.c:Int)==(u.c:Int))
  · have HRR:Hid (r=none):=Lib.hid (by
      rw[HR2.out]
      unfold bothP
      simp only
      rw[if_neg (fun q=>by rw[q]at e1;simp at e1)])
    clear HR2
    go_wp2_with fail
    ((generalize hW5:World.setCell _ _ _=W5);(have n5:New w W5:=(by subst hW5;exact nw));(have k0:W5.cell? ⟨w.heap.size+1+1,0,none⟩=some (.int .i64 0):=(by subst hW5;go_simp));(have k1:W5.cell? ⟨w.heap.size+1+1,1,none⟩=some (.int .i64 0):=(by subst hW5;go_simp));clear hW5 z0 z1 f0 f1;refine bodyPost_ret (v:=.tuple #[.agg #[.int .i64 0,.int .i64 0],.bool false]) (by simp[results,Tryz.results216,go_sem, *]) rfl ?_)
    rw[HRR.out]
    exact⟨rfl,n5⟩
  cases e2:((t.k:Int)==(u.k:Int))
  · have HRR:Hid (r=none):=Lib.hid (by
      rw[HR2.out]
      unfold bothP
      simp only
      rw[if_neg (fun q=>by rw[q]at e2;simp at e2)])
    clear HR2
    go_wp2_with fail
    ((generalize hW5:World.setCell _ _ _=W5);(have n5:New w W5:=(by subst hW5;exact nw));(have k0:W5.cell? ⟨w.heap.size+1+1,0,none⟩=some (.int .i64 0):=(by subst hW5;go_simp));(have k1:W5.cell? ⟨w.heap.size+1+1,1,none⟩=some (.int .i64 0):=(by subst hW5;go_simp));clear hW5 z0 z1 f0 f1;refine bodyPost_ret (v:=.tuple #[.agg #[.int .i64 0,.int .i64 0],.bool false]) (by simp[results,Tryz.results216,go_sem, *]) rfl ?_)
    rw[HRR.out]
    exact⟨rfl,n5⟩
  · have HRR:Hid (r=some t):=Lib.hid (by
      rw[HR2.out]
      unfold bothP
      simp only
      rw[if_pos ((Sp.eqB_iff t u).1 (by unfold Sp.eqB;rw[e1,e2];rfl))])
    clear HR2
    go_wp2_with fail
    ((generalize hW5:World.setCell _ _ _=W5);(have n5:New w W5:=(by subst hW5;exact nw));(have k0:W5.cell? ⟨w.heap.size+1+1,0,none⟩=some (.int .i64 ((t.c:Nat):Int)):=(by subst hW5;go_simp));(have k1:W5.cell? ⟨w.heap.size+1+1,1,none⟩=some (.int .i64 ((t.k:Nat):Int)):=(by subst hW5;go_simp));clear hW5 z0 z1 f0 f1;refine bodyPost_ret (v:=.tuple #[.agg #[.int .i64 ((t.c:Nat):Int),.int .i64 ((t.k:Nat):Int)],.bool true]) (by simp[results,Tryz.results216,go_sem, *]) rfl ?_)
    rw[HRR.out]
    exact⟨rfl,n5⟩
end Go.Proofs.YtmhghnbgllaihaaGreatDoor
