import Derived.Test.YtmhghnbgllaihaaGreatDoorLooseEP2Z2
import Derived.Test.YtmhghnbgllaihaaGreatDoorWholeHP2Z2
import Derived.Test.YtmhghnbgllaihaaGreatDoorSoLSP2Z2
import Derived.Deep.DeepCutAuto
import Derived.Deep.CutBlock
set_option linter.unusedVariables false
set_option maxHeartbeats 16000000
set_option maxRecDepth 100000

namespace Go.Proofs.YtmhghnbgllaihaaGreatDoor
open Go.RowKit
def nxI (x0 y0 z0 x1 y1 z1 x2 y2 z2:Int):Int:=(y1 - y0)*(z2 - z0) - (z1 - z0)*(y2 - y0)
def nyI (x0 y0 z0 x1 y1 z1 x2 y2 z2:Int):Int:=(z1 - z0)*(x2 - x0) - (x1 - x0)*(z2 - z0)
def nzI (x0 y0 z0 x1 y1 z1 x2 y2 z2:Int):Int:=(x1 - x0)*(y2 - y0) - (y1 - y0)*(x2 - x0)
def StV (w d x y z:Int):Prop:=(0≤x∧x≤w)∧(0≤z∧z≤d)∧(-2048≤y∧y≤2048)
instance (w d x y z:Int):Decidable (StV w d x y z):=by unfold StV;infer_instance
def StP (w d x0 y0 z0 x1 y1 z1 x2 y2 z2:Int):Prop:=StV w d x0 y0 z0∧StV w d x1 y1 z1∧StV w d x2 y2 z2
instance (w d x0 y0 z0 x1 y1 z1 x2 y2 z2:Int):Decidable (StP w d x0 y0 z0 x1 y1 z1 x2 y2 z2):=by unfold StP;infer_instance
def stB (w d x0 y0 z0 x1 y1 z1 x2 y2 z2:Int):Bool:=decide (StP w d x0 y0 z0 x1 y1 z1 x2 y2 z2)
theorem stB_iff {w d x0 y0 z0 x1 y1 z1 x2 y2 z2:Int}:stB w d x0 y0 z0 x1 y1 z1 x2 y2 z2=true↔StP w d x0 y0 z0 x1 y1 z1 x2 y2 z2:=by unfold stB;simp
def okB (x0 y0 z0 x1 y1 z1 x2 y2 z2:Int):Bool:=stB 32 32 x0 y0 z0 x1 y1 z1 x2 y2 z2&&(nyI x0 y0 z0 x1 y1 z1 x2 y2 z2 != 0)
def normX (x0 y0 z0 x1 y1 z1 x2 y2 z2:Int):Int:=if okB x0 y0 z0 x1 y1 z1 x2 y2 z2 then nxI x0 y0 z0 x1 y1 z1 x2 y2 z2 else 0
def normY (x0 y0 z0 x1 y1 z1 x2 y2 z2:Int):Int:=if okB x0 y0 z0 x1 y1 z1 x2 y2 z2 then nyI x0 y0 z0 x1 y1 z1 x2 y2 z2 else 0
def normZ (x0 y0 z0 x1 y1 z1 x2 y2 z2:Int):Int:=if okB x0 y0 z0 x1 y1 z1 x2 y2 z2 then nzI x0 y0 z0 x1 y1 z1 x2 y2 z2 else 0
def normE (x0 y0 z0 x1 y1 z1 x2 y2 z2:Int):Int:=if okB x0 y0 z0 x1 y1 z1 x2 y2 z2 then 0 else 40
theorem norm_yes {x0 y0 z0 x1 y1 z1 x2 y2 z2:Int} (h:okB x0 y0 z0 x1 y1 z1 x2 y2 z2=true):normX x0 y0 z0 x1 y1 z1 x2 y2 z2=nxI x0 y0 z0 x1 y1 z1 x2 y2 z2∧normY x0 y0 z0 x1 y1 z1 x2 y2 z2=nyI x0 y0 z0 x1 y1 z1 x2 y2 z2∧normZ x0 y0 z0 x1 y1 z1 x2 y2 z2=nzI x0 y0 z0 x1 y1 z1 x2 y2 z2∧normE x0 y0 z0 x1 y1 z1 x2 y2 z2=0:=by
 unfold normX normY normZ normE;simp[h]
theorem norm_no {x0 y0 z0 x1 y1 z1 x2 y2 z2:Int} (h:okB x0 y0 z0 x1 y1 z1 x2 y2 z2=false):normX x0 y0 z0 x1 y1 z1 x2 y2 z2=0∧normY x0 y0 z0 x1 y1 z1 x2 y2 z2=0∧normZ x0 y0 z0 x1 y1 z1 x2 y2 z2=0∧normE x0 y0 z0 x1 y1 z1 x2 y2 z2=40:=by
 unfold normX normY normZ normE;simp[h]
theorem nx_sum (x0 y0 z0 x1 y1 z1 x2 y2 z2:Int):(y0*z1 - z0*y1)+(y1*z2 - z1*y2)+(y2*z0 - z2*y0)=nxI x0 y0 z0 x1 y1 z1 x2 y2 z2:=by unfold nxI;grind
theorem ny_sum (x0 y0 z0 x1 y1 z1 x2 y2 z2:Int):(z0*x1 - x0*z1)+(z1*x2 - x1*z2)+(z2*x0 - x2*z0)=nyI x0 y0 z0 x1 y1 z1 x2 y2 z2:=by unfold nyI;grind
theorem nz_sum (x0 y0 z0 x1 y1 z1 x2 y2 z2:Int):(x0*y1 - y0*x1)+(x1*y2 - y1*x2)+(x2*y0 - y2*x0)=nzI x0 y0 z0 x1 y1 z1 x2 y2 z2:=by unfold nzI;grind
theorem nI_bd {x0 y0 z0 x1 y1 z1 x2 y2 z2:Int} (h:StP 32 32 x0 y0 z0 x1 y1 z1 x2 y2 z2):(-262144≤nxI x0 y0 z0 x1 y1 z1 x2 y2 z2∧nxI x0 y0 z0 x1 y1 z1 x2 y2 z2≤262144)∧(-2048≤nyI x0 y0 z0 x1 y1 z1 x2 y2 z2∧nyI x0 y0 z0 x1 y1 z1 x2 y2 z2≤2048)∧(-262144≤nzI x0 y0 z0 x1 y1 z1 x2 y2 z2∧nzI x0 y0 z0 x1 y1 z1 x2 y2 z2≤262144):=by
 unfold StP StV at h
 have a1:=mul_bd (a:=y1 - y0) (b:=z2 - z0) (A:=4096) (B:=32) (by omega) (by omega)
 have a2:=mul_bd (a:=z1 - z0) (b:=y2 - y0) (A:=32) (B:=4096) (by omega) (by omega)
 have a3:=mul_bd (a:=z1 - z0) (b:=x2 - x0) (A:=32) (B:=32) (by omega) (by omega)
 have a4:=mul_bd (a:=x1 - x0) (b:=z2 - z0) (A:=32) (B:=32) (by omega) (by omega)
 have a5:=mul_bd (a:=x1 - x0) (b:=y2 - y0) (A:=32) (B:=4096) (by omega) (by omega)
 have a6:=mul_bd (a:=y1 - y0) (b:=x2 - x0) (A:=4096) (B:=32) (by omega) (by omega)
 unfold nxI nyI nzI
 omega
theorem ok_st {x0 y0 z0 x1 y1 z1 x2 y2 z2:Int} (h:okB x0 y0 z0 x1 y1 z1 x2 y2 z2=true):StP 32 32 x0 y0 z0 x1 y1 z1 x2 y2 z2∧nyI x0 y0 z0 x1 y1 z1 x2 y2 z2≠0:=by
 unfold okB at h
 simp only[Bool.and_eq_true,bne_iff_ne]at h
 exact⟨stB_iff.1 h.1,h.2⟩
theorem t_within (n lo hi:Int) (w:World) :
  Calls Tryz.prog 117 #[.int .i64 n,.int .i64 lo,.int .i64 hi] w fun e w'=>e=.returned (.bool (decide (lo≤n∧n≤hi)))∧w=w':=by
 go_enter Tryz.func117,Tryz.ntmps117
 go_wp2
 all_goals
  go_ret
  refine⟨retB ?_,rfl⟩
  simp[*] <;> omega
theorem cross_small {a b c d:Int} (ha : -1073741824≤a∧a≤1073741824) (hb : -1073741824≤b∧b≤1073741824) (hc : -1073741824≤c∧c≤1073741824) (hd : -1073741824≤d∧d≤1073741824):crossI a b c d=a*d - b*c:=by
 unfold crossI crossB;simp only[nearB_iff];rw[if_pos (by simp;omega)]
theorem t_cross (a b c d:Int) (w:World) (ha : -1073741824≤a∧a≤1073741824) (hb : -1073741824≤b∧b≤1073741824) (hc : -1073741824≤c∧c≤1073741824) (hd : -1073741824≤d∧d≤1073741824) :
  Calls Tryz.prog 145 #[.int .i64 a,.int .i64 b,.int .i64 c,.int .i64 d] w fun e w'=>e=.returned (.int .i64 (a*d - b*c))∧w=w':=by
 have e1:=cross_small ha hb hc hd
 go_enter Tryz.func145,Tryz.ntmps145
 go_wp2_with fail
 refine(cross_any _ _ _ _ _).mono ?_
 rw[e1]
 rintro e w' ⟨rfl,rfl⟩
 go_wp2_with fail
 go_ret
 exact⟨rfl,rfl⟩
theorem t_widen (bl bh:Nat) (x y z lx ly lz hx hy hz:Int) (w:World) (hne:bl≠bh)
  (l0:w.cell? ⟨bl,0,none⟩=some (.int .i64 lx)) (l1:w.cell? ⟨bl,1,none⟩=some (.int .i64 ly)) (l2:w.cell? ⟨bl,2,none⟩=some (.int .i64 lz))
  (h0:w.cell? ⟨bh,0,none⟩=some (.int .i64 hx)) (h1:w.cell? ⟨bh,1,none⟩=some (.int .i64 hy)) (h2:w.cell? ⟨bh,2,none⟩=some (.int .i64 hz))
  (fl:∀ o,w.frozen? ⟨bl,o,none⟩=false) (fh:∀ o,w.frozen? ⟨bh,o,none⟩=false) :
  Calls Tryz.prog 183 (#[.agg #[.int .i64 x,.int .i64 y,.int .i64 z]]++#[.pointer (some ⟨bl,0,none⟩),.pointer (some ⟨bh,0,none⟩)]) w fun e w'=>e=.returned (.tuple #[])∧(∀ a,New a w→a.heap.size≤bl→a.heap.size≤bh→New a w') ∧
   (w'.cell? ⟨bl,0,none⟩=some (.int .i64 (min lx x))∧w'.cell? ⟨bl,1,none⟩=some (.int .i64 (min ly y))∧w'.cell? ⟨bl,2,none⟩=some (.int .i64 (min lz z))) ∧
   (w'.cell? ⟨bh,0,none⟩=some (.int .i64 (max hx x))∧w'.cell? ⟨bh,1,none⟩=some (.int .i64 (max hy y))∧w'.cell? ⟨bh,2,none⟩=some (.int .i64 (max hz z))) ∧
   (∀ o,w'.frozen? ⟨bl,o,none⟩=false)∧(∀ o,w'.frozen? ⟨bh,o,none⟩=false):=by
 have bl0:=World.block_lt_of_cell? _ _ l0
 have bh0:=World.block_lt_of_cell? _ _ h0
 simp only[]at bl0 bh0
 have fl0:=fl 0
 have fl1:=fl 1
 have fl2:=fl 2
 have fh0:=fh 0
 have fh1:=fh 1
 have fh2:=fh 2
 show Calls Tryz.prog 183 #[.agg #[.int .i64 x,.int .i64 y,.int .i64 z],.pointer (some ⟨bl,0,none⟩),.pointer (some ⟨bh,0,none⟩)] w _
 go_enter Tryz.func183,Tryz.ntmps183
 go_wp2
 refine bodyPost_end (results_none rfl _ _ _) rfl ?_
 refine⟨rfl,fun a ha k1 k2=>by exact nw,⟨by go_simp,by go_simp,by go_simp⟩,⟨by go_simp,by go_simp,by go_simp⟩,fun o=>by have:=fl o;go_simp,fun o=>by have:=fh o;go_simp⟩
def minI (a b c:Int):Int:=min (min (min a a) b) c
def maxI (a b c:Int):Int:=max (max (max a a) b) c
theorem t_bounds (i x0 y0 z0 x1 y1 z1 x2 y2 z2:Int) (w:World) :
  Calls Tryz.prog 144 #[.agg #[.int .i64 i,.int .i64 x0,.int .i64 y0,.int .i64 z0,.int .i64 x1,.int .i64 y1,.int .i64 z1,.int .i64 x2,.int .i64 y2,.int .i64 z2]] w fun e w'=>e=.returned (.tuple #[.agg #[.int .i64 (minI x0 x1 x2),.int .i64 (minI y0 y1 y2),.int .i64 (minI z0 z1 z2)],.agg #[.int .i64 (maxI x0 x1 x2),.int .i64 (maxI y0 y1 y2),.int .i64 (maxI z0 z1 z2)]])∧New w w':=by
 go_enter Tryz.func144,Tryz.ntmps144
 go_upto_region 1 with fail
 obtain⟨W0,hW⟩:∃ W0,W0=w.alloc (.cells #[.int .i64 i,.int .i64 x0,.int .i64 y0,.int .i64 z0,.int .i64 x1,.int .i64 y1,.int .i64 z1,.int .i64 x2,.int .i64 y2,.int .i64 z2] 64):=⟨_,rfl⟩
 rw[←hW]
 have c1:W0.cell? ⟨w.heap.size,1,none⟩=some (.int .i64 x0):=by subst hW;go_simp
 have c2:W0.cell? ⟨w.heap.size,2,none⟩=some (.int .i64 y0):=by subst hW;go_simp
 have c3:W0.cell? ⟨w.heap.size,3,none⟩=some (.int .i64 z0):=by subst hW;go_simp
 have c4:W0.cell? ⟨w.heap.size,4,none⟩=some (.int .i64 x1):=by subst hW;go_simp
 have c5:W0.cell? ⟨w.heap.size,5,none⟩=some (.int .i64 y1):=by subst hW;go_simp
 have c6:W0.cell? ⟨w.heap.size,6,none⟩=some (.int .i64 z1):=by subst hW;go_simp
 have c7:W0.cell? ⟨w.heap.size,7,none⟩=some (.int .i64 x2):=by subst hW;go_simp
 have c8:W0.cell? ⟨w.heap.size,8,none⟩=some (.int .i64 y2):=by subst hW;go_simp
 have c9:W0.cell? ⟨w.heap.size,9,none⟩=some (.int .i64 z2):=by subst hW;go_simp
 have hz:W0.heap.size=w.heap.size+1:=by subst hW;go_simp
 have n0:New w W0:=by subst hW;exact nw
 clear hW
 go_cut [8] (fun s8 Z=>New W0 Z∧(Z.cell? ⟨w.heap.size+1,0,none⟩=some (.int .i64 x0)∧Z.cell? ⟨w.heap.size+1,1,none⟩=some (.int .i64 y0)∧Z.cell? ⟨w.heap.size+1,2,none⟩=some (.int .i64 z0)) ∧
  (Z.cell? ⟨w.heap.size+1+1,0,none⟩=some (.int .i64 x0)∧Z.cell? ⟨w.heap.size+1+1,1,none⟩=some (.int .i64 y0)∧Z.cell? ⟨w.heap.size+1+1,2,none⟩=some (.int .i64 z0))∧(∀ o,Z.frozen? ⟨w.heap.size+1,o,none⟩=false)∧(∀ o,Z.frozen? ⟨w.heap.size+1+1,o,none⟩=false))
 case first =>
  go_region
  all_goals
   go_wp2_with fail
   go_meet
   exact⟨by exact nw,⟨by go_simp,by go_simp,by go_simp⟩,⟨by go_simp,by go_simp,by go_simp⟩,fun o=>by go_simp,fun o=>by go_simp⟩
 case rest =>
  obtain⟨nZ,⟨l0,l1,l2⟩,⟨h0,h1,h2⟩,fl,fh⟩:=hcut
  have e0:=nZ.keep c1
  have e1:=nZ.keep c2
  have e2:=nZ.keep c3
  go_wp2_with fail
  refine wp_loop_rounds 4 ?_
  rw[rounds_succ]
  go_wp2_with fail
  refine(t_widen _ _ _ _ _ _ _ _ _ _ _ _ (by omega) l0 l1 l2 h0 h1 h2 fl fh).mono ?_
  clear l0 l1 l2 h0 h1 h2 fl fh e0 e1 e2
  rintro e V1 ⟨rfl,nn,⟨l0,l1,l2⟩,⟨h0,h1,h2⟩,fl,fh⟩
  replace nZ:=nn W0 nZ (by omega) (by omega)
  clear nn
  have e0:=nZ.keep c4
  have e1:=nZ.keep c5
  have e2:=nZ.keep c6
  go_wp2_with fail
  rw[rounds_succ]
  go_wp2_with fail
  refine(t_widen _ _ _ _ _ _ _ _ _ _ _ _ (by omega) l0 l1 l2 h0 h1 h2 fl fh).mono ?_
  clear l0 l1 l2 h0 h1 h2 fl fh e0 e1 e2
  rintro e V2 ⟨rfl,nn,⟨l0,l1,l2⟩,⟨h0,h1,h2⟩,fl,fh⟩
  replace nZ:=nn W0 nZ (by omega) (by omega)
  clear nn
  have e0:=nZ.keep c7
  have e1:=nZ.keep c8
  have e2:=nZ.keep c9
  go_wp2_with fail
  rw[rounds_succ]
  go_wp2_with fail
  refine(t_widen _ _ _ _ _ _ _ _ _ _ _ _ (by omega) l0 l1 l2 h0 h1 h2 fl fh).mono ?_
  clear l0 l1 l2 h0 h1 h2 fl fh e0 e1 e2
  rintro e V3 ⟨rfl,nn,⟨l0,l1,l2⟩,⟨h0,h1,h2⟩,fl,fh⟩
  replace nZ:=nn W0 nZ (by omega) (by omega)
  clear nn
  go_wp2_with fail
  rw[rounds_succ]
  go_wp2_with fail
  have fl0:=fl 0
  have fl1:=fl 1
  have fl2:=fl 2
  have fh0:=fh 0
  have fh1:=fh 1
  have fh2:=fh 2
  replace n0:=n0.trans nZ
  go_region
  all_goals
   go_wp2_with fail
   refine bodyPost_ret (v:=.tuple #[.agg #[.int .i64 (minI x0 x1 x2),.int .i64 (minI y0 y1 y2),.int .i64 (minI z0 z1 z2)],.agg #[.int .i64 (maxI x0 x1 x2),.int .i64 (maxI y0 y1 y2),.int .i64 (maxI z0 z1 z2)]]) (by simp[results,Tryz.results144,go_sem,minI,maxI, *]) rfl ?_
   exact⟨rfl,by exact nw⟩
end Go.Proofs.YtmhghnbgllaihaaGreatDoor
