import Derived.Test.YtmhghnbgllaihaaGreatDoorClCP2Z2
import Derived.Outline
import Derived.Deep.DeepCutAuto
import Derived.Ground.SlsfProg
import Derived.Test.YtmhghnbgllaihaaGreatDoorProg
import Derived.Shelf.SlSortCmp.NoneTotal
import Derived.Test.YtmhghnbgllaihaaGreatDoorSoLSP2Z2
import Derived.Test.YtmhghnbgllaihaaGreatDoorLooseEP2Z2
import Derived.Laws.IdiomCopy
set_option linter.unusedVariables false
set_option maxHeartbeats 16000000
set_option maxRecDepth 100000

namespace Go.Proofs.YtmhghnbgllaihaaGreatDoor
open Go.RowKit
def cfC (a b:Co):Int:=orI (cmpI (a.x*b.d) (b.x*a.d)) (cmpI (a.z*b.d) (b.z*a.d))
def k_cV (a b:Co):Nat→World→Value→Prop
 | 0,_,v=>v=.agg #[.int .i64 a.x,.int .i64 a.d]
 | 1,_,v=>v=.agg #[.int .i64 b.x,.int .i64 b.d]
 | 2,_,v=>v=.int .i64 (cmpI (a.x*b.d) (b.x*a.d))
 | 3,_,v=>v=.agg #[.int .i64 a.z,.int .i64 a.d]
 | 4,_,v=>v=.agg #[.int .i64 b.z,.int .i64 b.d]
 | 5,_,v=>v=.int .i64 (cmpI (a.z*b.d) (b.z*a.d))
 | 6,w,v=>∃ g,v=.slice (some ⟨g,0,none⟩) 2 2∧w.cell? ⟨g,0,none⟩=some (.int .i64 (cmpI (a.x*b.d) (b.x*a.d)))∧w.cell? ⟨g,1,none⟩=some (.int .i64 (cmpI (a.z*b.d) (b.z*a.d)))
 | _,_,v=>v=.int .i64 (cfC a b)
theorem k_cV_keep {a b:Co}:∀ i w w' v,k_cV a b i w v→Gro w w'→k_cV a b i w' v:=by
 intro i w w' v h hn
 rcases(show i=0∨i=1∨i=2∨i=3∨i=4∨i=5∨i=6∨7≤i by omega)with rfl|rfl|rfl|rfl|rfl|rfl|rfl|hi
 ·exact h
 ·exact h
 ·exact h
 ·exact h
 ·exact h
 ·exact h
 ·obtain⟨g,e,h1,h2⟩:=h;exact⟨g,e,hn.1.keep h1,hn.1.keep h2⟩
 ·obtain⟨k,rfl⟩:∃ k,i=k+7:=⟨i - 7,by omega⟩
  exact h
theorem k_less (a b:Co) (w:World) (ha:Okc a) (hb:Okc b) :
  Calls Tryz.prog 249 #[.agg #[.int .i64 a.x,.int .i64 a.z,.int .i64 a.y,.int .i64 a.d],.agg #[.int .i64 b.x,.int .i64 b.z,.int .i64 b.y,.int .i64 b.d]] w fun e w'=>e=.returned (.int .i64 (cfC a b))∧Gro w w':=by
 have KP:=Lib.hid (fun x z y d W=>k_parts x z y d W)
 have K1:=Lib.hid (fun W=>k_compare a.x b.x a.d b.d W ha.2.1 hb.2.1 ha.1 hb.1)
 have K2:=Lib.hid (fun W=>k_compare a.z b.z a.d b.d W ha.2.2.1 hb.2.2.1 ha.1 hb.1)
 clear ha hb
 go_enter Tryz.func249,Tryz.ntmps249
 go_wp2_with fail
 refine(KP.out _ _ _ _ _).mono ?_
 rintro e W1 ⟨rfl,g1⟩
 have d0:W1.cell? ⟨w.heap.size+1,0,none⟩=some (.int .i64 b.x):=g1.1.keep (by go_simp)
 have d1:W1.cell? ⟨w.heap.size+1,1,none⟩=some (.int .i64 b.z):=g1.1.keep (by go_simp)
 have d2:W1.cell? ⟨w.heap.size+1,2,none⟩=some (.int .i64 b.y):=g1.1.keep (by go_simp)
 have d3:W1.cell? ⟨w.heap.size+1,3,none⟩=some (.int .i64 b.d):=g1.1.keep (by go_simp)
 replace g1:Gro w W1:=Gro.trans (by(repeat(first|(with_reducible exact Gro.refl _)|(with_reducible assumption)|((with_reducible refine Gro.setB ?_ ?_ _);focus(first|omega|(simp;omega)|(simp;done)))|(with_reducible refine Gro.alloc ?_ _)|(with_reducible refine Gro.drew ?_)|(with_reducible refine Gro.drewN ?_ _)|((with_reducible apply Gro.snart);(with_reducible assumption))))) g1
 have z1:=g1.1.size
 go_upto_region 2 with fail
 refine Code.at (fun W2 hW=>?_)
 have g2:Gro W1 W2:=by subst hW;(repeat(first|(with_reducible exact Gro.refl _)|(with_reducible assumption)|((with_reducible refine Gro.setB ?_ ?_ _);focus(first|omega|(simp;omega)|(simp;done)))|(with_reducible refine Gro.alloc ?_ _)|(with_reducible refine Gro.drew ?_)|(with_reducible refine Gro.drewN ?_ _)|((with_reducible apply Gro.snart);(with_reducible assumption))))
 have e0:W2.cell? ⟨W1.heap.size,0,none⟩=some (.int .i64 a.x):=by subst hW;go_simp
 have e1:W2.cell? ⟨W1.heap.size,1,none⟩=some (.int .i64 a.d):=by subst hW;go_simp
 have e2:W2.cell? ⟨W1.heap.size+1,0,none⟩=some (.int .i64 a.z):=by subst hW;go_simp
 have e3:W2.cell? ⟨W1.heap.size+1,1,none⟩=some (.int .i64 a.d):=by subst hW;go_simp
 clear hW
 replace d0:=g2.1.keep d0
 replace d1:=g2.1.keep d1
 replace d2:=g2.1.keep d2
 replace d3:=g2.1.keep d3
 replace g2:=g1.trans g2
 clear g1
 go_wp2_with fail
 refine(KP.out _ _ _ _ _).mono ?_
 rintro e W3 ⟨rfl,g3⟩
 replace e0:=g3.1.keep e0
 replace e1:=g3.1.keep e1
 replace e2:=g3.1.keep e2
 replace e3:=g3.1.keep e3
 replace g3:=g2.trans g3
 clear d0 d1 d2 d3 g2
 have z3:=g3.1.size
 go_upto_region 3 with fail
 refine Code.at (fun W4 hW=>?_)
 have g4:Gro W3 W4:=by subst hW;(repeat(first|(with_reducible exact Gro.refl _)|(with_reducible assumption)|((with_reducible refine Gro.setB ?_ ?_ _);focus(first|omega|(simp;omega)|(simp;done)))|(with_reducible refine Gro.alloc ?_ _)|(with_reducible refine Gro.drew ?_)|(with_reducible refine Gro.drewN ?_ _)|((with_reducible apply Gro.snart);(with_reducible assumption))))
 have f0:W4.cell? ⟨W3.heap.size,0,none⟩=some (.int .i64 b.x):=by subst hW;go_simp
 have f1:W4.cell? ⟨W3.heap.size,1,none⟩=some (.int .i64 b.d):=by subst hW;go_simp
 have f2:W4.cell? ⟨W3.heap.size+1,0,none⟩=some (.int .i64 b.z):=by subst hW;go_simp
 have f3:W4.cell? ⟨W3.heap.size+1,1,none⟩=some (.int .i64 b.d):=by subst hW;go_simp
 clear hW
 replace e0:=g4.1.keep e0
 replace e1:=g4.1.keep e1
 replace e2:=g4.1.keep e2
 replace e3:=g4.1.keep e3
 replace g4:=g3.trans g4
 clear g3
 refine wp_region_gloose 8 (k_cV a b) (by kernel_rfl) (by kernel_rfl) k_cV_keep ?_ ?_
 ·intro i o hi ho a' w' nn hr hd
  rcases(show i=0∨i=1∨i=2∨i=3∨i=4∨i=5∨i=6∨i=7 by omega)with rfl|rfl|rfl|rfl|rfl|rfl|rfl|rfl <;> obtain rfl:=Option.some.inj ho
  ·have r:(a'.tmps[5]?).getD undef=.pointer (some ⟨W1.heap.size,0,none⟩):=(eval_get a' 5).symm.trans (hr 5 (by kernel_rfl))
   have x0:=nn.1.keep e0
   have x1:=nn.1.keep e1
   exact yields_value (.agg #[.int .i64 a.x,.int .i64 a.d]) (by go_simp) ⟨Gro.refl _,rfl⟩
  ·have r:(a'.tmps[8]?).getD undef=.pointer (some ⟨W3.heap.size,0,none⟩):=(eval_get a' 8).symm.trans (hr 8 (by kernel_rfl))
   have x0:=nn.1.keep f0
   have x1:=nn.1.keep f1
   exact yields_value (.agg #[.int .i64 b.x,.int .i64 b.d]) (by go_simp) ⟨Gro.refl _,rfl⟩
  ·have r0:(a'.tmps[23]?).getD undef=.agg #[.int .i64 a.x,.int .i64 a.d]:=(eval_get a' 23).symm.trans (hd 0 23 (by omega) (by kernel_rfl) (by kernel_rfl))
   have r1:(a'.tmps[24]?).getD undef=.agg #[.int .i64 b.x,.int .i64 b.d]:=(eval_get a' 24).symm.trans (hd 1 24 (by omega) (by kernel_rfl) (by kernel_rfl))
   exact yields_enter 251 #[.agg #[.int .i64 a.x,.int .i64 a.d],.agg #[.int .i64 b.x,.int .i64 b.d]] (by go_simp) ((K1.out _).mono fun e w'' ⟨he,hg⟩=>⟨_,he,hg,rfl⟩)
  ·have r:(a'.tmps[6]?).getD undef=.pointer (some ⟨W1.heap.size+1,0,none⟩):=(eval_get a' 6).symm.trans (hr 6 (by kernel_rfl))
   have x0:=nn.1.keep e2
   have x1:=nn.1.keep e3
   exact yields_value (.agg #[.int .i64 a.z,.int .i64 a.d]) (by go_simp) ⟨Gro.refl _,rfl⟩
  ·have r:(a'.tmps[9]?).getD undef=.pointer (some ⟨W3.heap.size+1,0,none⟩):=(eval_get a' 9).symm.trans (hr 9 (by kernel_rfl))
   have x0:=nn.1.keep f2
   have x1:=nn.1.keep f3
   exact yields_value (.agg #[.int .i64 b.z,.int .i64 b.d]) (by go_simp) ⟨Gro.refl _,rfl⟩
  ·have r0:(a'.tmps[26]?).getD undef=.agg #[.int .i64 a.z,.int .i64 a.d]:=(eval_get a' 26).symm.trans (hd 3 26 (by omega) (by kernel_rfl) (by kernel_rfl))
   have r1:(a'.tmps[27]?).getD undef=.agg #[.int .i64 b.z,.int .i64 b.d]:=(eval_get a' 27).symm.trans (hd 4 27 (by omega) (by kernel_rfl) (by kernel_rfl))
   exact yields_enter 251 #[.agg #[.int .i64 a.z,.int .i64 a.d],.agg #[.int .i64 b.z,.int .i64 b.d]] (by go_simp) ((K2.out _).mono fun e w'' ⟨he,hg⟩=>⟨_,he,hg,rfl⟩)
  ·have r0:(a'.tmps[25]?).getD undef=.int .i64 (cmpI (a.x*b.d) (b.x*a.d)):=(eval_get a' 25).symm.trans (hd 2 25 (by omega) (by kernel_rfl) (by kernel_rfl))
   have r1:(a'.tmps[28]?).getD undef=.int .i64 (cmpI (a.z*b.d) (b.z*a.d)):=(eval_get a' 28).symm.trans (hd 5 28 (by omega) (by kernel_rfl) (by kernel_rfl))
   generalize hp:cmpI (a.x*b.d) (b.x*a.d)=p at *
   generalize hq:cmpI (a.z*b.d) (b.z*a.d)=q at *
   have hnew:=(Gro.refl w').alloc (.cells #[.int .i64 p,.int .i64 q] 41)
   refine yields_value (w':=w'.alloc (.cells #[.int .i64 p,.int .i64 q] 3)) (.slice (some ⟨w'.heap.size,0,none⟩) 2 2) (by go_simp) ⟨(Gro.refl w').alloc _,_,rfl,?_,?_⟩
   ·rw[hp];go_simp
   ·rw[hq];go_simp
  ·obtain⟨g,eg,c0,c1⟩:∃ g,a'.eval (.tmp 29)=.slice (some ⟨g,0,none⟩) 2 2∧w'.cell? ⟨g,0,none⟩=some (.int .i64 (cmpI (a.x*b.d) (b.x*a.d)))∧w'.cell? ⟨g,1,none⟩=some (.int .i64 (cmpI (a.z*b.d) (b.z*a.d))):=hd 6 29 (by omega) (by kernel_rfl) (by kernel_rfl)
   have r29:(a'.tmps[29]?).getD undef=_:=(eval_get a' 29).symm.trans eg
   refine yields_enter 250 #[.slice (some ⟨g,0,none⟩) 2 2] (by go_simp) ((k_or _ _ g w' c0 c1).mono ?_)
   rintro e w'' ⟨he,rfl⟩
   exact⟨_,he,Gro.refl _,rfl⟩
 ·intro vs w' nn hv
  have e7:vs 7=.int .i64 (cfC a b):=hv 7 (by omega)
  simp only[List.take_succ_cons,List.take_zero,List.drop_succ_cons,List.drop_zero,putL,Act.put,List.setIfInBounds_toArray,List.set_cons_zero,List.set_cons_succ,Nat.reduceAdd,Nat.zero_add]
  rw[e7]
  have hg:=g4.trans nn
  clear hv e7 e0 e1 e2 e3 f0 f1 f2 f3 nn
  go_wp2_with fail
  go_ret
  exact⟨rfl,hg⟩
end Go.Proofs.YtmhghnbgllaihaaGreatDoor

namespace Go.Proofs.YtmhghnbgllaihaaGreatDoor
open Go.Shelf
def laysSortF_ren:Go.Shelf.Ren:=⟨fun|6=>248|15=>235|14=>273|28=>263|29=>264|20=>287|21=>288|22=>289|23=>290|24=>291|25=>292|26=>293|27=>294|46=>298|47=>276|48=>277|49=>299|50=>300|57=>301|n=>n,fun|22=>262|24=>267|25=>316|3=>3|39=>300|0=>0|53=>326|55=>328|4=>4|46=>320|45=>319|50=>186|5=>5|9=>9|66=>345|70=>349|76=>362|77=>31|n=>n,fun|n=>n⟩
theorem laysSortF:Go.Proofs.SlLaysF0.n6 Tryz.prog laysSortF_ren:={
 mixed:=by kernel_rfl
 f6:=⟨Tryz.f248.name,by decide,Tryz.func248.trans (congrArg some (by kernel_rfl))⟩
 f14:=⟨Tryz.f273.name,by decide,Tryz.func273.trans (congrArg some (by kernel_rfl))⟩
 f15:=Tryz.func235.trans (congrArg some (by kernel_rfl))
 f20:=⟨Tryz.f287.name,by decide,Tryz.func287.trans (congrArg some (by kernel_rfl))⟩
 f21:=⟨Tryz.f288.name,by decide,Tryz.func288.trans (congrArg some (by kernel_rfl))⟩
 f22:=⟨Tryz.f289.name,by decide,Tryz.func289.trans (congrArg some (by kernel_rfl))⟩
 f23:=⟨Tryz.f290.name,by decide,Tryz.func290.trans (congrArg some (by kernel_rfl))⟩
 f24:=⟨Tryz.f291.name,by decide,Tryz.func291.trans (congrArg some (by kernel_rfl))⟩
 f25:=⟨Tryz.f292.name,by decide,Tryz.func292.trans (congrArg some (by kernel_rfl))⟩
 f26:=⟨Tryz.f293.name,by decide,Tryz.func293.trans (congrArg some (by kernel_rfl))⟩
 f27:=⟨Tryz.f294.name,by decide,Tryz.func294.trans (congrArg some (by kernel_rfl))⟩
 f28:=Tryz.func263.trans (congrArg some (by kernel_rfl))
 f29:=Tryz.func264.trans (congrArg some (by kernel_rfl))
 f46:=⟨Tryz.f298.name,by decide,Tryz.func298.trans (congrArg some (by kernel_rfl))⟩
 f47:=Tryz.func276.trans (congrArg some (by kernel_rfl))
 f48:=Tryz.func277.trans (congrArg some (by kernel_rfl))
 f49:=⟨Tryz.f299.name,by decide,Tryz.func299.trans (congrArg some (by kernel_rfl))⟩
 f50:=⟨Tryz.f300.name,by decide,Tryz.func300.trans (congrArg some (by kernel_rfl))⟩
 f57:=⟨Tryz.f301.name,by decide,Tryz.func301.trans (congrArg some (by kernel_rfl))⟩
 t0:=Tryz.underlying0
 a0:=Tryz.isAgg0
 z0:=Tryz.sizeOf0
 v0:=Tryz.zeroValue0
 t3:=Tryz.underlying3
 a3:=Tryz.isAgg3
 z3:=Tryz.sizeOf3
 v3:=Tryz.zeroValue3
 t4:=Tryz.underlying4
 a4:=Tryz.isAgg4
 z4:=Tryz.sizeOf4
 v4:=Tryz.zeroValue4
 t5:=Tryz.underlying5
 a5:=Tryz.isAgg5
 z5:=Tryz.sizeOf5
 v5:=Tryz.zeroValue5
 t9:=Tryz.underlying9
 a9:=Tryz.isAgg9
 z9:=Tryz.sizeOf9
 v9:=Tryz.zeroValue9
 t22:=Tryz.underlying262
 a22:=Tryz.isAgg262
 z22:=Tryz.sizeOf262
 v22:=Tryz.zeroValue262
 t25:=Tryz.underlying316
 a25:=Tryz.isAgg316
 z25:=Tryz.sizeOf316
 v25:=Tryz.zeroValue316
 t39:=Tryz.underlying300
 a39:=Tryz.isAgg300
 z39:=Tryz.sizeOf300
 v39:=Tryz.zeroValue300
 t45:=Tryz.underlying319
 a45:=Tryz.isAgg319
 z45:=Tryz.sizeOf319
 v45:=Tryz.zeroValue319
 t46:=Tryz.underlying320
 a46:=Tryz.isAgg320
 z46:=Tryz.sizeOf320
 v46:=Tryz.zeroValue320
 t50:=Tryz.underlying186
 a50:=Tryz.isAgg186
 z50:=Tryz.sizeOf186
 v50:=Tryz.zeroValue186
 t53:=Tryz.underlying326
 a53:=Tryz.isAgg326
 z53:=Tryz.sizeOf326
 v53:=Tryz.zeroValue326
 t55:=Tryz.underlying328
 a55:=Tryz.isAgg328
 z55:=Tryz.sizeOf328
 v55:=Tryz.zeroValue328
 t66:=Tryz.underlying345
 a66:=Tryz.isAgg345
 z66:=Tryz.sizeOf345
 v66:=Tryz.zeroValue345
 t70:=Tryz.underlying349
 a70:=Tryz.isAgg349
 z70:=Tryz.sizeOf349
 v70:=Tryz.zeroValue349
 t76:=Tryz.underlying362
 a76:=Tryz.isAgg362
 z76:=Tryz.sizeOf362
 v76:=Tryz.zeroValue362
 t77:=Tryz.underlying31
 a77:=Tryz.isAgg31
 z77:=Tryz.sizeOf31
 v77:=Tryz.zeroValue31 }
end Go.Proofs.YtmhghnbgllaihaaGreatDoor

namespace Go.Proofs.YtmhghnbgllaihaaGreatDoor
open Go.RowKit Go.Sort Go.Shelf Go.Lib
structure GC where
 c:Co
 ok:Okc c
instance:Inhabited GC:=⟨⟨⟨0,0,0,1⟩,by unfold Okc;simp⟩⟩
def GC.enc (g:GC):List Value:=g.c.enc
theorem GC.pos (g:GC):0<g.c.d:=by have:=g.ok.1;omega
structure WRow (w:World) (b:Nat) (l:List Co):Prop where
 row:RowAt Co.enc 4 w b 0 l
 free:∀ j,j<l.length*4→w.frozen? ⟨b,j,none⟩=false
theorem WRow.of_own {w:World} {base g cap:Nat} {e:TypeId} {l:List Co} (h:w.ownsRow base e 4 (.slice (some ⟨g,0,none⟩) l.length cap) l.length (l.flatMap Co.enc)):WRow w g l :=
 ⟨fun j hj=>by
  obtain⟨-,-,-,-,hr⟩:=(own_sl Co.enc_len h).row
  obtain⟨b,off,e,hA⟩:=hr (by omega)
  injection e with e;injection e with e1 e2
  subst e1 e2
  exact hA j hj,fun j _=>World.ownsRow.frozenAt h j⟩
theorem holds_of_wrow {w:World} {b:Nat} {d:Array GC} (h:WRow w b (d.toList.map GC.c)):HoldsK GC.enc 4 w b 0 d:=by
 intro j hj
 rw[size_flatK]at hj
 rw[get_flatK _ _ _ _ hj]
 have h1:j / 4<d.size:=by omega
 have h2:j % 4<4:=Nat.mod_lt _ (by omega)
 have hl:(d.toList.map GC.c).length=d.size:=by simp
 refine⟨?_,by rw[Nat.zero_add];exact h.free j (by rw[hl];exact hj)⟩
 have hr:=h.row (j / 4) (by rw[hl];exact h1) (j % 4) (by rw[Co.enc_len];exact h2)
 rw[show 0+j / 4*4+j % 4=0+j by omega]at hr
 rw[hr]
 have e1:d[j / 4]! = d[j / 4]:=getElem!_pos d _ h1
 have e2:(d.toList.map GC.c)[j / 4]'(by rw[hl];exact h1)=d[j / 4].c:=by simp
 rw[e1]
 show some ((d.toList.map GC.c)[j / 4].enc[j % 4])=some ((d[j / 4].c.enc)[j % 4]!)
 rw[getElem!_pos _ (j % 4) (by rw[Co.enc_len];exact h2)]
 simp only[e2]
theorem wrow_of_holds {w:World} {b:Nat} {d:Array GC} (h:HoldsK GC.enc 4 w b 0 d):WRow w b (d.toList.map GC.c):=by
 have hl:(d.toList.map GC.c).length=d.size:=by simp
 refine⟨fun j hj i hi=>?_,fun j hj=>?_⟩
 ·have hj':j<d.size:=by rw[hl]at hj;exact hj
  have hi':i<4:=by rw[Co.enc_len]at hi;exact hi
  rw[(HoldsK.cell h hj' hi').1]
  have e1:d[j]! = d[j]:=getElem!_pos d _ hj'
  have e2:(d.toList.map GC.c)[j]=d[j].c:=by simp
  rw[e1]
  show some ((d[j].c.enc)[i]!)=some ((d.toList.map GC.c)[j].enc[i])
  rw[getElem!_pos _ i (by rw[Co.enc_len];exact hi')]
  simp only[e2]
 ·rw[hl]at hj
  have:=(h j (by rw[size_flatK];exact hj)).2
  rwa [Nat.zero_add]at this
theorem cmp_neg {a b:Int}:cmpI a b<0↔a<b:=by unfold cmpI;split <;> (try split) <;> omega
theorem cmp_zero {a b:Int}:cmpI a b=0↔a=b:=by unfold cmpI;split <;> (try split) <;> omega
theorem cf_lt (a b:Co):cfC a b<0↔ltC a b:=by
 unfold cfC orI ltC
 split
 ·rename_i h
  rw[cmp_zero]at h
  rw[cmp_neg]
  omega
 ·rename_i h
  rw[cmp_zero]at h
  rw[cmp_neg]
  omega
theorem lt_of (x y:GC):ltOf (fun a b:GC=>cfC a.c b.c) x y=true↔ltC x.c y.c:=by
 unfold ltOf;rw[decide_eq_true_eq,cf_lt]
theorem lt_not (x y:GC):ltOf (fun a b:GC=>cfC a.c b.c) x y=false↔¬ ltC x.c y.c:=by
 rw[←lt_of,Bool.not_eq_true]
theorem swoC:SWO (ltOf fun a b:GC=>cfC a.c b.c) where
 irrefl x:=(lt_not x x).2 (ltC_irrefl _)
 trans x y z h1 h2:=(lt_of x z).2 (ltC_trans x.pos y.pos z.pos ((lt_of x y).1 h1) ((lt_of y z).1 h2))
 ntrans x y z h1 h2:=(lt_not x z).2 (nlt_trans x.pos y.pos z.pos ((lt_not x y).1 h1) ((lt_not y z).1 h2))
theorem cmpLaysC (blk off size:Nat) (w:World):CmpLays Tryz.prog 249 #[] GC.enc 4 (fun a b=>cfC a.c b.c) blk off size w :=
 fun _ _ _ _ x y=>(k_less x.c y.c _ x.ok y.ok).mono fun _ _ ⟨he,hg⟩=>⟨he,hg.grow⟩
theorem new_sortWorld {a w:World} (h:New a w) {b:Nat} (hb:a.heap.size≤b) (n:Nat) (d:Array GC) (os:Array Obj):New a (sortWorldK GC.enc 4 w b 0 n d os):=by
 have e:∀ k,k≠b→k<w.heap.size→(sortWorldK GC.enc 4 w b 0 n d os).heap[k]? = w.heap[k]? := fun k hk hs=>by
  unfold sortWorldK
  rw[heap_grow_old _ _ (by rw[size_putRowK];exact hs)]
  show((w.heap).modify b _)[k]? = _
  rw[Array.getElem?_modify,if_neg (by omega)]
 refine⟨h.os,h.tape,h.output,Nat.le_trans h.size (size_sortWorldK_c GC.enc 4 w b 0 n d os),fun k hk=>?_⟩
 rw[e k (by omega) (Nat.lt_of_lt_of_le hk h.size)]
 exact h.block k hk
theorem permIn_perm {α:Type} [Inhabited α] {d d':Array α} (h:PermIn 0 d.size d d'):d'.toList.Perm d.toList:=by
 obtain⟨h1,-,h3⟩:=h
 have e1:d'.extract 0 d.size=d':=by rw[←h1];exact Array.extract_size
 have e2:d.extract 0 d.size=d:=Array.extract_size
 rwa [e1,e2]at h3
theorem k_sort (g cap:Nat) (l:List Co) (hl:∀ c∈l,Okc c) (hn:l.length<4611686018427387904) (w:World) (h:WRow w g l) (hg:g<w.heap.size) :
  Calls Tryz.prog 248 #[.slice (some ⟨g,0,none⟩) l.length cap,.func (.func 249) #[] #[]] w fun e w'=>e=.returned (.tuple #[]) ∧
   ∃ m:List Co,m.Perm l∧m.Pairwise (fun a b=>¬ ltC b a)∧WRow w' g m∧∀ a,New a w→a.heap.size≤g→New a w':=by
 obtain⟨L,hL⟩:∃ L:List GC,L.map GC.c=l:=list_map_of GC.c Okc l hl fun y hy=>⟨⟨y,hy⟩,rfl⟩
 obtain⟨d,hd⟩:∃ d:Array GC,d.toList=L:=⟨L.toArray,rfl⟩
 subst hd
 subst hL
 have eg:∀ args w,(callFunc 249 args).run Tryz.prog w=.ok (.enter 249 args) w:=enters_of Tryz.func249 (by kernel_rfl) rfl
 have hsz:((d.toList.map GC.c).length)=d.size:=by simp
 rw[hsz]at hn ⊢
 have hH:=holds_of_wrow h
 have hcon:=AnyQ.slices_SortFunc laysSortF 4 (fun _=>by kernel_rfl) (fun _=>by kernel_rfl) GC.enc (fun x=>Co.enc_len x.c) (fun x=>Co.enc_one x.c) (fun a b=>cfC a.c b.c) swoC 249 #[] g 0 cap d w eg (cmpLaysC g 0 d.size w) hH hg hn
 change Calls Tryz.prog 248 _ _ _ at hcon
 refine hcon.mono ?_
 rintro e w' ⟨he,d',n,os,hp,hs,rfl⟩
 have hp':=permIn_perm hp
 have hds:d'.size=d.size:=hp.1
 refine⟨he,d'.toList.map GC.c,hp'.map _,?_,wrow_of_holds (holdsK_sortWorldK_c GC.enc 4 w g 0 d d' n os hH hg hds),fun a ha hb=>new_sortWorld ha hb n d' os⟩
 rw[List.pairwise_map,List.pairwise_iff_getElem]
 intro i j hi hj hij
 simp only[Array.length_toList]at hi hj
 have:=hs i j (Nat.zero_le _) hij (by omega)
 rw[lt_not,getElem!_pos d' j hj,getElem!_pos d' i hi]at this
 simpa using this
end Go.Proofs.YtmhghnbgllaihaaGreatDoor

namespace Go.Proofs.YtmhghnbgllaihaaGreatDoor
open Go.RowKit
def cmpU (l:List Co):Nat→List Co
 | 0=>[]
 | n+1=>if h:n<l.length then (if n=0∨¬ l[n - 1]=l[n]then cmpU l n++[l[n]]else cmpU l n)else cmpU l n
theorem cmpU_keep {l:List Co} {n:Nat} (h:n<l.length) (hk:n=0∨¬ l[n - 1]=l[n]):cmpU l (n+1)=cmpU l n++[l[n]]:=by
 rw[cmpU,dif_pos h,if_pos hk]
theorem cmpU_skip {l:List Co} {n:Nat} (h:n<l.length) (h0:0<n) (hk:l[n - 1]=l[n]):cmpU l (n+1)=cmpU l n:=by
 rw[cmpU,dif_pos h,if_neg (by intro q;rcases q with q|q;omega;exact q hk)]
theorem cmpU_one {l:List Co} (h:0<l.length):cmpU l 1=l.take 1:=by
 rw[cmpU_keep h (.inl rfl),List.take_succ_eq_append_getElem h];rfl
theorem mem_cmpU {l:List Co}:∀ n c,c∈cmpU l n↔c∈l.take n
 | 0,c=>by simp[cmpU]
 | n+1,c=>by
  by_cases h:n<l.length
  ·by_cases hk:n=0∨¬ l[n - 1]=l[n]
   ·rw[cmpU_keep h hk,List.take_succ_eq_append_getElem h,List.mem_append,List.mem_append,mem_cmpU n c]
   ·have h0:0<n:=by omega
    have e:l[n - 1]=l[n]:=Classical.byContradiction fun q=>hk (.inr q)
    rw[cmpU_skip h h0 e,List.take_succ_eq_append_getElem h,List.mem_append,mem_cmpU n c]
    constructor
    ·exact .inl
    ·rintro(q|q)
     ·exact q
     ·rw[List.mem_singleton]at q
      subst q
      rw[←e]
      have:n - 1<(l.take n).length:=by simp;omega
      have e2:=List.getElem_mem this
      rwa [List.getElem_take]at e2
  ·rw[cmpU,dif_neg h,mem_cmpU n c,List.take_of_length_le (by omega),List.take_of_length_le (by omega)]
theorem cmpU_rise {l:List Co} (hd:∀ c∈l,0<c.d) (h1:∀ a∈l,∀ b∈l,a.x*b.d=b.x*a.d→a.z*b.d=b.z*a.d→a=b) (hs:l.Pairwise (fun a b=>¬ ltC b a)):∀ n,(cmpU l n).Pairwise ltC
 | 0=>List.Pairwise.nil
 | n+1=>by
  by_cases h:n<l.length
  ·by_cases hk:n=0∨¬ l[n - 1]=l[n]
   ·rw[cmpU_keep h hk,List.pairwise_append]
    refine⟨cmpU_rise hd h1 hs n,List.pairwise_singleton _ _,fun e he c hc=>?_⟩
    rw[List.mem_singleton]at hc
    subst hc
    have he':=(mem_cmpU n e).1 he
    obtain⟨i,hi,rfl⟩:=List.getElem_of_mem he'
    have hin:i<n:=by simp at hi;omega
    rw[List.getElem_take]
    have hil:i<l.length:=by omega
    have g1:=List.pairwise_iff_getElem.1 hs i n hil h hin
    rcases ltC_tri l[i] l[n]with q|q|⟨q1,q2⟩
    ·exact q
    ·exact absurd q g1
    ·exfalso
     have e1:l[i]=l[n]:=h1 _ (List.getElem_mem _) _ (List.getElem_mem _) q1 q2
     rcases hk with hk|hk
     ·omega
     ·apply hk
      by_cases hi1:i=n - 1
      ·subst hi1;exact e1
      ·have g2:=List.pairwise_iff_getElem.1 hs i (n - 1) hil (by omega) (by omega)
       have g3:=List.pairwise_iff_getElem.1 hs (n - 1) n (by omega) h (by omega)
       rw[e1]at g2
       rcases ltC_tri l[n - 1] l[n]with q|q|⟨q1,q2⟩
       ·exact absurd q g2
       ·exact absurd q g3
       ·exact h1 _ (List.getElem_mem _) _ (List.getElem_mem _) q1 q2
   ·have h0:0<n:=by omega
    have e:l[n - 1]=l[n]:=Classical.byContradiction fun q=>hk (.inr q)
    rw[cmpU_skip h h0 e]
    exact cmpU_rise hd h1 hs n
  ·rw[cmpU,dif_neg h]
   exact cmpU_rise hd h1 hs n
theorem cmpU_len {l:List Co}:∀ n,(cmpU l n).length≤n
 | 0=>by simp[cmpU]
 | n+1=>by
  rw[cmpU]
  have:=cmpU_len (l:=l) n
  split
  ·split
   ·simp;omega
   ·omega
  ·omega
def Upon (w:World) (g:Nat) (w':World):Prop:=∀ a,New a w→a.heap.size≤g→New a w'
theorem Upon.refl (w:World) (g:Nat):Upon w g w:=fun _ h _=>h
theorem Upon.new {a b c:World} {g:Nat} (h:Upon a g b) (k:New b c):Upon a g c:=fun x hx hg=>(h x hx hg).trans k
theorem Upon.setCells {w w':World} {g:Nat} (h:Upon w g w') (o:Nat) (vs:List Value):Upon w g (w'.setCells g o vs):=fun a ha hg=>new_setCells (h a ha hg) hg vs o
theorem WRow.keep {w w':World} {b:Nat} {l:List Co} (h:WRow w b l) (hn:New w w'):WRow w' b l :=
 ⟨h.row.keep hn,fun j hj=>by
  have hq:j / 4<l.length:=by omega
  have hc:=h.row (j / 4) hq (j % 4) (by rw[Co.enc_len];exact Nat.mod_lt _ (by omega))
  rw[show 0+j / 4*4+j % 4=j by omega]at hc
  exact hn.keepF hc (h.free j hj)⟩
theorem co_cells {w:World} {b:Nat} {l:List Co} (H:WRow w b l) (j:Nat) (h:j<l.length) :
  w.cell? ⟨b,j*4,none⟩=some (.int .i64 l[j].x)∧w.cell? ⟨b,j*4+1,none⟩=some (.int .i64 l[j].z)∧w.cell? ⟨b,j*4+2,none⟩=some (.int .i64 l[j].y)∧w.cell? ⟨b,j*4+3,none⟩=some (.int .i64 l[j].d):=by
 have h0:=H.row j h 0 (by rw[Co.enc_len];omega)
 have h1:=H.row j h 1 (by rw[Co.enc_len];omega)
 have h2:=H.row j h 2 (by rw[Co.enc_len];omega)
 have h3:=H.row j h 3 (by rw[Co.enc_len];omega)
 simp only[Nat.zero_add,Nat.add_zero]at h0 h1 h2 h3
 exact⟨h0,h1,h2,h3⟩
theorem WRow.there {w:World} {b:Nat} {l:List Co} (H:WRow w b l) (o n:Nat) (h:o+n≤l.length*4):w.there b o n:=fun j hj=>by
 have hq:(o+j) / 4<l.length:=by omega
 have hc:=H.row ((o+j) / 4) hq ((o+j) % 4) (by rw[Co.enc_len];exact Nat.mod_lt _ (by omega))
 rw[show 0+(o+j) / 4*4+(o+j) % 4=o+j by omega]at hc
 exact⟨by rw[hc];rfl,H.free _ (by omega)⟩
theorem frozen_setCells (b:Nat):∀ (vs:List Value) (o:Nat) (w:World) (x:Addr),(w.setCells b o vs).frozen? x=w.frozen? x
 | [],_,_,_=>rfl
 | v::vs,o,w,x=>by
  rw[World.setCells,frozen_setCells b vs (o+1)]
  simp
theorem WRow.put {w:World} {b:Nat} {l:List Co} (H:WRow w b l) (k:Nat) (hk:k<l.length) (c:Co):WRow (w.setCells b (k*4) c.enc) b (l.set k c):=by
 refine⟨fun j hj i hi=>?_,fun j hj=>?_⟩
 ·have hj':j<l.length:=by simpa using hj
  have hi':i<4:=by rw[Co.enc_len]at hi;exact hi
  by_cases e:j=k
  ·subst e
   have e1:(l.set j c)[j]=c:=by simp
   have:=World.rangeAt_setCells_same w b (j*4) c.enc (H.there _ _ (by rw[Co.enc_len];omega)) i (c.enc[i]'(by rw[Co.enc_len];exact hi')) (List.getElem?_eq_getElem _)
   rw[Nat.zero_add,this]
   simp only[e1]
  ·rw[World.cell?_setCells_out b _ _ w ⟨b,0+j*4+i,none⟩ (fun _ _=>by
    show 0+j*4+i<k*4∨k*4+c.enc.length≤0+j*4+i
    rw[Co.enc_len]
    rcases Nat.lt_or_gt_of_ne e with q|q
    ·left;omega
    ·right;omega)]
   have e1:(l.set k c)[j]=l[j]:=by rw[List.getElem_set_ne (fun q=>e q.symm)]
   have:=H.row j hj' i (by rw[Co.enc_len];exact hi')
   rw[this]
   simp only[e1]
 ·rw[frozen_setCells]
  exact H.free j (by simpa using hj)
theorem WRow.past {w:World} {b:Nat} {l:List Co} (H:WRow w b l) (n:Nat) (vs:List Value):RowAt Co.enc 4 (w.setCells b (n*4) vs) b 0 (l.take n):=fun j hj i hi=>by
 have hj':j<l.length:=by simp at hj;omega
 have hjn:j<n:=by simp at hj;omega
 have hi':i<4:=by rw[Co.enc_len]at hi;exact hi
 rw[World.cell?_setCells_out b _ _ w ⟨b,0+j*4+i,none⟩ (fun _ _=>.inl (by show 0+j*4+i<n*4;omega))]
 have e1:(l.take n)[j]=l[j]:=List.getElem_take
 have:=H.row j hj' i (by rw[Co.enc_len];exact hi')
 rw[this]
 simp only[e1]
theorem run_clear_any {P:Program} (w:World) (t e ty:TypeId) (z:Value) (ht:P.underlying t=some (.slice e)) (hv:∀ w,(zeroValue e).run P w=.ok z w) (hz:z.cells.size=4) (h1:∀ v∈z.cells.toList,v.oneCell'=true) (b o n c:Nat) (hn:0<n)
  (hth:w.there b o (n*4)):∃ vs,(Builtin.clear_ #[t] ty #[.slice (some ⟨b,o,none⟩) n c]).run P w=.ok (.tuple #[]) (w.setCells b o vs):=by
 refine⟨(Builtin.zeroCells z.cells n).toList,?_⟩
 have hl:(Builtin.zeroCells z.cells n).toList.length=n*4:=by simp[Builtin.zeroCells,hz]
 have hst:=run_storeCells_cells (P:=P) b o (Builtin.zeroCells z.cells n).toList 0 w (fun j hj=>by rw[Nat.add_zero];exact(hth j (by omega)).1) (fun j hj=>by rw[Nat.add_zero];exact(hth j (by omega)).2) (by
  intro v hv'
  unfold Builtin.zeroCells at hv'
  simp only[Array.toList_map,List.mem_map,Array.mem_toList_iff,Array.mem_range]at hv'
  obtain⟨i,hi,rfl⟩:=hv'
  have hlt:i % z.cells.size<z.cells.size:=Nat.mod_lt _ (by omega)
  rw[getElem!_pos z.cells _ hlt]
  exact h1 _ (by rw[Array.mem_toList_iff];exact Array.getElem_mem hlt))
 simp only[Nat.add_zero]at hst
 obtain⟨m,rfl⟩:∃ m,n=m+1:=⟨n - 1,by omega⟩
 simp[Builtin.clear_,run_underlying ht,hv,hst]
theorem co_eql (w:World) (a b:Co):(binOp .eql 267 (.agg #[.int .i64 a.x,.int .i64 a.z,.int .i64 a.y,.int .i64 a.d]) (.agg #[.int .i64 b.x,.int .i64 b.z,.int .i64 b.y,.int .i64 b.d])).run Tryz.prog w=.ok (.bool (a.eqB b)) w:=by
 unfold Co.eqB
 cases h1:(a.x==b.x) <;> cases h2:(a.z==b.z) <;> cases h3:(a.y==b.y) <;> cases h4:(a.d==b.d) <;> go_simp
theorem co_neq (w:World) (a b:Co):(binOp .neq 267 (.agg #[.int .i64 a.x,.int .i64 a.z,.int .i64 a.y,.int .i64 a.d]) (.agg #[.int .i64 b.x,.int .i64 b.z,.int .i64 b.y,.int .i64 b.d])).run Tryz.prog w=.ok (.bool (!a.eqB b)) w:=by
 unfold Co.eqB
 cases h1:(a.x==b.x) <;> cases h2:(a.z==b.z) <;> cases h3:(a.y==b.y) <;> cases h4:(a.d==b.d) <;> go_simp
end Go.Proofs.YtmhghnbgllaihaaGreatDoor
