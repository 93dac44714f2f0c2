import Derived.Test.YtmhghnbgllaihaaGreatDoorClCP1Z1
import Derived.Outline
import Derived.Deep.DeepCutAuto

namespace Go.Proofs.YtmhghnbgllaihaaGreatDoor
open Go.RowKit
set_option linter.unusedVariables false
def cfC (a b:Co):Int:=orI (cmpI (a.x*b.d) (b.x*a.d)) (cmpI (a.z*b.d) (b.z*a.d))
def k_cV (a b:Co):Nat→World→Value→Prop
  | 0,_,v=>v=.agg #[.int .i64 a.x,.int .i64 a.d]
  | 1,_,v=>v=.agg #[.int .i64 b.x,.int .i64 b.d]
  | 2,_,v=>v=.int .i64 (cmpI (a.x*b.d) (b.x*a.d))
  | 3,_,v=>v=.agg #[.int .i64 a.z,.int .i64 a.d]
  | 4,_,v=>v=.agg #[.int .i64 b.z,.int .i64 b.d]
  | 5,_,v=>v=.int .i64 (cmpI (a.z*b.d) (b.z*a.d))
  | 6,w,v=>∃ g,v=.slice (some ⟨g,0,none⟩) 2 2∧w.cell? ⟨g,0,none⟩=some (.int .i64 (cmpI (a.x*b.d) (b.x*a.d)))∧w.cell? ⟨g,1,none⟩=some (.int .i64 (cmpI (a.z*b.d) (b.z*a.d)))
  | _,_,v=>v=.int .i64 (cfC a b)
theorem k_cV_keep {a b:Co}:∀ i w w' v,k_cV a b i w v→Gro w w'→k_cV a b i w' v:=by
  intro i w w' v h hn
  rcases(show i=0∨i=1∨i=2∨i=3∨i=4∨i=5∨i=6∨7≤i by omega)with rfl|rfl|rfl|rfl|rfl|rfl|rfl|hi
  · exact h
  · exact h
  · exact h
  · exact h
  · exact h
  · exact h
  · obtain⟨g,e,h1,h2⟩:=h;exact⟨g,e,hn.1.keep h1,hn.1.keep h2⟩
  · obtain⟨k,rfl⟩:∃ k,i=k+7:=⟨i - 7,by omega⟩
    exact h
set_option maxHeartbeats 4000000 in
set_option maxRecDepth 100000 in
theorem k_less (a b:Co) (w:World) (ha:Okc a) (hb:Okc b) :
    Calls Tryz.prog 249 #[.agg #[.int .i64 a.x,.int .i64 a.z,.int .i64 a.y,.int .i64 a.d],.agg #[.int .i64 b.x,.int .i64 b.z,.int .i64 b.y,.int .i64 b.d]] w fun e w'=>e=.returned (.int .i64 (cfC a b))∧Gro w w':=by
  have KP:=Lib.hid (fun x z y d W=>k_parts x z y d W)
  have K1:=Lib.hid (fun W=>k_compare a.x b.x a.d b.d W ha.2.1 hb.2.1 ha.1 hb.1)
  have K2:=Lib.hid (fun W=>k_compare a.z b.z a.d b.d W ha.2.2.1 hb.2.2.1 ha.1 hb.1)
  clear ha hb
  go_enter Tryz.func249,Tryz.ntmps249
  go_wp2_with fail
  refine(KP.out _ _ _ _ _).mono ?_
  rintro e W1 ⟨rfl,g1⟩
  have d0:W1.cell? ⟨w.heap.size+1,0,none⟩=some (.int .i64 b.x):=g1.1.keep (by go_simp)
  have d1:W1.cell? ⟨w.heap.size+1,1,none⟩=some (.int .i64 b.z):=g1.1.keep (by go_simp)
  have d2:W1.cell? ⟨w.heap.size+1,2,none⟩=some (.int .i64 b.y):=g1.1.keep (by go_simp)
  have d3:W1.cell? ⟨w.heap.size+1,3,none⟩=some (.int .i64 b.d):=g1.1.keep (by go_simp)
  replace g1:Gro w W1:=Gro.trans (by(repeat(first|(with_reducible exact Gro.refl _)|(with_reducible assumption)|((with_reducible refine Gro.setB ?_ ?_ _);focus(first|omega|(simp;omega)|(simp;done)))|(with_reducible refine Gro.alloc ?_ _)|(with_reducible refine Gro.drew ?_)|(with_reducible refine Gro.drewN ?_ _)|((with_reducible apply Gro.snart);(with_reducible assumption))))) g1
  have z1:=g1.1.size
  go_upto_region 2 with fail
  refine Code.at (fun W2 hW=>?_)
  have g2:Gro W1 W2:=by subst hW;(repeat(first|(with_reducible exact Gro.refl _)|(with_reducible assumption)|((with_reducible refine Gro.setB ?_ ?_ _);focus(first|omega|(simp;omega)|(simp;done)))|(with_reducible refine Gro.alloc ?_ _)|(with_reducible refine Gro.drew ?_)|(with_reducible refine Gro.drewN ?_ _)|((with_reducible apply Gro.snart);(with_reducible assumption))))
  have e0:W2.cell? ⟨W1.heap.size,0,none⟩=some (.int .i64 a.x):=by subst hW;go_simp
  have e1:W2.cell? ⟨W1.heap.size,1,none⟩=some (.int .i64 a.d):=by subst hW;go_simp
  have e2:W2.cell? ⟨W1.heap.size+1,0,none⟩=some (.int .i64 a.z):=by subst hW;go_simp
  have e3:W2.cell? ⟨W1.heap.size+1,1,none⟩=some (.int .i64 a.d):=by subst hW;go_simp
  clear hW
  replace d0:=g2.1.keep d0
  replace d1:=g2.1.keep d1
  replace d2:=g2.1.keep d2
  replace d3:=g2.1.keep d3
  replace g2:=g1.trans g2
  clear g1
  go_wp2_with fail
  refine(KP.out _ _ _ _ _).mono ?_
  rintro e W3 ⟨rfl,g3⟩
  replace e0:=g3.1.keep e0
  replace e1:=g3.1.keep e1
  replace e2:=g3.1.keep e2
  replace e3:=g3.1.keep e3
  replace g3:=g2.trans g3
  clear d0 d1 d2 d3 g2
  have z3:=g3.1.size
  go_upto_region 3 with fail
  refine Code.at (fun W4 hW=>?_)
  have g4:Gro W3 W4:=by subst hW;(repeat(first|(with_reducible exact Gro.refl _)|(with_reducible assumption)|((with_reducible refine Gro.setB ?_ ?_ _);focus(first|omega|(simp;omega)|(simp;done)))|(with_reducible refine Gro.alloc ?_ _)|(with_reducible refine Gro.drew ?_)|(with_reducible refine Gro.drewN ?_ _)|((with_reducible apply Gro.snart);(with_reducible assumption))))
  have f0:W4.cell? ⟨W3.heap.size,0,none⟩=some (.int .i64 b.x):=by subst hW;go_simp
  have f1:W4.cell? ⟨W3.heap.size,1,none⟩=some (.int .i64 b.d):=by subst hW;go_simp
  have f2:W4.cell? ⟨W3.heap.size+1,0,none⟩=some (.int .i64 b.z):=by subst hW;go_simp
  have f3:W4.cell? ⟨W3.heap.size+1,1,none⟩=some (.int .i64 b.d):=by subst hW;go_simp
  clear hW
  replace e0:=g4.1.keep e0
  replace e1:=g4.1.keep e1
  replace e2:=g4.1.keep e2
  replace e3:=g4.1.keep e3
  replace g4:=g3.trans g4
  clear g3
  refine wp_region_gloose 8 (k_cV a b) (by kernel_rfl) (by kernel_rfl) k_cV_keep ?_ ?_
  · intro i o hi ho a' w' nn hr hd
    rcases(show i=0∨i=1∨i=2∨i=3∨i=4∨i=5∨i=6∨i=7 by omega)with rfl|rfl|rfl|rfl|rfl|rfl|rfl|rfl <;> obtain rfl:=Option.some.inj ho
    · have r:(a'.tmps[5]?).getD undef=.pointer (some ⟨W1.heap.size,0,none⟩):=(eval_get a' 5).symm.trans (hr 5 (by kernel_rfl))
      have x0:=nn.1.keep e0
      have x1:=nn.1.keep e1
      exact yields_value (.agg #[.int .i64 a.x,.int .i64 a.d]) (by go_simp) ⟨Gro.refl _,rfl⟩
    · have r:(a'.tmps[8]?).getD undef=.pointer (some ⟨W3.heap.size,0,none⟩):=(eval_get a' 8).symm.trans (hr 8 (by kernel_rfl))
      have x0:=nn.1.keep f0
      have x1:=nn.1.keep f1
      exact yields_value (.agg #[.int .i64 b.x,.int .i64 b.d]) (by go_simp) ⟨Gro.refl _,rfl⟩
    · have r0:(a'.tmps[23]?).getD undef=.agg #[.int .i64 a.x,.int .i64 a.d]:=(eval_get a' 23).symm.trans (hd 0 23 (by omega) (by kernel_rfl) (by kernel_rfl))
      have r1:(a'.tmps[24]?).getD undef=.agg #[.int .i64 b.x,.int .i64 b.d]:=(eval_get a' 24).symm.trans (hd 1 24 (by omega) (by kernel_rfl) (by kernel_rfl))
      exact yields_enter 251 #[.agg #[.int .i64 a.x,.int .i64 a.d],.agg #[.int .i64 b.x,.int .i64 b.d]] (by go_simp) ((K1.out _).mono fun e w'' ⟨he,hg⟩=>⟨_,he,hg,rfl⟩)
    · have r:(a'.tmps[6]?).getD undef=.pointer (some ⟨W1.heap.size+1,0,none⟩):=(eval_get a' 6).symm.trans (hr 6 (by kernel_rfl))
      have x0:=nn.1.keep e2
      have x1:=nn.1.keep e3
      exact yields_value (.agg #[.int .i64 a.z,.int .i64 a.d]) (by go_simp) ⟨Gro.refl _,rfl⟩
    · have r:(a'.tmps[9]?).getD undef=.pointer (some ⟨W3.heap.size+1,0,none⟩):=(eval_get a' 9).symm.trans (hr 9 (by kernel_rfl))
      have x0:=nn.1.keep f2
      have x1:=nn.1.keep f3
      exact yields_value (.agg #[.int .i64 b.z,.int .i64 b.d]) (by go_simp) ⟨Gro.refl _,rfl⟩
    · have r0:(a'.tmps[26]?).getD undef=.agg #[.int .i64 a.z,.int .i64 a.d]:=(eval_get a' 26).symm.trans (hd 3 26 (by omega) (by kernel_rfl) (by kernel_rfl))
      have r1:(a'.tmps[27]?).getD undef=.agg #[.int .i64 b.z,.int .i64 b.d]:=(eval_get a' 27).symm.trans (hd 4 27 (by omega) (by kernel_rfl) (by kernel_rfl))
      exact yields_enter 251 #[.agg #[.int .i64 a.z,.int .i64 a.d],.agg #[.int .i64 b.z,.int .i64 b.d]] (by go_simp) ((K2.out _).mono fun e w'' ⟨he,hg⟩=>⟨_,he,hg,rfl⟩)
    · have r0:(a'.tmps[25]?).getD undef=.int .i64 (cmpI (a.x*b.d) (b.x*a.d)):=(eval_get a' 25).symm.trans (hd 2 25 (by omega) (by kernel_rfl) (by kernel_rfl))
      have r1:(a'.tmps[28]?).getD undef=.int .i64 (cmpI (a.z*b.d) (b.z*a.d)):=(eval_get a' 28).symm.trans (hd 5 28 (by omega) (by kernel_rfl) (by kernel_rfl))
      generalize hp:cmpI (a.x*b.d) (b.x*a.d)=p at *
      generalize hq:cmpI (a.z*b.d) (b.z*a.d)=q at *
      have hnew:=(Gro.refl w').alloc (.cells #[.int .i64 p,.int .i64 q] 41)
      refine yields_value (w':=w'.alloc (.cells #[.int .i64 p,.int .i64 q] 3)) (.slice (some ⟨w'.heap.size,0,none⟩) 2 2) (by go_simp) ⟨(Gro.refl w').alloc _,_,rfl,?_,?_⟩
      · rw[hp];go_simp
      · rw[hq];go_simp
    · obtain⟨g,eg,c0,c1⟩:∃ g,a'.eval (.tmp 29)=.slice (some ⟨g,0,none⟩) 2 2∧w'.cell? ⟨g,0,none⟩=some (.int .i64 (cmpI (a.x*b.d) (b.x*a.d)))∧w'.cell? ⟨g,1,none⟩=some (.int .i64 (cmpI (a.z*b.d) (b.z*a.d))):=hd 6 29 (by omega) (by kernel_rfl) (by kernel_rfl)
      have r29:(a'.tmps[29]?).getD undef=_:=(eval_get a' 29).symm.trans eg
      refine yields_enter 250 #[.slice (some ⟨g,0,none⟩) 2 2] (by go_simp) ((k_or _ _ g w' c0 c1).mono ?_)
      rintro e w'' ⟨he,rfl⟩
      exact⟨_,he,Gro.refl _,rfl⟩
  · intro vs w' nn hv
    have e7:vs 7=.int .i64 (cfC a b):=hv 7 (by omega)
    simp only[List.take_succ_cons,List.take_zero,List.drop_succ_cons,List.drop_zero,putL,Act.put,List.setIfInBounds_toArray,List.set_cons_zero,List.set_cons_succ,Nat.reduceAdd,Nat.zero_add]
    rw[e7]
    have hg:=g4.trans nn
    clear hv e7 e0 e1 e2 e3 f0 f1 f2 f3 nn
    go_wp2_with fail
    go_ret
    exact⟨rfl,hg⟩
end Go.Proofs.YtmhghnbgllaihaaGreatDoor
