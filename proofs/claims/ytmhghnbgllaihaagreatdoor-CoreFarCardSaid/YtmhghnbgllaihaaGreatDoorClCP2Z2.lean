import Derived.Test.YtmhghnbgllaihaaGreatDoorSpEP2Z2
import Derived.Test.YtmhghnbgllaihaaGreatDoorRaMP2Z2
import Derived.Test.YtmhghnbgllaihaaGreatDoorSoBP2Z2
set_option linter.unusedVariables false
set_option maxHeartbeats 16000000
set_option maxRecDepth 100000

namespace Go.Proofs.YtmhghnbgllaihaaGreatDoor
open Go.RowKit
theorem k_parts (x z y d:Int) (w:World):Calls Tryz.prog 228 #[.agg #[.int .i64 x,.int .i64 z,.int .i64 y,.int .i64 d]] w fun e w'=>e=.returned (.tuple #[.agg #[.int .i64 x,.int .i64 d],.agg #[.int .i64 z,.int .i64 d],.agg #[.int .i64 y,.int .i64 d]])∧Gro w w':=by
 go_enter Tryz.func228,Tryz.ntmps228
 go_wp2_with fail
 go_region
 all_goals
  go_wp2_with fail
  refine bodyPost_ret (v:=.tuple #[.agg #[.int .i64 x,.int .i64 d],.agg #[.int .i64 z,.int .i64 d],.agg #[.int .i64 y,.int .i64 d]]) (by simp[results,Tryz.results228,go_sem, *]) rfl ?_
  exact⟨rfl,by(repeat(first|(with_reducible exact Gro.refl _)|(with_reducible assumption)|((with_reducible refine Gro.setB ?_ ?_ _);focus(first|omega|(simp;omega)|(simp;done)))|(with_reducible refine Gro.alloc ?_ _)|(with_reducible refine Gro.drew ?_)|(with_reducible refine Gro.drewN ?_ _)|((with_reducible apply Gro.snart);(with_reducible assumption))))⟩
theorem k_compare (a b p q:Int) (w:World) (ha : -1073741824≤a∧a≤1073741824) (hb : -1073741824≤b∧b≤1073741824) (hp:1≤p∧p≤1048576) (hq:1≤q∧q≤1048576) :
  Calls Tryz.prog 251 #[.agg #[.int .i64 a,.int .i64 p],.agg #[.int .i64 b,.int .i64 q]] w fun e w'=>e=.returned (.int .i64 (cmpI (a*q) (b*p)))∧Gro w w':=by
 have h1:=mul_bd (a:=a) (b:=q) (A:=1073741824) (B:=1048576) ha (by omega)
 have h2:=mul_bd (a:=b) (b:=p) (A:=1073741824) (B:=1048576) hb (by omega)
 have K:=Lib.hid (fun W=>l_cmp (a*q) (b*p) W)
 generalize cmpI (a*q) (b*p)=r at *
 go_enter Tryz.func251,Tryz.ntmps251
 go_wp2_with fail
 refine(K.out _).mono ?_
 rintro e w' ⟨rfl,rfl⟩
 go_wp2_with fail
 go_ret
 exact⟨rfl,by(repeat(first|(with_reducible exact Gro.refl _)|(with_reducible assumption)|((with_reducible refine Gro.setB ?_ ?_ _);focus(first|omega|(simp;omega)|(simp;done)))|(with_reducible refine Gro.alloc ?_ _)|(with_reducible refine Gro.drew ?_)|(with_reducible refine Gro.drewN ?_ _)|((with_reducible apply Gro.snart);(with_reducible assumption))))⟩
def orI (a b:Int):Int:=if a=0 then b else a
theorem k_or (a b:Int) (g:Nat) (w:World) (h0:w.cell? ⟨g,0,none⟩=some (.int .i64 a)) (h1:w.cell? ⟨g,1,none⟩=some (.int .i64 b)) :
  Calls Tryz.prog 250 #[.slice (some ⟨g,0,none⟩) 2 2] w fun e w'=>e=.returned (.int .i64 (orI a b))∧w=w':=by
 by_cases ha:a=0
 ·subst ha
  by_cases hb:b=0
  ·subst hb
   unfold orI
   go_enter Tryz.func250,Tryz.ntmps250
   go_wp2_with fail
   refine wp_loop_rounds 3 ?_
   repeat(rw[rounds_succ];go_wp2_with fail)
   go_ret
   exact⟨rfl,rfl⟩
  ·have hb':(b != 0)=true:=by simpa using hb
   have e:orI 0 b=b:=by unfold orI;rfl
   rw[e]
   clear e hb
   go_enter Tryz.func250,Tryz.ntmps250
   go_wp2_with fail
   refine wp_loop_rounds 3 ?_
   repeat(rw[rounds_succ];go_wp2_with fail)
   go_ret
   exact⟨rfl,rfl⟩
 ·have ha':(a != 0)=true:=by simpa using ha
  have e:orI a b=a:=by unfold orI;rw[if_neg ha]
  rw[e]
  clear e ha
  go_enter Tryz.func250,Tryz.ntmps250
  go_wp2_with fail
  refine wp_loop_rounds 3 ?_
  repeat(rw[rounds_succ];go_wp2_with fail)
  go_ret
  exact⟨rfl,rfl⟩
end Go.Proofs.YtmhghnbgllaihaaGreatDoor
