import Derived.Test.YtmhghnbgllaihaaGreatDoorWholeCP2Z2
import Derived.Handy
set_option maxHeartbeats 16000000

namespace Go.Proofs.YtmhghnbgllaihaaGreatDoor
open Go.RowKit
def nearB (n:Int):Bool:=withinB n (-1073741824) 1073741824
def crossB (a b c d:Int):Bool:=nearB a&&nearB b&&nearB c&&nearB d
def crossI (a b c d:Int):Int:=if crossB a b c d then a*d - b*c else 0
theorem nearB_iff (n:Int):nearB n=decide (-1073741824≤n∧n≤1073741824):=by
 unfold nearB withinB clampI
 rw[Bool.eq_iff_iff];simp;omega
theorem near_mul {a b:Int} (ha:nearB a=true) (hb:nearB b=true) : -1152921504606846976≤a*b∧a*b≤1152921504606846976:=by
 rw[nearB_iff]at ha hb
 simp at ha hb
 have h:(a*b).natAbs≤1073741824*1073741824:=by
  rw[Int.natAbs_mul]
  exact Nat.mul_le_mul (by omega) (by omega)
 omega
theorem cross_any (a b c d:Int) (w:World) :
  Calls Tryz.prog 184 #[.int .i64 a,.int .i64 b,.int .i64 c,.int .i64 d] w fun e w'=>e=.returned (.tuple #[.int .i64 (crossI a b c d),.int .i64 (errI (crossB a b c d))])∧w=w':=by
 have i0:∀ w,(Instr.index 184 (.agg #[.int .i64 a,.int .i64 b,.int .i64 c,.int .i64 d]) (.int .i64 0)).run Tryz.prog w=.ok (.int .i64 a) w:=fun _=>by kernel_rfl
 have i1:∀ w,(Instr.index 184 (.agg #[.int .i64 a,.int .i64 b,.int .i64 c,.int .i64 d]) (.int .i64 1)).run Tryz.prog w=.ok (.int .i64 b) w:=fun _=>by kernel_rfl
 have i2:∀ w,(Instr.index 184 (.agg #[.int .i64 a,.int .i64 b,.int .i64 c,.int .i64 d]) (.int .i64 2)).run Tryz.prog w=.ok (.int .i64 c) w:=fun _=>by kernel_rfl
 have i3:∀ w,(Instr.index 184 (.agg #[.int .i64 a,.int .i64 b,.int .i64 c,.int .i64 d]) (.int .i64 3)).run Tryz.prog w=.ok (.int .i64 d) w:=fun _=>by kernel_rfl
 cases hna:nearB a
 ·have e1:crossI a b c d=0:=by unfold crossI crossB;simp_all
  have e2:errI (crossB a b c d)=2:=by unfold errI crossB;simp_all
  rw[e1,e2]
  clear e1 e2
  unfold nearB at *
  go_enter Tryz.func184,Tryz.ntmps184
  go_wp2
  refine wp_loop_rounds 5 ?_
  repeat(rw[rounds_succ];go_wp2_with (go_at_call 48;refine(within_any _ _ _ _).mono ?_;rintro e w' ⟨rfl,rfl⟩))
  go_ret2
  exact⟨rfl,rfl⟩
 ·cases hnb:nearB b
  ·have e1:crossI a b c d=0:=by unfold crossI crossB;simp_all
   have e2:errI (crossB a b c d)=2:=by unfold errI crossB;simp_all
   rw[e1,e2]
   clear e1 e2
   unfold nearB at *
   go_enter Tryz.func184,Tryz.ntmps184
   go_wp2
   refine wp_loop_rounds 5 ?_
   repeat(rw[rounds_succ];go_wp2_with (go_at_call 48;refine(within_any _ _ _ _).mono ?_;rintro e w' ⟨rfl,rfl⟩))
   go_ret2
   exact⟨rfl,rfl⟩
  ·cases hnc:nearB c
   ·have e1:crossI a b c d=0:=by unfold crossI crossB;simp_all
    have e2:errI (crossB a b c d)=2:=by unfold errI crossB;simp_all
    rw[e1,e2]
    clear e1 e2
    unfold nearB at *
    go_enter Tryz.func184,Tryz.ntmps184
    go_wp2
    refine wp_loop_rounds 5 ?_
    repeat(rw[rounds_succ];go_wp2_with (go_at_call 48;refine(within_any _ _ _ _).mono ?_;rintro e w' ⟨rfl,rfl⟩))
    go_ret2
    exact⟨rfl,rfl⟩
   ·cases hnd:nearB d
    ·have e1:crossI a b c d=0:=by unfold crossI crossB;simp_all
     have e2:errI (crossB a b c d)=2:=by unfold errI crossB;simp_all
     rw[e1,e2]
     clear e1 e2
     unfold nearB at *
     go_enter Tryz.func184,Tryz.ntmps184
     go_wp2
     refine wp_loop_rounds 5 ?_
     repeat(rw[rounds_succ];go_wp2_with (go_at_call 48;refine(within_any _ _ _ _).mono ?_;rintro e w' ⟨rfl,rfl⟩))
     go_ret2
     exact⟨rfl,rfl⟩
    ·have hm1:=near_mul hna hnd
     have hm2:=near_mul hnb hnc
     have e1:crossI a b c d=a*d - b*c:=by unfold crossI crossB;simp_all
     have e2:errI (crossB a b c d)=0:=by unfold errI crossB;simp_all
     rw[e1,e2]
     clear e1 e2
     unfold nearB at *
     go_enter Tryz.func184,Tryz.ntmps184
     go_wp2
     refine wp_loop_rounds 5 ?_
     repeat(rw[rounds_succ];go_wp2_with (go_at_call 48;refine(within_any _ _ _ _).mono ?_;rintro e w' ⟨rfl,rfl⟩))
     go_ret2
     exact⟨rfl,rfl⟩
end Go.Proofs.YtmhghnbgllaihaaGreatDoor
