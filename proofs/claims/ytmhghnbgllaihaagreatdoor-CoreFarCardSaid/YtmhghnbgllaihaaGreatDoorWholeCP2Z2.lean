import Derived.Test.YtmhghnbgllaihaaGreatDoorRows
import Derived.WalkKit
import Derived.WalkSpells
import Derived.WalkLawsBesides
import Derived.IntWalk
import Derived.Test.YtmhghnbgllaihaaGreatDoorWholeMP2Z2
set_option maxHeartbeats 16000000

namespace Go.Proofs.YtmhghnbgllaihaaGreatDoor
open Go.RowKit
def clampI (n lo hi:Int):Int:=max lo (min n hi)
theorem retI {k:IntKind} {a b:Int} (h:a=b):Ending.returned (.int k a)=.returned (.int k b):=by rw[h]
theorem retB {a b:Bool} (h:a=b):Ending.returned (.bool a)=.returned (.bool b):=by rw[h]
theorem into_any (n lo hi:Int) (w:World) :
  Calls Tryz.prog 74 #[.int .i64 n,.int .i64 lo,.int .i64 hi] w fun e w'=>e=.returned (.int .i64 (clampI n lo hi))∧w=w':=by
 go_enter Tryz.func74,Tryz.ntmps74
 go_wp2
 all_goals
  go_ret
  refine⟨retI ?_,rfl⟩
  unfold clampI
  first|omega|(simp_all;omega)
def withinB (n lo hi:Int):Bool:=clampI n lo hi==n
theorem within_any (n lo hi:Int) (w:World) :
  Calls Tryz.prog 48 #[.int .i64 n,.int .i64 lo,.int .i64 hi] w fun e w'=>e=.returned (.bool (withinB n lo hi))∧w=w':=by
 go_enter Tryz.func48,Tryz.ntmps48
 go_wp2_with (go_at_call 74;refine(into_any _ _ _ _).mono ?_;rintro e w' ⟨rfl,rfl⟩)
 go_ret
 exact⟨rfl,rfl⟩
def tameI (n:Int):Int:=clampI n (-2305843009213693952) 2305843009213693952
theorem tame_any (n:Int) (w:World) :
  Calls Tryz.prog 274 #[.int .i64 n] w fun e w'=>e=.returned (.int .i64 (tameI n))∧w=w':=by
 go_enter Tryz.func274,Tryz.ntmps274
 go_wp2_with (go_at_call 74;refine(into_any _ _ _ _).mono ?_;rintro e w' ⟨rfl,rfl⟩)
 go_ret
 exact⟨rfl,rfl⟩
theorem tame_bd (n:Int) : -2305843009213693952≤tameI n∧tameI n≤2305843009213693952:=by
 unfold tameI clampI;omega
def floorI (a b:Int):Int:=if tameI b=0 then 0 else Int.fdiv (tameI a) (tameI b)
def errI (b:Bool):Int:=if b then 0 else 2
theorem floorI_zero {a b:Int} (h:(tameI b==0)=true):floorI a b=0:=by unfold floorI;simp_all
theorem errI_zero {b:Int} (h:(tameI b==0)=true):errI (tameI b != 0)=2:=by unfold errI;simp_all
theorem floorI_ok {a b:Int} (h:(tameI b==0)=false):floorI a b=Int.fdiv (tameI a) (tameI b):=by unfold floorI;simp_all
theorem errI_ok {b:Int} (h:(tameI b==0)=false):errI (tameI b != 0)=0:=by unfold errI;simp_all
theorem floor_any (a b:Int) (w:World) :
  Calls Tryz.prog 253 #[.int .i64 a,.int .i64 b] w fun e w'=>e=.returned (.tuple #[.int .i64 (floorI a b),.int .i64 (errI (tameI b != 0))])∧w=w':=by
 have ha:=tame_bd a
 have hb':=tame_bd b
 have ht:=tdiv_bd (tameI a) (tameI b) ha
 have hw:wrap64 ((tameI a).tdiv (tameI b))=(tameI a).tdiv (tameI b):=wrap64_in (by omega)
 by_cases hz:(tameI b==0)=true
 ·rw[floorI_zero hz,errI_zero hz]
  go_enter Tryz.func253,Tryz.ntmps253
  go_wp2_with (go_at_call 274;refine(tame_any _ _).mono ?_;rintro e w' ⟨rfl,rfl⟩)
  go_ret2
  exact⟨rfl,rfl⟩
 ·replace hz:(tameI b==0)=false:=by simpa using hz
  have hb:tameI b≠0:=by simpa using hz
  rw[floorI_ok hz,errI_ok hz]
  by_cases hm:(tameI a).tmod (tameI b)=0
  ·rw[fdiv_exact hm]
   go_enter Tryz.func253,Tryz.ntmps253
   go_wp2_with (go_at_call 274;refine(tame_any _ _).mono ?_;rintro e w' ⟨rfl,rfl⟩)
   go_ret2
   exact⟨rfl,rfl⟩
  ·have hm':((tameI a).tmod (tameI b) != 0)=true:=by simpa using hm
   by_cases hs:(!decide (tameI a<0)==decide (tameI b<0))=true
   ·rw[fdiv_down hb hm hs]
    go_enter Tryz.func253,Tryz.ntmps253
    go_wp2_with (go_at_call 274;refine(tame_any _ _).mono ?_;rintro e w' ⟨rfl,rfl⟩)
    go_ret2
    exact⟨rfl,rfl⟩
   ·replace hs:(!decide (tameI a<0)==decide (tameI b<0))=false:=by simpa using hs
    rw[fdiv_same hb hs]
    go_enter Tryz.func253,Tryz.ntmps253
    go_wp2_with (go_at_call 274;refine(tame_any _ _).mono ?_;rintro e w' ⟨rfl,rfl⟩)
    go_ret2
    exact⟨rfl,rfl⟩
theorem floorI_bd (a b:Int) : -2305843009213693953≤floorI a b∧floorI a b≤2305843009213693952:=by
 unfold floorI
 split
 ·omega
 ·exact fdiv_bd _ _ ‹_› (tame_bd a)
def ceilI (a b:Int):Int := - floorI (- tameI a) b
theorem ceil_any (a b:Int) (w:World) :
  Calls Tryz.prog 254 #[.int .i64 a,.int .i64 b] w fun e w'=>e=.returned (.tuple #[.int .i64 (ceilI a b),.int .i64 (errI (tameI b != 0))])∧w=w':=by
 have ha:=tame_bd a
 have hf:=floorI_bd (- tameI a) b
 go_enter Tryz.func254,Tryz.ntmps254
 go_wp2_with (first|(go_at_call 274;refine(tame_any _ _).mono ?_;rintro e w' ⟨rfl,rfl⟩)|(go_at_call 253;refine(floor_any _ _ _).mono ?_;rintro e w' ⟨rfl,rfl⟩))
 go_ret2
 exact⟨rfl,rfl⟩
theorem sign_any (n:Int) (w:World) :
  Calls Tryz.prog 284 #[.int .i64 n] w fun e w'=>e=.returned (.int .i64 (clampI n (-1) 1))∧w=w':=by
 go_enter Tryz.func284,Tryz.ntmps284
 go_wp2_with (go_at_call 74;refine(into_any _ _ _ _).mono ?_;rintro e w' ⟨rfl,rfl⟩)
 go_ret
 exact⟨rfl,rfl⟩
end Go.Proofs.YtmhghnbgllaihaaGreatDoor
