import Derived.Test.YtmhghnbgllaihaaGreatDoorWholeCP2Z2
import Derived.Handy
import Derived.Lib.Hide
import Derived.Test.YtmhghnbgllaihaaGreatDoorWholeMP2Z2
set_option maxHeartbeats 16000000

namespace Go.Proofs.YtmhghnbgllaihaaGreatDoor
open Go.RowKit
def Calm (w w':World):Prop:=Below w.heap.size w w'∧Grown w w'
def checkB (cl cb ht ri ru wd dp:Int):Bool:=decide (0≤cl∧cl≤3)&&decide (0≤cb∧cb≤8)&&decide (cb+1≤ht∧ht≤32)&&decide (0≤ri∧ri≤100)&&decide (1≤ru∧ru≤100)&&decide (1≤wd∧wd≤32)&&decide (1≤dp∧dp≤32)
def checkE (cl cb ht ri ru wd dp:Int):Int:=if checkB cl cb ht ri ru wd dp then 0 else 20
theorem within_iff {n lo hi:Int} (h:lo≤hi):withinB n lo hi=decide (lo≤n∧n≤hi):=by
 unfold withinB clampI
 rw[Bool.eq_iff_iff];simp;omega
theorem check_any (cl cb ht ri ru wd dp:Int) (w:World) :
  Calls Tryz.prog 30 #[.agg #[.int .i64 cl,.int .i64 cb,.int .i64 ht,.int .i64 ri,.int .i64 ru,.int .i64 wd,.int .i64 dp]] w fun e w'=>e=.returned (.int .i64 (checkE cl cb ht ri ru wd dp))∧Calm w w':=by
 by_cases hcl:0≤cl∧cl≤3
 ·by_cases hcb:0≤cb∧cb≤8
  ·by_cases hht:cb+1≤ht∧ht≤32
   ·by_cases hri:0≤ri∧ri≤100
    ·by_cases hru:1≤ru∧ru≤100
     ·by_cases hwd:1≤wd∧wd≤32
      ·by_cases hdp:1≤dp∧dp≤32
       ·have e1:checkE cl cb ht ri ru wd dp=0:=by simp[checkE,checkB, *]
        rw[e1]
        clear e1
        have vcl:withinB cl 0 3=true:=by rw[within_iff (by omega)];simpa using hcl
        have vcb:withinB cb 0 8=true:=by rw[within_iff (by omega)];simpa using hcb
        have vht:withinB ht (cb+1) 32=true:=by rw[within_iff (by omega)];simpa using hht
        have vri:withinB ri 0 100=true:=by rw[within_iff (by omega)];simpa using hri
        have vru:withinB ru 1 100=true:=by rw[within_iff (by omega)];simpa using hru
        have vwd:withinB wd 1 32=true:=by rw[within_iff (by omega)];simpa using hwd
        have vdp:withinB dp 1 32=true:=by rw[within_iff (by omega)];simpa using hdp
        go_enter Tryz.func30,Tryz.ntmps30
        go_wp2_with (go_at_call 48;refine(within_any _ _ _ _).mono ?_;rintro e w' ⟨rfl,rfl⟩)
        go_ret
        exact⟨rfl,by go_grown,by go_grown⟩
       ·have e1:checkE cl cb ht ri ru wd dp=20:=by simp[checkE,checkB, *]
        rw[e1]
        clear e1
        have vcl:withinB cl 0 3=true:=by rw[within_iff (by omega)];simpa using hcl
        have vcb:withinB cb 0 8=true:=by rw[within_iff (by omega)];simpa using hcb
        have vht:withinB ht (cb+1) 32=true:=by rw[within_iff (by omega)];simpa using hht
        have vri:withinB ri 0 100=true:=by rw[within_iff (by omega)];simpa using hri
        have vru:withinB ru 1 100=true:=by rw[within_iff (by omega)];simpa using hru
        have vwd:withinB wd 1 32=true:=by rw[within_iff (by omega)];simpa using hwd
        have vdp:withinB dp 1 32=false:=by rw[within_iff (by omega)];simpa using hdp
        go_enter Tryz.func30,Tryz.ntmps30
        go_wp2_with (go_at_call 48;refine(within_any _ _ _ _).mono ?_;rintro e w' ⟨rfl,rfl⟩)
        go_ret
        exact⟨rfl,by go_grown,by go_grown⟩
      ·have e1:checkE cl cb ht ri ru wd dp=20:=by simp[checkE,checkB, *]
       rw[e1]
       clear e1
       have vcl:withinB cl 0 3=true:=by rw[within_iff (by omega)];simpa using hcl
       have vcb:withinB cb 0 8=true:=by rw[within_iff (by omega)];simpa using hcb
       have vht:withinB ht (cb+1) 32=true:=by rw[within_iff (by omega)];simpa using hht
       have vri:withinB ri 0 100=true:=by rw[within_iff (by omega)];simpa using hri
       have vru:withinB ru 1 100=true:=by rw[within_iff (by omega)];simpa using hru
       have vwd:withinB wd 1 32=false:=by rw[within_iff (by omega)];simpa using hwd
       go_enter Tryz.func30,Tryz.ntmps30
       go_wp2_with (go_at_call 48;refine(within_any _ _ _ _).mono ?_;rintro e w' ⟨rfl,rfl⟩)
       go_ret
       exact⟨rfl,by go_grown,by go_grown⟩
     ·have e1:checkE cl cb ht ri ru wd dp=20:=by simp[checkE,checkB, *]
      rw[e1]
      clear e1
      have vcl:withinB cl 0 3=true:=by rw[within_iff (by omega)];simpa using hcl
      have vcb:withinB cb 0 8=true:=by rw[within_iff (by omega)];simpa using hcb
      have vht:withinB ht (cb+1) 32=true:=by rw[within_iff (by omega)];simpa using hht
      have vri:withinB ri 0 100=true:=by rw[within_iff (by omega)];simpa using hri
      have vru:withinB ru 1 100=false:=by rw[within_iff (by omega)];simpa using hru
      go_enter Tryz.func30,Tryz.ntmps30
      go_wp2_with (go_at_call 48;refine(within_any _ _ _ _).mono ?_;rintro e w' ⟨rfl,rfl⟩)
      go_ret
      exact⟨rfl,by go_grown,by go_grown⟩
    ·have e1:checkE cl cb ht ri ru wd dp=20:=by simp[checkE,checkB, *]
     rw[e1]
     clear e1
     have vcl:withinB cl 0 3=true:=by rw[within_iff (by omega)];simpa using hcl
     have vcb:withinB cb 0 8=true:=by rw[within_iff (by omega)];simpa using hcb
     have vht:withinB ht (cb+1) 32=true:=by rw[within_iff (by omega)];simpa using hht
     have vri:withinB ri 0 100=false:=by rw[within_iff (by omega)];simpa using hri
     go_enter Tryz.func30,Tryz.ntmps30
     go_wp2_with (go_at_call 48;refine(within_any _ _ _ _).mono ?_;rintro e w' ⟨rfl,rfl⟩)
     go_ret
     exact⟨rfl,by go_grown,by go_grown⟩
   ·have e1:checkE cl cb ht ri ru wd dp=20:=by simp[checkE,checkB, *]
    rw[e1]
    clear e1
    have vcl:withinB cl 0 3=true:=by rw[within_iff (by omega)];simpa using hcl
    have vcb:withinB cb 0 8=true:=by rw[within_iff (by omega)];simpa using hcb
    have vht:withinB ht (cb+1) 32=false:=by rw[within_iff (by omega)];simpa using hht
    go_enter Tryz.func30,Tryz.ntmps30
    go_wp2_with (go_at_call 48;refine(within_any _ _ _ _).mono ?_;rintro e w' ⟨rfl,rfl⟩)
    go_ret
    exact⟨rfl,by go_grown,by go_grown⟩
  ·have e1:checkE cl cb ht ri ru wd dp=20:=by simp[checkE,checkB, *]
   rw[e1]
   clear e1
   have vcl:withinB cl 0 3=true:=by rw[within_iff (by omega)];simpa using hcl
   have vcb:withinB cb 0 8=false:=by rw[within_iff (by omega)];simpa using hcb
   go_enter Tryz.func30,Tryz.ntmps30
   go_wp2_with (go_at_call 48;refine(within_any _ _ _ _).mono ?_;rintro e w' ⟨rfl,rfl⟩)
   go_ret
   exact⟨rfl,by go_grown,by go_grown⟩
 ·have e1:checkE cl cb ht ri ru wd dp=20:=by simp[checkE,checkB, *]
  rw[e1]
  clear e1
  have vcl:withinB cl 0 3=false:=by rw[within_iff (by omega)];simpa using hcl
  go_enter Tryz.func30,Tryz.ntmps30
  go_wp2_with (go_at_call 48;refine(within_any _ _ _ _).mono ?_;rintro e w' ⟨rfl,rfl⟩)
  go_ret
  exact⟨rfl,by go_grown,by go_grown⟩
end Go.Proofs.YtmhghnbgllaihaaGreatDoor
