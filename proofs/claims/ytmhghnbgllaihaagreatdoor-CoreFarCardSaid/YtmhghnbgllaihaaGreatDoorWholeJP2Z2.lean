import Derived.Test.YtmhghnbgllaihaaGreatDoorWholeIP2Z2
set_option maxHeartbeats 16000000

namespace Go.Proofs.YtmhghnbgllaihaaGreatDoor
open Go.RowKit
theorem rcheck_0 (cl cb ht ri ru wd dp:Int) (w:World)  (kcl1:cl<0) :
  Calls Tryz.prog 22 #[.agg #[.int .i64 cl,.int .i64 cb,.int .i64 ht,.int .i64 ri,.int .i64 ru,.int .i64 wd,.int .i64 dp]] w fun e w'=>e=.returned (.int .i64 (20))∧Calm w w':=by
 go_enter Tryz.func22,Tryz.ntmps22
 go_wp2
 go_ret
 exact⟨rfl,by go_grown,by go_grown⟩
theorem rcheck_1 (cl cb ht ri ru wd dp:Int) (w:World) (kcl1:¬ cl<0) (kcl2:3<cl) :
  Calls Tryz.prog 22 #[.agg #[.int .i64 cl,.int .i64 cb,.int .i64 ht,.int .i64 ri,.int .i64 ru,.int .i64 wd,.int .i64 dp]] w fun e w'=>e=.returned (.int .i64 (20))∧Calm w w':=by
 go_enter Tryz.func22,Tryz.ntmps22
 go_wp2
 go_ret
 exact⟨rfl,by go_grown,by go_grown⟩
theorem rcheck_2 (cl cb ht ri ru wd dp:Int) (w:World) (kcl1:¬ cl<0) (kcl2:¬ 3<cl) (kcb1:cb<0) :
  Calls Tryz.prog 22 #[.agg #[.int .i64 cl,.int .i64 cb,.int .i64 ht,.int .i64 ri,.int .i64 ru,.int .i64 wd,.int .i64 dp]] w fun e w'=>e=.returned (.int .i64 (20))∧Calm w w':=by
 go_enter Tryz.func22,Tryz.ntmps22
 go_wp2
 go_ret
 exact⟨rfl,by go_grown,by go_grown⟩
theorem rcheck_3 (cl cb ht ri ru wd dp:Int) (w:World) (kcl1:¬ cl<0) (kcl2:¬ 3<cl) (kcb1:¬ cb<0) (kcb2:8<cb) :
  Calls Tryz.prog 22 #[.agg #[.int .i64 cl,.int .i64 cb,.int .i64 ht,.int .i64 ri,.int .i64 ru,.int .i64 wd,.int .i64 dp]] w fun e w'=>e=.returned (.int .i64 (20))∧Calm w w':=by
 go_enter Tryz.func22,Tryz.ntmps22
 go_wp2
 go_ret
 exact⟨rfl,by go_grown,by go_grown⟩
theorem rcheck_4 (cl cb ht ri ru wd dp:Int) (w:World) (kcl1:¬ cl<0) (kcl2:¬ 3<cl) (kcb1:¬ cb<0) (kcb2:¬ 8<cb) (kht1:ht≤cb) :
  Calls Tryz.prog 22 #[.agg #[.int .i64 cl,.int .i64 cb,.int .i64 ht,.int .i64 ri,.int .i64 ru,.int .i64 wd,.int .i64 dp]] w fun e w'=>e=.returned (.int .i64 (20))∧Calm w w':=by
 go_enter Tryz.func22,Tryz.ntmps22
 go_wp2
 go_ret
 exact⟨rfl,by go_grown,by go_grown⟩
theorem rcheck_5 (cl cb ht ri ru wd dp:Int) (w:World) (kcl1:¬ cl<0) (kcl2:¬ 3<cl) (kcb1:¬ cb<0) (kcb2:¬ 8<cb) (kht1:¬ ht≤cb) (kht2:32<ht) :
  Calls Tryz.prog 22 #[.agg #[.int .i64 cl,.int .i64 cb,.int .i64 ht,.int .i64 ri,.int .i64 ru,.int .i64 wd,.int .i64 dp]] w fun e w'=>e=.returned (.int .i64 (20))∧Calm w w':=by
 go_enter Tryz.func22,Tryz.ntmps22
 go_wp2
 go_ret
 exact⟨rfl,by go_grown,by go_grown⟩
theorem rcheck_6 (cl cb ht ri ru wd dp:Int) (w:World) (kcl1:¬ cl<0) (kcl2:¬ 3<cl) (kcb1:¬ cb<0) (kcb2:¬ 8<cb) (kht1:¬ ht≤cb) (kht2:¬ 32<ht) (kri1:ri<0) :
  Calls Tryz.prog 22 #[.agg #[.int .i64 cl,.int .i64 cb,.int .i64 ht,.int .i64 ri,.int .i64 ru,.int .i64 wd,.int .i64 dp]] w fun e w'=>e=.returned (.int .i64 (20))∧Calm w w':=by
 go_enter Tryz.func22,Tryz.ntmps22
 go_wp2
 go_ret
 exact⟨rfl,by go_grown,by go_grown⟩
theorem rcheck_7 (cl cb ht ri ru wd dp:Int) (w:World) (kcl1:¬ cl<0) (kcl2:¬ 3<cl) (kcb1:¬ cb<0) (kcb2:¬ 8<cb) (kht1:¬ ht≤cb) (kht2:¬ 32<ht) (kri1:¬ ri<0) (kri2:100<ri) :
  Calls Tryz.prog 22 #[.agg #[.int .i64 cl,.int .i64 cb,.int .i64 ht,.int .i64 ri,.int .i64 ru,.int .i64 wd,.int .i64 dp]] w fun e w'=>e=.returned (.int .i64 (20))∧Calm w w':=by
 go_enter Tryz.func22,Tryz.ntmps22
 go_wp2
 go_ret
 exact⟨rfl,by go_grown,by go_grown⟩
theorem rcheck_8 (cl cb ht ri ru wd dp:Int) (w:World) (kcl1:¬ cl<0) (kcl2:¬ 3<cl) (kcb1:¬ cb<0) (kcb2:¬ 8<cb) (kht1:¬ ht≤cb) (kht2:¬ 32<ht) (kri1:¬ ri<0) (kri2:¬ 100<ri) (kru1:ru<1) :
  Calls Tryz.prog 22 #[.agg #[.int .i64 cl,.int .i64 cb,.int .i64 ht,.int .i64 ri,.int .i64 ru,.int .i64 wd,.int .i64 dp]] w fun e w'=>e=.returned (.int .i64 (20))∧Calm w w':=by
 go_enter Tryz.func22,Tryz.ntmps22
 go_wp2
 go_ret
 exact⟨rfl,by go_grown,by go_grown⟩
theorem rcheck_9 (cl cb ht ri ru wd dp:Int) (w:World) (kcl1:¬ cl<0) (kcl2:¬ 3<cl) (kcb1:¬ cb<0) (kcb2:¬ 8<cb) (kht1:¬ ht≤cb) (kht2:¬ 32<ht) (kri1:¬ ri<0) (kri2:¬ 100<ri) (kru1:¬ ru<1) (kru2:100<ru) :
  Calls Tryz.prog 22 #[.agg #[.int .i64 cl,.int .i64 cb,.int .i64 ht,.int .i64 ri,.int .i64 ru,.int .i64 wd,.int .i64 dp]] w fun e w'=>e=.returned (.int .i64 (20))∧Calm w w':=by
 go_enter Tryz.func22,Tryz.ntmps22
 go_wp2
 go_ret
 exact⟨rfl,by go_grown,by go_grown⟩
theorem rcheck_10 (cl cb ht ri ru wd dp:Int) (w:World) (kcl1:¬ cl<0) (kcl2:¬ 3<cl) (kcb1:¬ cb<0) (kcb2:¬ 8<cb) (kht1:¬ ht≤cb) (kht2:¬ 32<ht) (kri1:¬ ri<0) (kri2:¬ 100<ri) (kru1:¬ ru<1) (kru2:¬ 100<ru) (kwd1:wd<1) :
  Calls Tryz.prog 22 #[.agg #[.int .i64 cl,.int .i64 cb,.int .i64 ht,.int .i64 ri,.int .i64 ru,.int .i64 wd,.int .i64 dp]] w fun e w'=>e=.returned (.int .i64 (20))∧Calm w w':=by
 go_enter Tryz.func22,Tryz.ntmps22
 go_wp2
 go_ret
 exact⟨rfl,by go_grown,by go_grown⟩
theorem rcheck_11 (cl cb ht ri ru wd dp:Int) (w:World) (kcl1:¬ cl<0) (kcl2:¬ 3<cl) (kcb1:¬ cb<0) (kcb2:¬ 8<cb) (kht1:¬ ht≤cb) (kht2:¬ 32<ht) (kri1:¬ ri<0) (kri2:¬ 100<ri) (kru1:¬ ru<1) (kru2:¬ 100<ru) (kwd1:¬ wd<1) (kwd2:32<wd) :
  Calls Tryz.prog 22 #[.agg #[.int .i64 cl,.int .i64 cb,.int .i64 ht,.int .i64 ri,.int .i64 ru,.int .i64 wd,.int .i64 dp]] w fun e w'=>e=.returned (.int .i64 (20))∧Calm w w':=by
 go_enter Tryz.func22,Tryz.ntmps22
 go_wp2
 go_ret
 exact⟨rfl,by go_grown,by go_grown⟩
theorem rcheck_12 (cl cb ht ri ru wd dp:Int) (w:World) (kcl1:¬ cl<0) (kcl2:¬ 3<cl) (kcb1:¬ cb<0) (kcb2:¬ 8<cb) (kht1:¬ ht≤cb) (kht2:¬ 32<ht) (kri1:¬ ri<0) (kri2:¬ 100<ri) (kru1:¬ ru<1) (kru2:¬ 100<ru) (kwd1:¬ wd<1) (kwd2:¬ 32<wd) (kdp1:dp<1) :
  Calls Tryz.prog 22 #[.agg #[.int .i64 cl,.int .i64 cb,.int .i64 ht,.int .i64 ri,.int .i64 ru,.int .i64 wd,.int .i64 dp]] w fun e w'=>e=.returned (.int .i64 (20))∧Calm w w':=by
 go_enter Tryz.func22,Tryz.ntmps22
 go_wp2
 go_ret
 exact⟨rfl,by go_grown,by go_grown⟩
theorem rcheck_13 (cl cb ht ri ru wd dp:Int) (w:World) (kcl1:¬ cl<0) (kcl2:¬ 3<cl) (kcb1:¬ cb<0) (kcb2:¬ 8<cb) (kht1:¬ ht≤cb) (kht2:¬ 32<ht) (kri1:¬ ri<0) (kri2:¬ 100<ri) (kru1:¬ ru<1) (kru2:¬ 100<ru) (kwd1:¬ wd<1) (kwd2:¬ 32<wd) (kdp1:¬ dp<1) (kdp2:32<dp) :
  Calls Tryz.prog 22 #[.agg #[.int .i64 cl,.int .i64 cb,.int .i64 ht,.int .i64 ri,.int .i64 ru,.int .i64 wd,.int .i64 dp]] w fun e w'=>e=.returned (.int .i64 (20))∧Calm w w':=by
 go_enter Tryz.func22,Tryz.ntmps22
 go_wp2
 go_ret
 exact⟨rfl,by go_grown,by go_grown⟩
theorem rcheck_14 (cl cb ht ri ru wd dp:Int) (w:World) (kcl1:¬ cl<0) (kcl2:¬ 3<cl) (kcb1:¬ cb<0) (kcb2:¬ 8<cb) (kht1:¬ ht≤cb) (kht2:¬ 32<ht) (kri1:¬ ri<0) (kri2:¬ 100<ri) (kru1:¬ ru<1) (kru2:¬ 100<ru) (kwd1:¬ wd<1) (kwd2:¬ 32<wd) (kdp1:¬ dp<1) (kdp2:¬ 32<dp) :
  Calls Tryz.prog 22 #[.agg #[.int .i64 cl,.int .i64 cb,.int .i64 ht,.int .i64 ri,.int .i64 ru,.int .i64 wd,.int .i64 dp]] w fun e w'=>e=.returned (.int .i64 (0))∧Calm w w':=by
 go_enter Tryz.func22,Tryz.ntmps22
 go_wp2
 go_ret
 exact⟨rfl,by go_grown,by go_grown⟩
theorem rcheck_any (cl cb ht ri ru wd dp:Int) (w:World) :
  Calls Tryz.prog 22 #[.agg #[.int .i64 cl,.int .i64 cb,.int .i64 ht,.int .i64 ri,.int .i64 ru,.int .i64 wd,.int .i64 dp]] w fun e w'=>e=.returned (.int .i64 (checkE cl cb ht ri ru wd dp))∧Calm w w':=by
 by_cases kcl1:cl<0
 ·rw[show checkE cl cb ht ri ru wd dp=20 by simp[checkE,checkB];omega]
  exact rcheck_0 _ _ _ _ _ _ _ _  kcl1
 by_cases kcl2:3<cl
 ·rw[show checkE cl cb ht ri ru wd dp=20 by simp[checkE,checkB];omega]
  exact rcheck_1 _ _ _ _ _ _ _ _ kcl1 kcl2
 by_cases kcb1:cb<0
 ·rw[show checkE cl cb ht ri ru wd dp=20 by simp[checkE,checkB];omega]
  exact rcheck_2 _ _ _ _ _ _ _ _ kcl1 kcl2 kcb1
 by_cases kcb2:8<cb
 ·rw[show checkE cl cb ht ri ru wd dp=20 by simp[checkE,checkB];omega]
  exact rcheck_3 _ _ _ _ _ _ _ _ kcl1 kcl2 kcb1 kcb2
 by_cases kht1:ht≤cb
 ·rw[show checkE cl cb ht ri ru wd dp=20 by simp[checkE,checkB];omega]
  exact rcheck_4 _ _ _ _ _ _ _ _ kcl1 kcl2 kcb1 kcb2 kht1
 by_cases kht2:32<ht
 ·rw[show checkE cl cb ht ri ru wd dp=20 by simp[checkE,checkB];omega]
  exact rcheck_5 _ _ _ _ _ _ _ _ kcl1 kcl2 kcb1 kcb2 kht1 kht2
 by_cases kri1:ri<0
 ·rw[show checkE cl cb ht ri ru wd dp=20 by simp[checkE,checkB];omega]
  exact rcheck_6 _ _ _ _ _ _ _ _ kcl1 kcl2 kcb1 kcb2 kht1 kht2 kri1
 by_cases kri2:100<ri
 ·rw[show checkE cl cb ht ri ru wd dp=20 by simp[checkE,checkB];omega]
  exact rcheck_7 _ _ _ _ _ _ _ _ kcl1 kcl2 kcb1 kcb2 kht1 kht2 kri1 kri2
 by_cases kru1:ru<1
 ·rw[show checkE cl cb ht ri ru wd dp=20 by simp[checkE,checkB];omega]
  exact rcheck_8 _ _ _ _ _ _ _ _ kcl1 kcl2 kcb1 kcb2 kht1 kht2 kri1 kri2 kru1
 by_cases kru2:100<ru
 ·rw[show checkE cl cb ht ri ru wd dp=20 by simp[checkE,checkB];omega]
  exact rcheck_9 _ _ _ _ _ _ _ _ kcl1 kcl2 kcb1 kcb2 kht1 kht2 kri1 kri2 kru1 kru2
 by_cases kwd1:wd<1
 ·rw[show checkE cl cb ht ri ru wd dp=20 by simp[checkE,checkB];omega]
  exact rcheck_10 _ _ _ _ _ _ _ _ kcl1 kcl2 kcb1 kcb2 kht1 kht2 kri1 kri2 kru1 kru2 kwd1
 by_cases kwd2:32<wd
 ·rw[show checkE cl cb ht ri ru wd dp=20 by simp[checkE,checkB];omega]
  exact rcheck_11 _ _ _ _ _ _ _ _ kcl1 kcl2 kcb1 kcb2 kht1 kht2 kri1 kri2 kru1 kru2 kwd1 kwd2
 by_cases kdp1:dp<1
 ·rw[show checkE cl cb ht ri ru wd dp=20 by simp[checkE,checkB];omega]
  exact rcheck_12 _ _ _ _ _ _ _ _ kcl1 kcl2 kcb1 kcb2 kht1 kht2 kri1 kri2 kru1 kru2 kwd1 kwd2 kdp1
 by_cases kdp2:32<dp
 ·rw[show checkE cl cb ht ri ru wd dp=20 by simp[checkE,checkB];omega]
  exact rcheck_13 _ _ _ _ _ _ _ _ kcl1 kcl2 kcb1 kcb2 kht1 kht2 kri1 kri2 kru1 kru2 kwd1 kwd2 kdp1 kdp2
 rw[show checkE cl cb ht ri ru wd dp=0 by simp[checkE,checkB];omega]
 exact rcheck_14 _ _ _ _ _ _ _ _ kcl1 kcl2 kcb1 kcb2 kht1 kht2 kri1 kri2 kru1 kru2 kwd1 kwd2 kdp1 kdp2
end Go.Proofs.YtmhghnbgllaihaaGreatDoor
