import Derived.Test.YtmhghnbgllaihaaGreatDoorSoBP2Z2
import Derived.Test.YtmhghnbgllaihaaGreatDoorTriGP2Z2
set_option linter.unusedVariables false
set_option maxHeartbeats 16000000
set_option maxRecDepth 100000

namespace Go.Proofs.YtmhghnbgllaihaaGreatDoor
open Go.RowKit
structure CfgR where
 (cl cb ht ri ru wd dp:Int)
def CfgR.enc (C:CfgR):List Value:=[.int .i64 C.cl,.int .i64 C.cb,.int .i64 C.ht,.int .i64 C.ri,.int .i64 C.ru,.int .i64 C.wd,.int .i64 C.dp]
def CfgR.err (C:CfgR):Int:=checkE C.cl C.cb C.ht C.ri C.ru C.wd C.dp
structure CfgR.fine (C:CfgR):Prop where
 err:C.err=0
 w1:1≤C.wd
 w2:C.wd≤32
 d1:1≤C.dp
 d2:C.dp≤32
theorem CfgR.fine_of {C:CfgR} (h:C.err=0):C.fine:=by
 have h1:=h
 unfold CfgR.err checkE checkB at h1
 split at h1
 ·rename_i h2
  simp only[Bool.and_eq_true,decide_eq_true_eq]at h2
  exact⟨h,h2.1.2.1,h2.1.2.2,h2.2.1,h2.2.2⟩
 ·cases h1
theorem CfgR.at {C:CfgR} {w:World} {b:Nat} (H:CellsAt w b 0 C.enc) :
  w.cell? ⟨b,0,none⟩=some (.int .i64 C.cl)∧w.cell? ⟨b,1,none⟩=some (.int .i64 C.cb)∧w.cell? ⟨b,2,none⟩=some (.int .i64 C.ht)∧w.cell? ⟨b,3,none⟩=some (.int .i64 C.ri)∧w.cell? ⟨b,4,none⟩=some (.int .i64 C.ru)∧w.cell? ⟨b,5,none⟩=some (.int .i64 C.wd)∧w.cell? ⟨b,6,none⟩=some (.int .i64 C.dp) :=
 ⟨H 0 (by simp[CfgR.enc]),H 1 (by simp[CfgR.enc]),H 2 (by simp[CfgR.enc]),H 3 (by simp[CfgR.enc]),H 4 (by simp[CfgR.enc]),H 5 (by simp[CfgR.enc]),H 6 (by simp[CfgR.enc])⟩
theorem cells_new (w:World) (cs:Array Value) (T:TypeId):CellsAt (w.alloc (.cells cs T)) w.heap.size 0 cs.toList:=fun i hi=>by
 have h1:(w.alloc (.cells cs T)).heap[w.heap.size]? = some (.cells cs T):=heap_new _ _
 rw[Nat.zero_add]
 exact cell_of_heap h1 (by rw[Array.getElem?_eq_getElem (by simpa using hi)];simp)
theorem ints_new (w:World) (l:List Int) (T:TypeId):IntsAt (w.alloc (.cells (l.map (Value.int .i64)).toArray T)) w.heap.size l:=fun j hj=>by
 have:=cells_new w (l.map (Value.int .i64)).toArray T j (by simpa using hj)
 rw[Nat.zero_add]at this
 rw[this]
 simp
theorem TriR.at {x:TriR} {w:World} {b:Nat} (H:CellsAt w b 0 x.enc):w.cell? ⟨b,0,none⟩=some (.int .i64 x.i)∧w.cell? ⟨b,1,none⟩=some (.int .i64 x.x0)∧w.cell? ⟨b,2,none⟩=some (.int .i64 x.y0)∧w.cell? ⟨b,3,none⟩=some (.int .i64 x.z0)∧w.cell? ⟨b,4,none⟩=some (.int .i64 x.x1)∧w.cell? ⟨b,5,none⟩=some (.int .i64 x.y1)∧w.cell? ⟨b,6,none⟩=some (.int .i64 x.z1)∧w.cell? ⟨b,7,none⟩=some (.int .i64 x.x2)∧w.cell? ⟨b,8,none⟩=some (.int .i64 x.y2)∧w.cell? ⟨b,9,none⟩=some (.int .i64 x.z2) :=
 ⟨H 0 (by rw[TriR.enc_len];omega),H 1 (by rw[TriR.enc_len];omega),H 2 (by rw[TriR.enc_len];omega),H 3 (by rw[TriR.enc_len];omega),H 4 (by rw[TriR.enc_len];omega),H 5 (by rw[TriR.enc_len];omega),H 6 (by rw[TriR.enc_len];omega),H 7 (by rw[TriR.enc_len];omega),H 8 (by rw[TriR.enc_len];omega),H 9 (by rw[TriR.enc_len];omega)⟩
theorem BoxR.at {x:BoxR} {w:World} {b:Nat} (H:CellsAt w b 0 x.enc):w.cell? ⟨b,0,none⟩=some (.int .i64 x.i)∧w.cell? ⟨b,1,none⟩=some (.int .i64 x.x0)∧w.cell? ⟨b,2,none⟩=some (.int .i64 x.z0)∧w.cell? ⟨b,3,none⟩=some (.int .i64 x.x1)∧w.cell? ⟨b,4,none⟩=some (.int .i64 x.z1)∧w.cell? ⟨b,5,none⟩=some (.int .i64 x.y0)∧w.cell? ⟨b,6,none⟩=some (.int .i64 x.y1)∧w.cell? ⟨b,7,none⟩=some (.int .i64 x.ar) :=
 ⟨H 0 (by rw[BoxR.enc_len];omega),H 1 (by rw[BoxR.enc_len];omega),H 2 (by rw[BoxR.enc_len];omega),H 3 (by rw[BoxR.enc_len];omega),H 4 (by rw[BoxR.enc_len];omega),H 5 (by rw[BoxR.enc_len];omega),H 6 (by rw[BoxR.enc_len];omega),H 7 (by rw[BoxR.enc_len];omega)⟩
theorem b_t1 (C:CfgR) (hC:C.fine) (x:BoxR) (Bc Bx:Nat) (w:World) (hc:CellsAt w Bc 0 C.enc) (hx:CellsAt w Bx 0 x.enc) :
  Calls Tryz.prog 85 #[.pointer (some ⟨Bx,0,none⟩),.pointer (some ⟨Bc,0,none⟩)] w fun e w'=>e=.returned (.bool (ordB [0,x.x0,x.x1,C.wd - 1]))∧New w w':=by
 have w1:=hC.w1
 have w2:=hC.w2
 have d1:=hC.d1
 have d2:=hC.d2
 have c0:w.cell? ⟨Bx,1,none⟩=some (.int .i64 x.x0):=hx 1 (by rw[BoxR.enc_len];omega)
 have c1:w.cell? ⟨Bx,3,none⟩=some (.int .i64 x.x1):=hx 3 (by rw[BoxR.enc_len];omega)
 have c2:w.cell? ⟨Bc,5,none⟩=some (.int .i64 C.wd):=hc 5 (by simp[CfgR.enc])
 clear hc hx hC
 go_enter Tryz.func85,Tryz.ntmps85
 go_wp2_with fail
 refine(l_inOrder _ 4 [0,x.x0,x.x1,C.wd - 1] (by simp) (by simp) _ (ints_new _ _ _)).mono ?_
 rintro e w1 ⟨rfl,n1⟩
 have hn:New w w1:=New.trans ((New.refl w).alloc _) n1
 clear n1
 go_wp2_with fail
 go_ret
 exact⟨rfl,hn⟩
theorem b_t2 (C:CfgR) (hC:C.fine) (x:BoxR) (Bc Bx:Nat) (w:World) (hc:CellsAt w Bc 0 C.enc) (hx:CellsAt w Bx 0 x.enc) :
  Calls Tryz.prog 87 #[.pointer (some ⟨Bx,0,none⟩),.pointer (some ⟨Bc,0,none⟩)] w fun e w'=>e=.returned (.bool (ordB [0,x.z0,x.z1,C.dp - 1]))∧New w w':=by
 have w1:=hC.w1
 have w2:=hC.w2
 have d1:=hC.d1
 have d2:=hC.d2
 have c0:w.cell? ⟨Bx,2,none⟩=some (.int .i64 x.z0):=hx 2 (by rw[BoxR.enc_len];omega)
 have c1:w.cell? ⟨Bx,4,none⟩=some (.int .i64 x.z1):=hx 4 (by rw[BoxR.enc_len];omega)
 have c2:w.cell? ⟨Bc,6,none⟩=some (.int .i64 C.dp):=hc 6 (by simp[CfgR.enc])
 clear hc hx hC
 go_enter Tryz.func87,Tryz.ntmps87
 go_wp2_with fail
 refine(l_inOrder _ 4 [0,x.z0,x.z1,C.dp - 1] (by simp) (by simp) _ (ints_new _ _ _)).mono ?_
 rintro e w1 ⟨rfl,n1⟩
 have hn:New w w1:=New.trans ((New.refl w).alloc _) n1
 clear n1
 go_wp2_with fail
 go_ret
 exact⟨rfl,hn⟩
theorem b_t3 (C:CfgR) (hC:C.fine) (x:BoxR) (Bc Bx:Nat) (w:World) (hc:CellsAt w Bc 0 C.enc) (hx:CellsAt w Bx 0 x.enc) :
  Calls Tryz.prog 88 #[.pointer (some ⟨Bx,0,none⟩)] w fun e w'=>e=.returned (.bool (ordB [-2048,x.y0,x.y1,2048]))∧New w w':=by
 have w1:=hC.w1
 have w2:=hC.w2
 have d1:=hC.d1
 have d2:=hC.d2
 have c0:w.cell? ⟨Bx,5,none⟩=some (.int .i64 x.y0):=hx 5 (by rw[BoxR.enc_len];omega)
 have c1:w.cell? ⟨Bx,6,none⟩=some (.int .i64 x.y1):=hx 6 (by rw[BoxR.enc_len];omega)
 clear hc hx hC
 go_enter Tryz.func88,Tryz.ntmps88
 go_wp2_with fail
 refine(l_inOrder _ 4 [-2048,x.y0,x.y1,2048] (by simp) (by simp) _ (ints_new _ _ _)).mono ?_
 rintro e w1 ⟨rfl,n1⟩
 have hn:New w w1:=New.trans ((New.refl w).alloc _) n1
 clear n1
 go_wp2_with fail
 go_ret
 exact⟨rfl,hn⟩
theorem b_t4 (C:CfgR) (hC:C.fine) (x:BoxR) (Bc Bx:Nat) (w:World) (hc:CellsAt w Bc 0 C.enc) (hx:CellsAt w Bx 0 x.enc) :
  Calls Tryz.prog 89 #[.pointer (some ⟨Bx,0,none⟩)] w fun e w'=>e=.returned (.bool (ordB [0,x.ar,7]))∧New w w':=by
 have w1:=hC.w1
 have w2:=hC.w2
 have d1:=hC.d1
 have d2:=hC.d2
 have c0:w.cell? ⟨Bx,7,none⟩=some (.int .i64 x.ar):=hx 7 (by rw[BoxR.enc_len];omega)
 clear hc hx hC
 go_enter Tryz.func89,Tryz.ntmps89
 go_wp2_with fail
 refine(l_inOrder _ 3 [0,x.ar,7] (by simp) (by simp) _ (ints_new _ _ _)).mono ?_
 rintro e w1 ⟨rfl,n1⟩
 have hn:New w w1:=New.trans ((New.refl w).alloc _) n1
 clear n1
 go_wp2_with fail
 go_ret
 exact⟨rfl,hn⟩
theorem h_t3 (C:CfgR) (hC:C.fine) (x:HopR) (Bc Bx:Nat) (w:World) (hc:CellsAt w Bc 0 C.enc) (hx:CellsAt w Bx 0 x.enc) :
  Calls Tryz.prog 97 #[.pointer (some ⟨Bx,0,none⟩)] w fun e w'=>e=.returned (.bool (ordB [1,x.ar,7]))∧New w w':=by
 have w1:=hC.w1
 have w2:=hC.w2
 have d1:=hC.d1
 have d2:=hC.d2
 have c0:w.cell? ⟨Bx,8,none⟩=some (.int .i64 x.ar):=hx 8 (by rw[HopR.enc_len];omega)
 clear hc hx hC
 go_enter Tryz.func97,Tryz.ntmps97
 go_wp2_with fail
 refine(l_inOrder _ 3 [1,x.ar,7] (by simp) (by simp) _ (ints_new _ _ _)).mono ?_
 rintro e w1 ⟨rfl,n1⟩
 have hn:New w w1:=New.trans ((New.refl w).alloc _) n1
 clear n1
 go_wp2_with fail
 go_ret
 exact⟨rfl,hn⟩
theorem h_t4 (C:CfgR) (hC:C.fine) (x:HopR) (Bc Bx:Nat) (w:World) (hc:CellsAt w Bc 0 C.enc) (hx:CellsAt w Bx 0 x.enc) :
  Calls Tryz.prog 98 #[.pointer (some ⟨Bx,0,none⟩)] w fun e w'=>e=.returned (.bool (ordB [0,x.co,1048576]))∧New w w':=by
 have w1:=hC.w1
 have w2:=hC.w2
 have d1:=hC.d1
 have d2:=hC.d2
 have c0:w.cell? ⟨Bx,9,none⟩=some (.int .i64 x.co):=hx 9 (by rw[HopR.enc_len];omega)
 clear hc hx hC
 go_enter Tryz.func98,Tryz.ntmps98
 go_wp2_with fail
 refine(l_inOrder _ 3 [0,x.co,1048576] (by simp) (by simp) _ (ints_new _ _ _)).mono ?_
 rintro e w1 ⟨rfl,n1⟩
 have hn:New w w1:=New.trans ((New.refl w).alloc _) n1
 clear n1
 go_wp2_with fail
 go_ret
 exact⟨rfl,hn⟩
theorem ints_at (w:World) (l:List Int) (T:TypeId) (b:Nat) (hb:w.heap.size=b):IntsAt (w.alloc (.cells (l.map (Value.int .i64)).toArray T)) b l:=by subst hb;exact ints_new w l T
def spotB (C:CfgR) (x z y:Int):Bool:=ordB [0,x,C.wd - 1]&&ordB [0,z,C.dp - 1]&&ordB [-2048,y,2048]
theorem s_inWorld (C:CfgR) (hC:C.fine) (x z y:Int) (w:World) :
  Calls Tryz.prog 95 #[.agg #[.int .i64 C.cl,.int .i64 C.cb,.int .i64 C.ht,.int .i64 C.ri,.int .i64 C.ru,.int .i64 C.wd,.int .i64 C.dp],.agg #[.int .i64 x,.int .i64 z,.int .i64 y]] w fun e w'=>e=.returned (.bool (spotB C x z y))∧New w w':=by
 have w1:=hC.w1
 have w2:=hC.w2
 have d1:=hC.d1
 have d2:=hC.d2
 obtain⟨v,hv⟩:∃ v,v=spotB C x z y:=⟨_,rfl⟩
 rw[←hv]
 unfold spotB at hv
 cases h1:ordB [0,x,C.wd - 1]
 ·have HV:Hid (v=false):=by show v=false;rw[hv,h1];rfl
  clear hv
  have k1:=Lib.hid (fun b W (H:IntsAt W b [0,x,C.wd - 1])=>by have q:=l_inOrder b 3 [0,x,C.wd - 1] (by simp) (by simp) W H;rw[h1]at q;exact q:∀ b W,IntsAt W b [0,x,C.wd - 1]→Calls Tryz.prog 86 #[.slice (some ⟨b,0,none⟩) 3 3] W fun e w'=>e=.returned (.bool false)∧New W w')
  clear h1 hC
  go_enter Tryz.func95,Tryz.ntmps95
  go_wp2_with fail
  refine(k1.out _ _ (ints_at _ [0,x,C.wd - 1] _ _ (by simp))).mono ?_
  rintro e W1 ⟨rfl,n1⟩
  have hn:New w W1:=New.trans (by exact nw) n1
  clear n1 k1
  go_wp2_with fail
  go_ret
  exact⟨retBo HV.out.symm,hn⟩
 ·have k1:=Lib.hid (fun b W (H:IntsAt W b [0,x,C.wd - 1])=>by have q:=l_inOrder b 3 [0,x,C.wd - 1] (by simp) (by simp) W H;rw[h1]at q;exact q:∀ b W,IntsAt W b [0,x,C.wd - 1]→Calls Tryz.prog 86 #[.slice (some ⟨b,0,none⟩) 3 3] W fun e w'=>e=.returned (.bool true)∧New W w')
  rw[h1,Bool.true_and]at hv
  cases h2:ordB [0,z,C.dp - 1]
  ·have HV:Hid (v=false):=by show v=false;rw[hv,h2];rfl
   clear hv
   have k2:=Lib.hid (fun b W (H:IntsAt W b [0,z,C.dp - 1])=>by have q:=l_inOrder b 3 [0,z,C.dp - 1] (by simp) (by simp) W H;rw[h2]at q;exact q:∀ b W,IntsAt W b [0,z,C.dp - 1]→Calls Tryz.prog 86 #[.slice (some ⟨b,0,none⟩) 3 3] W fun e w'=>e=.returned (.bool false)∧New W w')
   clear h1 h2 hC
   go_enter Tryz.func95,Tryz.ntmps95
   go_wp2_with fail
   refine(k1.out _ _ (ints_at _ [0,x,C.wd - 1] _ _ (by simp))).mono ?_
   rintro e W1 ⟨rfl,n1⟩
   have e1:W1.cell? ⟨w.heap.size,6,none⟩=some (.int .i64 C.dp):=New.keep n1 (by go_simp)
   have e2:W1.cell? ⟨w.heap.size+1,1,none⟩=some (.int .i64 z):=New.keep n1 (by go_simp)
   have hn:New w W1:=New.trans (by exact nw) n1
   clear n1 k1
   go_wp2_with fail
   refine(k2.out _ _ (ints_at _ [0,z,C.dp - 1] _ _ rfl)).mono ?_
   rintro e W2 ⟨rfl,n2⟩
   replace hn:New w W2:=New.trans (hn.alloc _) n2
   clear n2 k2
   go_wp2_with fail
   go_ret
   exact⟨retBo HV.out.symm,hn⟩
  ·have k2:=Lib.hid (fun b W (H:IntsAt W b [0,z,C.dp - 1])=>by have q:=l_inOrder b 3 [0,z,C.dp - 1] (by simp) (by simp) W H;rw[h2]at q;exact q:∀ b W,IntsAt W b [0,z,C.dp - 1]→Calls Tryz.prog 86 #[.slice (some ⟨b,0,none⟩) 3 3] W fun e w'=>e=.returned (.bool true)∧New W w')
   rw[h2,Bool.true_and]at hv
   have HV:=Lib.hid hv
   have k3:=Lib.hid (fun b W (H:IntsAt W b [-2048,y,2048])=>l_inOrder b 3 [-2048,y,2048] (by simp) (by simp) W H:∀ b W,IntsAt W b [-2048,y,2048]→Calls Tryz.prog 86 #[.slice (some ⟨b,0,none⟩) 3 3] W fun e w'=>e=.returned (.bool (ordB [-2048,y,2048]))∧New W w')
   rw[←hv]at k3
   clear hv h1 h2 hC
   go_enter Tryz.func95,Tryz.ntmps95
   go_wp2_with fail
   refine(k1.out _ _ (ints_at _ [0,x,C.wd - 1] _ _ (by simp))).mono ?_
   rintro e W1 ⟨rfl,n1⟩
   have e1:W1.cell? ⟨w.heap.size,6,none⟩=some (.int .i64 C.dp):=New.keep n1 (by go_simp)
   have e2:W1.cell? ⟨w.heap.size+1,1,none⟩=some (.int .i64 z):=New.keep n1 (by go_simp)
   have e3:W1.cell? ⟨w.heap.size+1,2,none⟩=some (.int .i64 y):=New.keep n1 (by go_simp)
   have hn:New w W1:=New.trans (by exact nw) n1
   clear n1 k1
   go_wp2_with fail
   refine(k2.out _ _ (ints_at _ [0,z,C.dp - 1] _ _ rfl)).mono ?_
   rintro e W2 ⟨rfl,n2⟩
   replace e3:W2.cell? ⟨w.heap.size+1,2,none⟩=some (.int .i64 y):=New.keep (New.trans ((New.refl _).alloc _) n2) e3
   replace hn:New w W2:=New.trans (hn.alloc _) n2
   clear n2 k2 e1 e2
   go_wp2_with fail
   refine(k3.out _ _ (ints_at _ [-2048,y,2048] _ _ rfl)).mono ?_
   rintro e W3 ⟨rfl,n3⟩
   replace hn:New w W3:=New.trans (hn.alloc _) n3
   clear n3 k3
   go_wp2_with fail
   go_ret
   exact⟨rfl,hn⟩
theorem h_t1 (C:CfgR) (hC:C.fine) (x:HopR) (Bc Bx:Nat) (w:World) (hc:CellsAt w Bc 0 C.enc) (hx:CellsAt w Bx 0 x.enc) :
  Calls Tryz.prog 94 #[.pointer (some ⟨Bc,0,none⟩),.pointer (some ⟨Bx,0,none⟩)] w fun e w'=>e=.returned (.bool (spotB C x.fx x.fz x.fy))∧New w w':=by
 obtain⟨c0,c1,c2,c3,c4,c5,c6⟩:=CfgR.at hc
 have x0:w.cell? ⟨Bx,1,none⟩=some (.int .i64 x.fx):=hx 1 (by rw[HopR.enc_len];omega)
 have x1:w.cell? ⟨Bx,2,none⟩=some (.int .i64 x.fz):=hx 2 (by rw[HopR.enc_len];omega)
 have x2:w.cell? ⟨Bx,3,none⟩=some (.int .i64 x.fy):=hx 3 (by rw[HopR.enc_len];omega)
 have k:=Lib.hid (s_inWorld C hC x.fx x.fz x.fy w)
 clear hc hx hC
 generalize spotB C x.fx x.fz x.fy=v at *
 go_enter Tryz.func94,Tryz.ntmps94
 go_wp2_with fail
 refine k.out.mono ?_
 rintro e W1 ⟨rfl,n1⟩
 go_wp2_with fail
 go_ret
 exact⟨rfl,n1⟩
theorem h_t2 (C:CfgR) (hC:C.fine) (x:HopR) (Bc Bx:Nat) (w:World) (hc:CellsAt w Bc 0 C.enc) (hx:CellsAt w Bx 0 x.enc) :
  Calls Tryz.prog 96 #[.pointer (some ⟨Bc,0,none⟩),.pointer (some ⟨Bx,0,none⟩)] w fun e w'=>e=.returned (.bool (spotB C x.tx x.tz x.ty))∧New w w':=by
 obtain⟨c0,c1,c2,c3,c4,c5,c6⟩:=CfgR.at hc
 have x0:w.cell? ⟨Bx,4,none⟩=some (.int .i64 x.tx):=hx 4 (by rw[HopR.enc_len];omega)
 have x1:w.cell? ⟨Bx,5,none⟩=some (.int .i64 x.tz):=hx 5 (by rw[HopR.enc_len];omega)
 have x2:w.cell? ⟨Bx,6,none⟩=some (.int .i64 x.ty):=hx 6 (by rw[HopR.enc_len];omega)
 have k:=Lib.hid (s_inWorld C hC x.tx x.tz x.ty w)
 clear hc hx hC
 generalize spotB C x.tx x.tz x.ty=v at *
 go_enter Tryz.func96,Tryz.ntmps96
 go_wp2_with fail
 refine k.out.mono ?_
 rintro e W1 ⟨rfl,n1⟩
 go_wp2_with fail
 go_ret
 exact⟨rfl,n1⟩
theorem t_t1 (C:CfgR) (x:TriR) (Bc Bx:Nat) (w:World) (hc:CellsAt w Bc 0 C.enc) (hx:CellsAt w Bx 0 x.enc) :
  Calls Tryz.prog 79 #[.pointer (some ⟨Bc,0,none⟩),.pointer (some ⟨Bx,0,none⟩)] w fun e w'=>e=.returned (.bool (tCheckE C.cl C.cb C.ht C.ri C.ru C.wd C.dp x.i x.x0 x.y0 x.z0 x.x1 x.y1 x.z1 x.x2 x.y2 x.z2==0))∧New w w':=by
 obtain⟨c0,c1,c2,c3,c4,c5,c6⟩:=CfgR.at hc
 obtain⟨x0,x1,x2,x3,x4,x5,x6,x7,x8,x9⟩:=TriR.at hx
 have k:=Lib.hid (t_check C.cl C.cb C.ht C.ri C.ru C.wd C.dp x.i x.x0 x.y0 x.z0 x.x1 x.y1 x.z1 x.x2 x.y2 x.z2 w)
 clear hc hx
 generalize tCheckE C.cl C.cb C.ht C.ri C.ru C.wd C.dp x.i x.x0 x.y0 x.z0 x.x1 x.y1 x.z1 x.x2 x.y2 x.z2=v at *
 go_enter Tryz.func79,Tryz.ntmps79
 go_wp2_with fail
 refine k.out.mono ?_
 rintro e W1 ⟨rfl,n1⟩
 go_wp2_with fail
 go_ret
 exact⟨rfl,n1⟩
def TriR.tests (C:CfgR) (x:TriR):Bool:=(tCheckE C.cl C.cb C.ht C.ri C.ru C.wd C.dp x.i x.x0 x.y0 x.z0 x.x1 x.y1 x.z1 x.x2 x.y2 x.z2==0)
def BoxR.tests (C:CfgR) (x:BoxR):Bool:=ordB [0,x.x0,x.x1,C.wd - 1]&&ordB [0,x.z0,x.z1,C.dp - 1]&&ordB [-2048,x.y0,x.y1,2048]&&ordB [0,x.ar,7]
def HopR.tests (C:CfgR) (x:HopR):Bool:=spotB C x.fx x.fz x.fy&&spotB C x.tx x.tz x.ty&&ordB [1,x.ar,7]&&ordB [0,x.co,1048576]
def TestPost (v:Bool) (w:World) (e:Ending) (w':World):Prop :=
 ∃ (b:Nat) (l:List Fn),e=.returned (.slice (some ⟨b,0,none⟩) l.length l.length)∧l.length≤100∧l.all (·.b)=v∧(∀ j (h:j<l.length),Good w' l[j])∧FnAt w' b l∧New w w'
theorem fns_at (w:World) (l:List Fn) (T:TypeId) (b:Nat) (hb:w.heap.size=b):FnAt (w.alloc (.cells (l.map fun f=>Value.func (.func f.g) #[] f.bnd).toArray T)) b l:=fun j hj=>by
 subst hb
 have:=cells_new w (l.map fun f=>Value.func (.func f.g) #[] f.bnd).toArray T j (by simpa using hj)
 rw[Nat.zero_add]at this
 rw[this]
 simp
theorem TriR.checks (C:CfgR) (hC:C.fine) (x:TriR) (w:World) :
  Calls Tryz.prog 78 #[.agg #[.int .i64 C.cl,.int .i64 C.cb,.int .i64 C.ht,.int .i64 C.ri,.int .i64 C.ru,.int .i64 C.wd,.int .i64 C.dp],.agg #[.int .i64 x.i,.int .i64 x.x0,.int .i64 x.y0,.int .i64 x.z0,.int .i64 x.x1,.int .i64 x.y1,.int .i64 x.z1,.int .i64 x.x2,.int .i64 x.y2,.int .i64 x.z2]] w (TestPost (x.tests C) w):=by
 go_enter Tryz.func78,Tryz.ntmps78
 go_wp2_with fail
 go_ret
 refine⟨_,[⟨79,#[.pointer (some ⟨w.heap.size,0,none⟩),.pointer (some ⟨w.heap.size+1,0,none⟩)],x.tests C⟩],rfl,by simp,by simp,?_,fns_at _ _ _ _ (by simp),by exact nw⟩
 intro j hj
 have hj0:j=0:=by simpa using hj
 subst hj0
 refine⟨enters_of Tryz.func79 (by kernel_rfl) rfl,fun W hW=>t_t1 C x w.heap.size (w.heap.size+1) W ?_ ?_⟩
 ·exact((cells_new w C.enc.toArray _).keep (((New.refl _).alloc _).alloc _)).keep hW
 ·have:=cells_new (w.alloc (.cells C.enc.toArray 23)) x.enc.toArray 64
  rw[World.size_alloc]at this
  exact(this.keep ((New.refl _).alloc _)).keep hW
theorem BoxR.checks (C:CfgR) (hC:C.fine) (x:BoxR) (w:World) :
  Calls Tryz.prog 84 #[.agg #[.int .i64 C.cl,.int .i64 C.cb,.int .i64 C.ht,.int .i64 C.ri,.int .i64 C.ru,.int .i64 C.wd,.int .i64 C.dp],.agg #[.int .i64 x.i,.int .i64 x.x0,.int .i64 x.z0,.int .i64 x.x1,.int .i64 x.z1,.int .i64 x.y0,.int .i64 x.y1,.int .i64 x.ar]] w (TestPost (x.tests C) w):=by
 go_enter Tryz.func84,Tryz.ntmps84
 go_wp2_with fail
 go_ret
 refine⟨_,[⟨85,#[.pointer (some ⟨w.heap.size+1,0,none⟩),.pointer (some ⟨w.heap.size,0,none⟩)],ordB [0,x.x0,x.x1,C.wd - 1]⟩,⟨87,#[.pointer (some ⟨w.heap.size+1,0,none⟩),.pointer (some ⟨w.heap.size,0,none⟩)],ordB [0,x.z0,x.z1,C.dp - 1]⟩,
  ⟨88,#[.pointer (some ⟨w.heap.size+1,0,none⟩)],ordB [-2048,x.y0,x.y1,2048]⟩,⟨89,#[.pointer (some ⟨w.heap.size+1,0,none⟩)],ordB [0,x.ar,7]⟩],rfl,by simp,by simp[BoxR.tests,Bool.and_assoc],?_,fns_at _ _ _ _ (by simp),by exact nw⟩
 intro j hj
 have hj0:j=0∨j=1∨j=2∨j=3:=by simp at hj;omega
 have hc:∀ ob W,New ((((w.alloc (.cells C.enc.toArray 23)).alloc (.cells x.enc.toArray 66))).alloc ob) W→CellsAt W w.heap.size 0 C.enc:=fun ob W hW=>((cells_new w C.enc.toArray _).keep (((New.refl _).alloc _).alloc _)).keep hW
 have hx:∀ ob W,New ((((w.alloc (.cells C.enc.toArray 23)).alloc (.cells x.enc.toArray 66))).alloc ob) W→CellsAt W (w.heap.size+1) 0 x.enc:=fun ob W hW=>by
  have:=cells_new (w.alloc (.cells C.enc.toArray 23)) x.enc.toArray 66
  rw[World.size_alloc]at this
  exact(this.keep ((New.refl _).alloc _)).keep hW
 rcases hj0 with rfl|rfl|rfl|rfl
 ·exact⟨enters_of Tryz.func85 (by kernel_rfl) rfl,fun W hW=>b_t1 C hC x w.heap.size (w.heap.size+1) W (hc _ W hW) (hx _ W hW)⟩
 ·exact⟨enters_of Tryz.func87 (by kernel_rfl) rfl,fun W hW=>b_t2 C hC x w.heap.size (w.heap.size+1) W (hc _ W hW) (hx _ W hW)⟩
 ·exact⟨enters_of Tryz.func88 (by kernel_rfl) rfl,fun W hW=>b_t3 C hC x w.heap.size (w.heap.size+1) W (hc _ W hW) (hx _ W hW)⟩
 ·exact⟨enters_of Tryz.func89 (by kernel_rfl) rfl,fun W hW=>b_t4 C hC x w.heap.size (w.heap.size+1) W (hc _ W hW) (hx _ W hW)⟩
theorem HopR.checks (C:CfgR) (hC:C.fine) (x:HopR) (w:World) :
  Calls Tryz.prog 93 #[.agg #[.int .i64 C.cl,.int .i64 C.cb,.int .i64 C.ht,.int .i64 C.ri,.int .i64 C.ru,.int .i64 C.wd,.int .i64 C.dp],.agg #[.int .i64 x.i,.int .i64 x.fx,.int .i64 x.fz,.int .i64 x.fy,.int .i64 x.tx,.int .i64 x.tz,.int .i64 x.ty,.bool x.bo,.int .i64 x.ar,.int .i64 x.co]] w (TestPost (x.tests C) w):=by
 go_enter Tryz.func93,Tryz.ntmps93
 go_wp2_with fail
 go_ret
 refine⟨_,[⟨94,#[.pointer (some ⟨w.heap.size,0,none⟩),.pointer (some ⟨w.heap.size+1,0,none⟩)],spotB C x.fx x.fz x.fy⟩,⟨96,#[.pointer (some ⟨w.heap.size,0,none⟩),.pointer (some ⟨w.heap.size+1,0,none⟩)],spotB C x.tx x.tz x.ty⟩,
  ⟨97,#[.pointer (some ⟨w.heap.size+1,0,none⟩)],ordB [1,x.ar,7]⟩,⟨98,#[.pointer (some ⟨w.heap.size+1,0,none⟩)],ordB [0,x.co,1048576]⟩],rfl,by simp,by simp[HopR.tests,Bool.and_assoc],?_,fns_at _ _ _ _ (by simp),by exact nw⟩
 intro j hj
 have hj0:j=0∨j=1∨j=2∨j=3:=by simp at hj;omega
 have hc:∀ ob W,New ((((w.alloc (.cells C.enc.toArray 23)).alloc (.cells x.enc.toArray 95))).alloc ob) W→CellsAt W w.heap.size 0 C.enc:=fun ob W hW=>((cells_new w C.enc.toArray _).keep (((New.refl _).alloc _).alloc _)).keep hW
 have hx:∀ ob W,New ((((w.alloc (.cells C.enc.toArray 23)).alloc (.cells x.enc.toArray 95))).alloc ob) W→CellsAt W (w.heap.size+1) 0 x.enc:=fun ob W hW=>by
  have:=cells_new (w.alloc (.cells C.enc.toArray 23)) x.enc.toArray 95
  rw[World.size_alloc]at this
  exact(this.keep ((New.refl _).alloc _)).keep hW
 rcases hj0 with rfl|rfl|rfl|rfl
 ·exact⟨enters_of Tryz.func94 (by kernel_rfl) rfl,fun W hW=>h_t1 C hC x w.heap.size (w.heap.size+1) W (hc _ W hW) (hx _ W hW)⟩
 ·exact⟨enters_of Tryz.func96 (by kernel_rfl) rfl,fun W hW=>h_t2 C hC x w.heap.size (w.heap.size+1) W (hc _ W hW) (hx _ W hW)⟩
 ·exact⟨enters_of Tryz.func97 (by kernel_rfl) rfl,fun W hW=>h_t3 C hC x w.heap.size (w.heap.size+1) W (hc _ W hW) (hx _ W hW)⟩
 ·exact⟨enters_of Tryz.func98 (by kernel_rfl) rfl,fun W hW=>h_t4 C hC x w.heap.size (w.heap.size+1) W (hc _ W hW) (hx _ W hW)⟩
def heiB (y:Int):Bool:=decide (-2048≤y∧y≤2048)
def idB (i:Int):Bool:=decide (1≤i∧i≤1073741824)
theorem u_height (y:Int) (w:World):Calls Tryz.prog 71 #[.int .i64 y] w fun e w'=>e=.returned (.bool (heiB y))∧New w w':=by
 unfold heiB
 go_enter Tryz.func71,Tryz.ntmps71
 go_wp2_with fail
 all_goals
  go_ret
  refine⟨congrArg (fun b=>Ending.returned (.bool b)) ?_,New.refl _⟩
  rw[Bool.eq_iff_iff]
  simp only[Bool.and_eq_true,decide_eq_true_eq,Bool.false_eq_true,false_iff]
  omega
theorem u_id (y:Int) (w:World):Calls Tryz.prog 44 #[.int .i64 y] w fun e w'=>e=.returned (.bool (idB y))∧New w w':=by
 unfold idB
 go_enter Tryz.func44,Tryz.ntmps44
 go_wp2_with fail
 all_goals
  go_ret
  refine⟨congrArg (fun b=>Ending.returned (.bool b)) ?_,New.refl _⟩
  rw[Bool.eq_iff_iff]
  simp only[Bool.and_eq_true,decide_eq_true_eq,Bool.false_eq_true,false_iff]
  omega
theorem BoxR.tests_iff (C:CfgR) (X:BoxR):X.tests C=true↔0≤X.x0∧X.x0≤X.x1∧X.x1<C.wd∧0≤X.z0∧X.z0≤X.z1∧X.z1<C.dp∧heiB X.y0=true∧X.y0≤X.y1∧heiB X.y1=true∧0≤X.ar∧X.ar≤7:=by
 simp only[BoxR.tests,ordB,heiB,Bool.and_eq_true,decide_eq_true_eq,Bool.and_true]
 omega
theorem notTrue {b:Bool} (h:¬ b=true):b=false:=by cases b <;> simp_all
theorem u_mayBox (C:CfgR) (X:BoxR) (w:World) :
  Calls Tryz.prog 46 #[.agg #[.int .i64 C.cl,.int .i64 C.cb,.int .i64 C.ht,.int .i64 C.ri,.int .i64 C.ru,.int .i64 C.wd,.int .i64 C.dp],.agg #[.int .i64 X.i,.int .i64 X.x0,.int .i64 X.z0,.int .i64 X.x1,.int .i64 X.z1,.int .i64 X.y0,.int .i64 X.y1,.int .i64 X.ar]] w fun e w'=>e=.returned (.bool (X.tests C))∧New w w':=by
 have K0:=Lib.hid (fun W=>u_height X.y0 W)
 have K1:=Lib.hid (fun W=>u_height X.y1 W)
 have IF:=Lib.hid (BoxR.tests_iff C X)
 by_cases p0:0≤X.x0
 rotate_left
 ·have q0:decide (0≤X.x0)=false:=decide_eq_false p0
  have E:X.tests C=false:=notTrue (fun h=>p0 (IF.out.1 h).1)
  rw[E]
  clear E IF p0
  go_enter Tryz.func46,Tryz.ntmps46
  go_wp2_with fail
  go_ret
  exact⟨rfl,by exact nw⟩
 by_cases p1:X.x0≤X.x1
 rotate_left
 ·have q0:decide (0≤X.x0)=true:=decide_eq_true p0
  have q1:decide (X.x0≤X.x1)=false:=decide_eq_false p1
  have E:X.tests C=false:=notTrue (fun h=>p1 (IF.out.1 h).2.1)
  rw[E]
  clear E IF p0 p1
  go_enter Tryz.func46,Tryz.ntmps46
  go_wp2_with fail
  go_ret
  exact⟨rfl,by exact nw⟩
 by_cases p2:X.x1<C.wd
 rotate_left
 ·have q0:decide (0≤X.x0)=true:=decide_eq_true p0
  have q1:decide (X.x0≤X.x1)=true:=decide_eq_true p1
  have q2:decide (X.x1<C.wd)=false:=decide_eq_false p2
  have E:X.tests C=false:=notTrue (fun h=>p2 (IF.out.1 h).2.2.1)
  rw[E]
  clear E IF p0 p1 p2
  go_enter Tryz.func46,Tryz.ntmps46
  go_wp2_with fail
  go_ret
  exact⟨rfl,by exact nw⟩
 by_cases p3:0≤X.z0
 rotate_left
 ·have q0:decide (0≤X.x0)=true:=decide_eq_true p0
  have q1:decide (X.x0≤X.x1)=true:=decide_eq_true p1
  have q2:decide (X.x1<C.wd)=true:=decide_eq_true p2
  have q3:decide (0≤X.z0)=false:=decide_eq_false p3
  have E:X.tests C=false:=notTrue (fun h=>p3 (IF.out.1 h).2.2.2.1)
  rw[E]
  clear E IF p0 p1 p2 p3
  go_enter Tryz.func46,Tryz.ntmps46
  go_wp2_with fail
  go_ret
  exact⟨rfl,by exact nw⟩
 by_cases p4:X.z0≤X.z1
 rotate_left
 ·have q0:decide (0≤X.x0)=true:=decide_eq_true p0
  have q1:decide (X.x0≤X.x1)=true:=decide_eq_true p1
  have q2:decide (X.x1<C.wd)=true:=decide_eq_true p2
  have q3:decide (0≤X.z0)=true:=decide_eq_true p3
  have q4:decide (X.z0≤X.z1)=false:=decide_eq_false p4
  have E:X.tests C=false:=notTrue (fun h=>p4 (IF.out.1 h).2.2.2.2.1)
  rw[E]
  clear E IF p0 p1 p2 p3 p4
  go_enter Tryz.func46,Tryz.ntmps46
  go_wp2_with fail
  go_ret
  exact⟨rfl,by exact nw⟩
 by_cases p5:X.z1<C.dp
 rotate_left
 ·have q0:decide (0≤X.x0)=true:=decide_eq_true p0
  have q1:decide (X.x0≤X.x1)=true:=decide_eq_true p1
  have q2:decide (X.x1<C.wd)=true:=decide_eq_true p2
  have q3:decide (0≤X.z0)=true:=decide_eq_true p3
  have q4:decide (X.z0≤X.z1)=true:=decide_eq_true p4
  have q5:decide (X.z1<C.dp)=false:=decide_eq_false p5
  have E:X.tests C=false:=notTrue (fun h=>p5 (IF.out.1 h).2.2.2.2.2.1)
  rw[E]
  clear E IF p0 p1 p2 p3 p4 p5
  go_enter Tryz.func46,Tryz.ntmps46
  go_wp2_with fail
  go_ret
  exact⟨rfl,by exact nw⟩
 by_cases p6:heiB X.y0=true
 rotate_left
 ·have q0:decide (0≤X.x0)=true:=decide_eq_true p0
  have q1:decide (X.x0≤X.x1)=true:=decide_eq_true p1
  have q2:decide (X.x1<C.wd)=true:=decide_eq_true p2
  have q3:decide (0≤X.z0)=true:=decide_eq_true p3
  have q4:decide (X.z0≤X.z1)=true:=decide_eq_true p4
  have q5:decide (X.z1<C.dp)=true:=decide_eq_true p5
  have q6:=notTrue p6
  have E:X.tests C=false:=notTrue (fun h=>p6 (IF.out.1 h).2.2.2.2.2.2.1)
  rw[E]
  clear E IF p0 p1 p2 p3 p4 p5 p6
  rw[q6]at K0
  go_enter Tryz.func46,Tryz.ntmps46
  go_wp2_with fail
  refine Calls.at (fun W hW=>?_)
  have d5:W.cell? ⟨w.heap.size+1,5,none⟩=some (.int .i64 X.y0):=by subst hW;go_simp
  have d6:W.cell? ⟨w.heap.size+1,6,none⟩=some (.int .i64 X.y1):=by subst hW;go_simp
  have d7:W.cell? ⟨w.heap.size+1,7,none⟩=some (.int .i64 X.ar):=by subst hW;go_simp
  have hn:New w W:=by subst hW;exact nw
  clear hW
  refine(K0.out _).mono ?_
  rintro e w1 ⟨rfl,n1⟩
  replace d5:=n1.keep d5
  replace d6:=n1.keep d6
  replace d7:=n1.keep d7
  replace hn:=hn.trans n1
  go_wp2_with fail
  go_ret
  exact⟨rfl,hn⟩
 by_cases p7:X.y0≤X.y1
 rotate_left
 ·have q0:decide (0≤X.x0)=true:=decide_eq_true p0
  have q1:decide (X.x0≤X.x1)=true:=decide_eq_true p1
  have q2:decide (X.x1<C.wd)=true:=decide_eq_true p2
  have q3:decide (0≤X.z0)=true:=decide_eq_true p3
  have q4:decide (X.z0≤X.z1)=true:=decide_eq_true p4
  have q5:decide (X.z1<C.dp)=true:=decide_eq_true p5
  have q6:=p6
  have q7:decide (X.y0≤X.y1)=false:=decide_eq_false p7
  have E:X.tests C=false:=notTrue (fun h=>p7 (IF.out.1 h).2.2.2.2.2.2.2.1)
  rw[E]
  clear E IF p0 p1 p2 p3 p4 p5 p6 p7
  rw[q6]at K0
  go_enter Tryz.func46,Tryz.ntmps46
  go_wp2_with fail
  refine Calls.at (fun W hW=>?_)
  have d5:W.cell? ⟨w.heap.size+1,5,none⟩=some (.int .i64 X.y0):=by subst hW;go_simp
  have d6:W.cell? ⟨w.heap.size+1,6,none⟩=some (.int .i64 X.y1):=by subst hW;go_simp
  have d7:W.cell? ⟨w.heap.size+1,7,none⟩=some (.int .i64 X.ar):=by subst hW;go_simp
  have hn:New w W:=by subst hW;exact nw
  clear hW
  refine(K0.out _).mono ?_
  rintro e w1 ⟨rfl,n1⟩
  replace d5:=n1.keep d5
  replace d6:=n1.keep d6
  replace d7:=n1.keep d7
  replace hn:=hn.trans n1
  go_wp2_with fail
  go_ret
  exact⟨rfl,hn⟩
 by_cases p8:heiB X.y1=true
 rotate_left
 ·have q0:decide (0≤X.x0)=true:=decide_eq_true p0
  have q1:decide (X.x0≤X.x1)=true:=decide_eq_true p1
  have q2:decide (X.x1<C.wd)=true:=decide_eq_true p2
  have q3:decide (0≤X.z0)=true:=decide_eq_true p3
  have q4:decide (X.z0≤X.z1)=true:=decide_eq_true p4
  have q5:decide (X.z1<C.dp)=true:=decide_eq_true p5
  have q6:=p6
  have q7:decide (X.y0≤X.y1)=true:=decide_eq_true p7
  have q8:=notTrue p8
  have E:X.tests C=false:=notTrue (fun h=>p8 (IF.out.1 h).2.2.2.2.2.2.2.2.1)
  rw[E]
  clear E IF p0 p1 p2 p3 p4 p5 p6 p7 p8
  rw[q6]at K0
  rw[q8]at K1
  go_enter Tryz.func46,Tryz.ntmps46
  go_wp2_with fail
  refine Calls.at (fun W hW=>?_)
  have d5:W.cell? ⟨w.heap.size+1,5,none⟩=some (.int .i64 X.y0):=by subst hW;go_simp
  have d6:W.cell? ⟨w.heap.size+1,6,none⟩=some (.int .i64 X.y1):=by subst hW;go_simp
  have d7:W.cell? ⟨w.heap.size+1,7,none⟩=some (.int .i64 X.ar):=by subst hW;go_simp
  have hn:New w W:=by subst hW;exact nw
  clear hW
  refine(K0.out _).mono ?_
  rintro e w1 ⟨rfl,n1⟩
  replace d5:=n1.keep d5
  replace d6:=n1.keep d6
  replace d7:=n1.keep d7
  replace hn:=hn.trans n1
  go_wp2_with fail
  refine(K1.out _).mono ?_
  rintro e w2 ⟨rfl,n2⟩
  replace d7:=n2.keep d7
  replace hn:=hn.trans n2
  go_wp2_with fail
  go_ret
  exact⟨rfl,hn⟩
 by_cases p9:0≤X.ar
 rotate_left
 ·have q0:decide (0≤X.x0)=true:=decide_eq_true p0
  have q1:decide (X.x0≤X.x1)=true:=decide_eq_true p1
  have q2:decide (X.x1<C.wd)=true:=decide_eq_true p2
  have q3:decide (0≤X.z0)=true:=decide_eq_true p3
  have q4:decide (X.z0≤X.z1)=true:=decide_eq_true p4
  have q5:decide (X.z1<C.dp)=true:=decide_eq_true p5
  have q6:=p6
  have q7:decide (X.y0≤X.y1)=true:=decide_eq_true p7
  have q8:=p8
  have q9:decide (0≤X.ar)=false:=decide_eq_false p9
  have E:X.tests C=false:=notTrue (fun h=>p9 (IF.out.1 h).2.2.2.2.2.2.2.2.2.1)
  rw[E]
  clear E IF p0 p1 p2 p3 p4 p5 p6 p7 p8 p9
  rw[q6]at K0
  rw[q8]at K1
  go_enter Tryz.func46,Tryz.ntmps46
  go_wp2_with fail
  refine Calls.at (fun W hW=>?_)
  have d5:W.cell? ⟨w.heap.size+1,5,none⟩=some (.int .i64 X.y0):=by subst hW;go_simp
  have d6:W.cell? ⟨w.heap.size+1,6,none⟩=some (.int .i64 X.y1):=by subst hW;go_simp
  have d7:W.cell? ⟨w.heap.size+1,7,none⟩=some (.int .i64 X.ar):=by subst hW;go_simp
  have hn:New w W:=by subst hW;exact nw
  clear hW
  refine(K0.out _).mono ?_
  rintro e w1 ⟨rfl,n1⟩
  replace d5:=n1.keep d5
  replace d6:=n1.keep d6
  replace d7:=n1.keep d7
  replace hn:=hn.trans n1
  go_wp2_with fail
  refine(K1.out _).mono ?_
  rintro e w2 ⟨rfl,n2⟩
  replace d7:=n2.keep d7
  replace hn:=hn.trans n2
  go_wp2_with fail
  go_ret
  exact⟨rfl,hn⟩
 by_cases p10:X.ar≤7
 rotate_left
 ·have q0:decide (0≤X.x0)=true:=decide_eq_true p0
  have q1:decide (X.x0≤X.x1)=true:=decide_eq_true p1
  have q2:decide (X.x1<C.wd)=true:=decide_eq_true p2
  have q3:decide (0≤X.z0)=true:=decide_eq_true p3
  have q4:decide (X.z0≤X.z1)=true:=decide_eq_true p4
  have q5:decide (X.z1<C.dp)=true:=decide_eq_true p5
  have q6:=p6
  have q7:decide (X.y0≤X.y1)=true:=decide_eq_true p7
  have q8:=p8
  have q9:decide (0≤X.ar)=true:=decide_eq_true p9
  have q10:decide (X.ar≤7)=false:=decide_eq_false p10
  have E:X.tests C=false:=notTrue (fun h=>p10 (IF.out.1 h).2.2.2.2.2.2.2.2.2.2)
  rw[E]
  clear E IF p0 p1 p2 p3 p4 p5 p6 p7 p8 p9 p10
  rw[q6]at K0
  rw[q8]at K1
  go_enter Tryz.func46,Tryz.ntmps46
  go_wp2_with fail
  refine Calls.at (fun W hW=>?_)
  have d5:W.cell? ⟨w.heap.size+1,5,none⟩=some (.int .i64 X.y0):=by subst hW;go_simp
  have d6:W.cell? ⟨w.heap.size+1,6,none⟩=some (.int .i64 X.y1):=by subst hW;go_simp
  have d7:W.cell? ⟨w.heap.size+1,7,none⟩=some (.int .i64 X.ar):=by subst hW;go_simp
  have hn:New w W:=by subst hW;exact nw
  clear hW
  refine(K0.out _).mono ?_
  rintro e w1 ⟨rfl,n1⟩
  replace d5:=n1.keep d5
  replace d6:=n1.keep d6
  replace d7:=n1.keep d7
  replace hn:=hn.trans n1
  go_wp2_with fail
  refine(K1.out _).mono ?_
  rintro e w2 ⟨rfl,n2⟩
  replace d7:=n2.keep d7
  replace hn:=hn.trans n2
  go_wp2_with fail
  go_ret
  exact⟨rfl,hn⟩
 have q0:decide (0≤X.x0)=true:=decide_eq_true p0
 have q1:decide (X.x0≤X.x1)=true:=decide_eq_true p1
 have q2:decide (X.x1<C.wd)=true:=decide_eq_true p2
 have q3:decide (0≤X.z0)=true:=decide_eq_true p3
 have q4:decide (X.z0≤X.z1)=true:=decide_eq_true p4
 have q5:decide (X.z1<C.dp)=true:=decide_eq_true p5
 have q6:=p6
 have q7:decide (X.y0≤X.y1)=true:=decide_eq_true p7
 have q8:=p8
 have q9:decide (0≤X.ar)=true:=decide_eq_true p9
 have q10:decide (X.ar≤7)=true:=decide_eq_true p10
 have E:X.tests C=true:=IF.out.2 ⟨p0,p1,p2,p3,p4,p5,p6,p7,p8,p9,p10⟩
 rw[E]
 clear E IF p0 p1 p2 p3 p4 p5 p6 p7 p8 p9 p10
 rw[q6]at K0
 rw[q8]at K1
 go_enter Tryz.func46,Tryz.ntmps46
 go_wp2_with fail
 refine Calls.at (fun W hW=>?_)
 have d5:W.cell? ⟨w.heap.size+1,5,none⟩=some (.int .i64 X.y0):=by subst hW;go_simp
 have d6:W.cell? ⟨w.heap.size+1,6,none⟩=some (.int .i64 X.y1):=by subst hW;go_simp
 have d7:W.cell? ⟨w.heap.size+1,7,none⟩=some (.int .i64 X.ar):=by subst hW;go_simp
 have hn:New w W:=by subst hW;exact nw
 clear hW
 refine(K0.out _).mono ?_
 rintro e w1 ⟨rfl,n1⟩
 replace d5:=n1.keep d5
 replace d6:=n1.keep d6
 replace d7:=n1.keep d7
 replace hn:=hn.trans n1
 go_wp2_with fail
 refine(K1.out _).mono ?_
 rintro e w2 ⟨rfl,n2⟩
 replace d7:=n2.keep d7
 replace hn:=hn.trans n2
 go_wp2_with fail
 go_ret
 exact⟨rfl,hn⟩
theorem h_id (x:HopR) (w:World):Calls Tryz.prog 92 #[.agg #[.int .i64 x.i,.int .i64 x.fx,.int .i64 x.fz,.int .i64 x.fy,.int .i64 x.tx,.int .i64 x.tz,.int .i64 x.ty,.bool x.bo,.int .i64 x.ar,.int .i64 x.co]] w fun e w'=>e=.returned (.int .i64 x.i)∧New w w':=by
 go_enter Tryz.func92,Tryz.ntmps92
 go_wp2_with fail
 go_ret
 exact⟨rfl,by exact nw⟩
theorem h_list (b:Nat) (w:World):Calls Tryz.prog 91 #[.pointer (some ⟨b,0,none⟩)] w fun e w'=>e=.returned (.pointer (some ⟨b,2,none⟩))∧w=w':=by
 go_enter Tryz.func91,Tryz.ntmps91
 go_wp2_with fail
 go_ret
 exact⟨rfl,rfl⟩
def HopR.may (C:CfgR) (x:HopR):Bool:=ordB [1,x.i,1073741824]&&x.tests C
theorem h_may (C:CfgR) (hC:C.fine) (x:HopR) (w:World) :
  Calls Tryz.prog 90 #[.agg #[.int .i64 C.cl,.int .i64 C.cb,.int .i64 C.ht,.int .i64 C.ri,.int .i64 C.ru,.int .i64 C.wd,.int .i64 C.dp],.agg #[.int .i64 x.i,.int .i64 x.fx,.int .i64 x.fz,.int .i64 x.fy,.int .i64 x.tx,.int .i64 x.tz,.int .i64 x.ty,.bool x.bo,.int .i64 x.ar,.int .i64 x.co],.agg #[.func (.func 91) #[] #[],.func (.func 92) #[] #[],.int .i64 16,.int .i64 2,.func (.func 93) #[] #[]]] w fun e w'=>e=.returned (.bool (x.may C))∧New w w':=by
 have hid:=fun W=>h_id x W
 have HCH:=Lib.hid (fun W=>HopR.checks C hC x W)
 obtain⟨v,hv⟩:∃ v,v=x.may C:=⟨_,rfl⟩
 rw[←hv]
 unfold HopR.may at hv
 generalize HopR.tests C x=tv at *
 cases h1:ordB [1,x.i,1073741824]
 ·have HV:Hid (v=false):=by show v=false;rw[hv,h1];rfl
  clear hv HCH
  have k1:=Lib.hid (fun b W (H:IntsAt W b [1,x.i,1073741824])=>by have q:=l_inOrder b 3 [1,x.i,1073741824] (by simp) (by simp) W H;rw[h1]at q;exact q:∀ b W,IntsAt W b [1,x.i,1073741824]→Calls Tryz.prog 86 #[.slice (some ⟨b,0,none⟩) 3 3] W fun e w'=>e=.returned (.bool false)∧New W w')
  clear h1 hC
  go_enter Tryz.func90,Tryz.ntmps90
  go_wp2_with fail
  generalize hW:World.alloc _ _=W
  have hn:New w W:=by subst hW;exact nw
  clear hW
  refine(hid _).mono ?_
  rintro e W1 ⟨rfl,n1⟩
  replace hn:=hn.trans n1
  clear n1 hid
  go_wp2_with fail
  refine(k1.out _ _ (ints_at _ [1,x.i,1073741824] _ _ rfl)).mono ?_
  rintro e W2 ⟨rfl,n1⟩
  replace hn:New w W2:=New.trans (hn.alloc _) n1
  clear n1 k1
  go_wp2_with fail
  go_ret
  exact⟨retBo HV.out.symm,hn⟩
 ·rw[h1,Bool.true_and]at hv
  subst hv
  have k1:=Lib.hid (fun b W (H:IntsAt W b [1,x.i,1073741824])=>by have q:=l_inOrder b 3 [1,x.i,1073741824] (by simp) (by simp) W H;rw[h1]at q;exact q:∀ b W,IntsAt W b [1,x.i,1073741824]→Calls Tryz.prog 86 #[.slice (some ⟨b,0,none⟩) 3 3] W fun e w'=>e=.returned (.bool true)∧New W w')
  clear h1 hC
  go_enter Tryz.func90,Tryz.ntmps90
  go_wp2_with fail
  generalize hW:World.alloc _ _=W
  have hn:New w W:=by subst hW;exact nw
  have kc:W.cell? ⟨w.heap.size+1+1,4,none⟩=some (.func (.func 93) #[] #[]):=by subst hW;go_simp
  ((have g0:World.cell? (W) ⟨w.heap.size,0,none⟩=some (.int .i64 C.cl):=(by subst hW;go_simp));(have g1:World.cell? (W) ⟨w.heap.size,1,none⟩=some (.int .i64 C.cb):=(by subst hW;go_simp));(have g2:World.cell? (W) ⟨w.heap.size,2,none⟩=some (.int .i64 C.ht):=(by subst hW;go_simp));(have g3:World.cell? (W) ⟨w.heap.size,3,none⟩=some (.int .i64 C.ri):=(by subst hW;go_simp));(have g4:World.cell? (W) ⟨w.heap.size,4,none⟩=some (.int .i64 C.ru):=(by subst hW;go_simp));(have g5:World.cell? (W) ⟨w.heap.size,5,none⟩=some (.int .i64 C.wd):=(by subst hW;go_simp));(have g6:World.cell? (W) ⟨w.heap.size,6,none⟩=some (.int .i64 C.dp):=(by subst hW;go_simp)))
  ((have c0:World.cell? (W) ⟨w.heap.size+1,0,none⟩=some (.int .i64 x.i):=(by subst hW;go_simp));(have c1:World.cell? (W) ⟨w.heap.size+1,1,none⟩=some (.int .i64 x.fx):=(by subst hW;go_simp));(have c2:World.cell? (W) ⟨w.heap.size+1,2,none⟩=some (.int .i64 x.fz):=(by subst hW;go_simp));(have c3:World.cell? (W) ⟨w.heap.size+1,3,none⟩=some (.int .i64 x.fy):=(by subst hW;go_simp));(have c4:World.cell? (W) ⟨w.heap.size+1,4,none⟩=some (.int .i64 x.tx):=(by subst hW;go_simp));(have c5:World.cell? (W) ⟨w.heap.size+1,5,none⟩=some (.int .i64 x.tz):=(by subst hW;go_simp));(have c6:World.cell? (W) ⟨w.heap.size+1,6,none⟩=some (.int .i64 x.ty):=(by subst hW;go_simp));(have c7:World.cell? (W) ⟨w.heap.size+1,7,none⟩=some (.bool x.bo):=(by subst hW;go_simp));(have c8:World.cell? (W) ⟨w.heap.size+1,8,none⟩=some (.int .i64 x.ar):=(by subst hW;go_simp));(have c9:World.cell? (W) ⟨w.heap.size+1,9,none⟩=some (.int .i64 x.co):=(by subst hW;go_simp)))
  clear hW
  refine(hid _).mono ?_
  rintro e W1 ⟨rfl,n1⟩
  replace hn:=hn.trans n1
  replace kc:=New.keep n1 kc
  (replace g0:=New.keep (n1) g0;replace g1:=New.keep (n1) g1;replace g2:=New.keep (n1) g2;replace g3:=New.keep (n1) g3;replace g4:=New.keep (n1) g4;replace g5:=New.keep (n1) g5;replace g6:=New.keep (n1) g6)
  (replace c0:=New.keep (n1) c0;replace c1:=New.keep (n1) c1;replace c2:=New.keep (n1) c2;replace c3:=New.keep (n1) c3;replace c4:=New.keep (n1) c4;replace c5:=New.keep (n1) c5;replace c6:=New.keep (n1) c6;replace c7:=New.keep (n1) c7;replace c8:=New.keep (n1) c8;replace c9:=New.keep (n1) c9)
  clear n1 hid
  go_wp2_with fail
  refine(k1.out _ _ (ints_at _ [1,x.i,1073741824] _ _ rfl)).mono ?_
  rintro e W2 ⟨rfl,n1⟩
  replace n1:=New.trans ((New.refl _).alloc _) n1
  replace hn:New w W2:=New.trans hn n1
  replace kc:=New.keep n1 kc
  (replace g0:=New.keep (n1) g0;replace g1:=New.keep (n1) g1;replace g2:=New.keep (n1) g2;replace g3:=New.keep (n1) g3;replace g4:=New.keep (n1) g4;replace g5:=New.keep (n1) g5;replace g6:=New.keep (n1) g6)
  (replace c0:=New.keep (n1) c0;replace c1:=New.keep (n1) c1;replace c2:=New.keep (n1) c2;replace c3:=New.keep (n1) c3;replace c4:=New.keep (n1) c4;replace c5:=New.keep (n1) c5;replace c6:=New.keep (n1) c6;replace c7:=New.keep (n1) c7;replace c8:=New.keep (n1) c8;replace c9:=New.keep (n1) c9)
  clear n1 k1
  go_wp2_with fail
  refine(HCH.out _).mono ?_
  rintro e W3 ⟨B,fl,rfl,hl,hall,hg,hat,n1⟩
  have HA:=Lib.hid (l_all W3 B fl.length fl hl hg W3 (New.refl _) hat)
  rw[hall]at HA
  replace hn:=New.trans hn n1
  clear n1 hall hg hat HCH kc hl
  clear c0 c1 c2 c3 c4 c5 c6 c7 c8 c9
  clear g0 g1 g2 g3 g4 g5 g6
  go_wp2_with fail
  refine HA.out.mono ?_
  rintro e W4 ⟨rfl,n1⟩
  replace hn:=New.trans hn n1
  go_wp2_with fail
  go_ret
  exact⟨rfl,hn⟩
theorem b_id (x:BoxR) (w:World):Calls Tryz.prog 83 #[.agg #[.int .i64 x.i,.int .i64 x.x0,.int .i64 x.z0,.int .i64 x.x1,.int .i64 x.z1,.int .i64 x.y0,.int .i64 x.y1,.int .i64 x.ar]] w fun e w'=>e=.returned (.int .i64 x.i)∧New w w':=by
 go_enter Tryz.func83,Tryz.ntmps83
 go_wp2_with fail
 go_ret
 exact⟨rfl,by exact nw⟩
theorem b_list (b:Nat) (w:World):Calls Tryz.prog 82 #[.pointer (some ⟨b,0,none⟩)] w fun e w'=>e=.returned (.pointer (some ⟨b,1,none⟩))∧w=w':=by
 go_enter Tryz.func82,Tryz.ntmps82
 go_wp2_with fail
 go_ret
 exact⟨rfl,rfl⟩
def BoxR.may (C:CfgR) (x:BoxR):Bool:=ordB [1,x.i,1073741824]&&x.tests C
theorem b_may (C:CfgR) (hC:C.fine) (x:BoxR) (w:World) :
  Calls Tryz.prog 81 #[.agg #[.int .i64 C.cl,.int .i64 C.cb,.int .i64 C.ht,.int .i64 C.ri,.int .i64 C.ru,.int .i64 C.wd,.int .i64 C.dp],.agg #[.int .i64 x.i,.int .i64 x.x0,.int .i64 x.z0,.int .i64 x.x1,.int .i64 x.z1,.int .i64 x.y0,.int .i64 x.y1,.int .i64 x.ar],.agg #[.func (.func 82) #[] #[],.func (.func 83) #[] #[],.int .i64 16,.int .i64 2,.func (.func 84) #[] #[]]] w fun e w'=>e=.returned (.bool (x.may C))∧New w w':=by
 have hid:=fun W=>b_id x W
 have HCH:=Lib.hid (fun W=>BoxR.checks C hC x W)
 obtain⟨v,hv⟩:∃ v,v=x.may C:=⟨_,rfl⟩
 rw[←hv]
 unfold BoxR.may at hv
 generalize BoxR.tests C x=tv at *
 cases h1:ordB [1,x.i,1073741824]
 ·have HV:Hid (v=false):=by show v=false;rw[hv,h1];rfl
  clear hv HCH
  have k1:=Lib.hid (fun b W (H:IntsAt W b [1,x.i,1073741824])=>by have q:=l_inOrder b 3 [1,x.i,1073741824] (by simp) (by simp) W H;rw[h1]at q;exact q:∀ b W,IntsAt W b [1,x.i,1073741824]→Calls Tryz.prog 86 #[.slice (some ⟨b,0,none⟩) 3 3] W fun e w'=>e=.returned (.bool false)∧New W w')
  clear h1 hC
  go_enter Tryz.func81,Tryz.ntmps81
  go_wp2_with fail
  generalize hW:World.alloc _ _=W
  have hn:New w W:=by subst hW;exact nw
  clear hW
  refine(hid _).mono ?_
  rintro e W1 ⟨rfl,n1⟩
  replace hn:=hn.trans n1
  clear n1 hid
  go_wp2_with fail
  refine(k1.out _ _ (ints_at _ [1,x.i,1073741824] _ _ rfl)).mono ?_
  rintro e W2 ⟨rfl,n1⟩
  replace hn:New w W2:=New.trans (hn.alloc _) n1
  clear n1 k1
  go_wp2_with fail
  go_ret
  exact⟨retBo HV.out.symm,hn⟩
 ·rw[h1,Bool.true_and]at hv
  subst hv
  have k1:=Lib.hid (fun b W (H:IntsAt W b [1,x.i,1073741824])=>by have q:=l_inOrder b 3 [1,x.i,1073741824] (by simp) (by simp) W H;rw[h1]at q;exact q:∀ b W,IntsAt W b [1,x.i,1073741824]→Calls Tryz.prog 86 #[.slice (some ⟨b,0,none⟩) 3 3] W fun e w'=>e=.returned (.bool true)∧New W w')
  clear h1 hC
  go_enter Tryz.func81,Tryz.ntmps81
  go_wp2_with fail
  generalize hW:World.alloc _ _=W
  have hn:New w W:=by subst hW;exact nw
  have kc:W.cell? ⟨w.heap.size+1+1,4,none⟩=some (.func (.func 84) #[] #[]):=by subst hW;go_simp
  ((have g0:World.cell? (W) ⟨w.heap.size,0,none⟩=some (.int .i64 C.cl):=(by subst hW;go_simp));(have g1:World.cell? (W) ⟨w.heap.size,1,none⟩=some (.int .i64 C.cb):=(by subst hW;go_simp));(have g2:World.cell? (W) ⟨w.heap.size,2,none⟩=some (.int .i64 C.ht):=(by subst hW;go_simp));(have g3:World.cell? (W) ⟨w.heap.size,3,none⟩=some (.int .i64 C.ri):=(by subst hW;go_simp));(have g4:World.cell? (W) ⟨w.heap.size,4,none⟩=some (.int .i64 C.ru):=(by subst hW;go_simp));(have g5:World.cell? (W) ⟨w.heap.size,5,none⟩=some (.int .i64 C.wd):=(by subst hW;go_simp));(have g6:World.cell? (W) ⟨w.heap.size,6,none⟩=some (.int .i64 C.dp):=(by subst hW;go_simp)))
  ((have c0:World.cell? (W) ⟨w.heap.size+1,0,none⟩=some (.int .i64 x.i):=(by subst hW;go_simp));(have c1:World.cell? (W) ⟨w.heap.size+1,1,none⟩=some (.int .i64 x.x0):=(by subst hW;go_simp));(have c2:World.cell? (W) ⟨w.heap.size+1,2,none⟩=some (.int .i64 x.z0):=(by subst hW;go_simp));(have c3:World.cell? (W) ⟨w.heap.size+1,3,none⟩=some (.int .i64 x.x1):=(by subst hW;go_simp));(have c4:World.cell? (W) ⟨w.heap.size+1,4,none⟩=some (.int .i64 x.z1):=(by subst hW;go_simp));(have c5:World.cell? (W) ⟨w.heap.size+1,5,none⟩=some (.int .i64 x.y0):=(by subst hW;go_simp));(have c6:World.cell? (W) ⟨w.heap.size+1,6,none⟩=some (.int .i64 x.y1):=(by subst hW;go_simp));(have c7:World.cell? (W) ⟨w.heap.size+1,7,none⟩=some (.int .i64 x.ar):=(by subst hW;go_simp)))
  clear hW
  refine(hid _).mono ?_
  rintro e W1 ⟨rfl,n1⟩
  replace hn:=hn.trans n1
  replace kc:=New.keep n1 kc
  (replace g0:=New.keep (n1) g0;replace g1:=New.keep (n1) g1;replace g2:=New.keep (n1) g2;replace g3:=New.keep (n1) g3;replace g4:=New.keep (n1) g4;replace g5:=New.keep (n1) g5;replace g6:=New.keep (n1) g6)
  (replace c0:=New.keep (n1) c0;replace c1:=New.keep (n1) c1;replace c2:=New.keep (n1) c2;replace c3:=New.keep (n1) c3;replace c4:=New.keep (n1) c4;replace c5:=New.keep (n1) c5;replace c6:=New.keep (n1) c6;replace c7:=New.keep (n1) c7)
  clear n1 hid
  go_wp2_with fail
  refine(k1.out _ _ (ints_at _ [1,x.i,1073741824] _ _ rfl)).mono ?_
  rintro e W2 ⟨rfl,n1⟩
  replace n1:=New.trans ((New.refl _).alloc _) n1
  replace hn:New w W2:=New.trans hn n1
  replace kc:=New.keep n1 kc
  (replace g0:=New.keep (n1) g0;replace g1:=New.keep (n1) g1;replace g2:=New.keep (n1) g2;replace g3:=New.keep (n1) g3;replace g4:=New.keep (n1) g4;replace g5:=New.keep (n1) g5;replace g6:=New.keep (n1) g6)
  (replace c0:=New.keep (n1) c0;replace c1:=New.keep (n1) c1;replace c2:=New.keep (n1) c2;replace c3:=New.keep (n1) c3;replace c4:=New.keep (n1) c4;replace c5:=New.keep (n1) c5;replace c6:=New.keep (n1) c6;replace c7:=New.keep (n1) c7)
  clear n1 k1
  go_wp2_with fail
  refine(HCH.out _).mono ?_
  rintro e W3 ⟨B,fl,rfl,hl,hall,hg,hat,n1⟩
  have HA:=Lib.hid (l_all W3 B fl.length fl hl hg W3 (New.refl _) hat)
  rw[hall]at HA
  replace hn:=New.trans hn n1
  clear n1 hall hg hat HCH kc hl
  clear c0 c1 c2 c3 c4 c5 c6 c7
  clear g0 g1 g2 g3 g4 g5 g6
  go_wp2_with fail
  refine HA.out.mono ?_
  rintro e W4 ⟨rfl,n1⟩
  replace hn:=New.trans hn n1
  go_wp2_with fail
  go_ret
  exact⟨rfl,hn⟩
theorem t_id (x:TriR) (w:World):Calls Tryz.prog 77 #[.agg #[.int .i64 x.i,.int .i64 x.x0,.int .i64 x.y0,.int .i64 x.z0,.int .i64 x.x1,.int .i64 x.y1,.int .i64 x.z1,.int .i64 x.x2,.int .i64 x.y2,.int .i64 x.z2]] w fun e w'=>e=.returned (.int .i64 x.i)∧New w w':=by
 go_enter Tryz.func77,Tryz.ntmps77
 go_wp2_with fail
 go_ret
 exact⟨rfl,by exact nw⟩
theorem t_list (b:Nat) (w:World):Calls Tryz.prog 76 #[.pointer (some ⟨b,0,none⟩)] w fun e w'=>e=.returned (.pointer (some ⟨b,0,none⟩))∧w=w':=by
 go_enter Tryz.func76,Tryz.ntmps76
 go_wp2_with fail
 go_ret
 exact⟨rfl,rfl⟩
def TriR.may (C:CfgR) (x:TriR):Bool:=ordB [1,x.i,1073741824]&&x.tests C
theorem t_may (C:CfgR) (hC:C.fine) (x:TriR) (w:World) :
  Calls Tryz.prog 75 #[.agg #[.int .i64 C.cl,.int .i64 C.cb,.int .i64 C.ht,.int .i64 C.ri,.int .i64 C.ru,.int .i64 C.wd,.int .i64 C.dp],.agg #[.int .i64 x.i,.int .i64 x.x0,.int .i64 x.y0,.int .i64 x.z0,.int .i64 x.x1,.int .i64 x.y1,.int .i64 x.z1,.int .i64 x.x2,.int .i64 x.y2,.int .i64 x.z2],.agg #[.func (.func 76) #[] #[],.func (.func 77) #[] #[],.int .i64 200,.int .i64 40,.func (.func 78) #[] #[]]] w fun e w'=>e=.returned (.bool (x.may C))∧New w w':=by
 have hid:=fun W=>t_id x W
 have HCH:=Lib.hid (fun W=>TriR.checks C hC x W)
 obtain⟨v,hv⟩:∃ v,v=x.may C:=⟨_,rfl⟩
 rw[←hv]
 unfold TriR.may at hv
 generalize TriR.tests C x=tv at *
 cases h1:ordB [1,x.i,1073741824]
 ·have HV:Hid (v=false):=by show v=false;rw[hv,h1];rfl
  clear hv HCH
  have k1:=Lib.hid (fun b W (H:IntsAt W b [1,x.i,1073741824])=>by have q:=l_inOrder b 3 [1,x.i,1073741824] (by simp) (by simp) W H;rw[h1]at q;exact q:∀ b W,IntsAt W b [1,x.i,1073741824]→Calls Tryz.prog 86 #[.slice (some ⟨b,0,none⟩) 3 3] W fun e w'=>e=.returned (.bool false)∧New W w')
  clear h1 hC
  go_enter Tryz.func75,Tryz.ntmps75
  go_wp2_with fail
  generalize hW:World.alloc _ _=W
  have hn:New w W:=by subst hW;exact nw
  clear hW
  refine(hid _).mono ?_
  rintro e W1 ⟨rfl,n1⟩
  replace hn:=hn.trans n1
  clear n1 hid
  go_wp2_with fail
  refine(k1.out _ _ (ints_at _ [1,x.i,1073741824] _ _ rfl)).mono ?_
  rintro e W2 ⟨rfl,n1⟩
  replace hn:New w W2:=New.trans (hn.alloc _) n1
  clear n1 k1
  go_wp2_with fail
  go_ret
  exact⟨retBo HV.out.symm,hn⟩
 ·rw[h1,Bool.true_and]at hv
  subst hv
  have k1:=Lib.hid (fun b W (H:IntsAt W b [1,x.i,1073741824])=>by have q:=l_inOrder b 3 [1,x.i,1073741824] (by simp) (by simp) W H;rw[h1]at q;exact q:∀ b W,IntsAt W b [1,x.i,1073741824]→Calls Tryz.prog 86 #[.slice (some ⟨b,0,none⟩) 3 3] W fun e w'=>e=.returned (.bool true)∧New W w')
  clear h1 hC
  go_enter Tryz.func75,Tryz.ntmps75
  go_wp2_with fail
  generalize hW:World.alloc _ _=W
  have hn:New w W:=by subst hW;exact nw
  have kc:W.cell? ⟨w.heap.size+1+1,4,none⟩=some (.func (.func 78) #[] #[]):=by subst hW;go_simp
  ((have g0:World.cell? (W) ⟨w.heap.size,0,none⟩=some (.int .i64 C.cl):=(by subst hW;go_simp));(have g1:World.cell? (W) ⟨w.heap.size,1,none⟩=some (.int .i64 C.cb):=(by subst hW;go_simp));(have g2:World.cell? (W) ⟨w.heap.size,2,none⟩=some (.int .i64 C.ht):=(by subst hW;go_simp));(have g3:World.cell? (W) ⟨w.heap.size,3,none⟩=some (.int .i64 C.ri):=(by subst hW;go_simp));(have g4:World.cell? (W) ⟨w.heap.size,4,none⟩=some (.int .i64 C.ru):=(by subst hW;go_simp));(have g5:World.cell? (W) ⟨w.heap.size,5,none⟩=some (.int .i64 C.wd):=(by subst hW;go_simp));(have g6:World.cell? (W) ⟨w.heap.size,6,none⟩=some (.int .i64 C.dp):=(by subst hW;go_simp)))
  ((have c0:World.cell? (W) ⟨w.heap.size+1,0,none⟩=some (.int .i64 x.i):=(by subst hW;go_simp));(have c1:World.cell? (W) ⟨w.heap.size+1,1,none⟩=some (.int .i64 x.x0):=(by subst hW;go_simp));(have c2:World.cell? (W) ⟨w.heap.size+1,2,none⟩=some (.int .i64 x.y0):=(by subst hW;go_simp));(have c3:World.cell? (W) ⟨w.heap.size+1,3,none⟩=some (.int .i64 x.z0):=(by subst hW;go_simp));(have c4:World.cell? (W) ⟨w.heap.size+1,4,none⟩=some (.int .i64 x.x1):=(by subst hW;go_simp));(have c5:World.cell? (W) ⟨w.heap.size+1,5,none⟩=some (.int .i64 x.y1):=(by subst hW;go_simp));(have c6:World.cell? (W) ⟨w.heap.size+1,6,none⟩=some (.int .i64 x.z1):=(by subst hW;go_simp));(have c7:World.cell? (W) ⟨w.heap.size+1,7,none⟩=some (.int .i64 x.x2):=(by subst hW;go_simp));(have c8:World.cell? (W) ⟨w.heap.size+1,8,none⟩=some (.int .i64 x.y2):=(by subst hW;go_simp));(have c9:World.cell? (W) ⟨w.heap.size+1,9,none⟩=some (.int .i64 x.z2):=(by subst hW;go_simp)))
  clear hW
  refine(hid _).mono ?_
  rintro e W1 ⟨rfl,n1⟩
  replace hn:=hn.trans n1
  replace kc:=New.keep n1 kc
  (replace g0:=New.keep (n1) g0;replace g1:=New.keep (n1) g1;replace g2:=New.keep (n1) g2;replace g3:=New.keep (n1) g3;replace g4:=New.keep (n1) g4;replace g5:=New.keep (n1) g5;replace g6:=New.keep (n1) g6)
  (replace c0:=New.keep (n1) c0;replace c1:=New.keep (n1) c1;replace c2:=New.keep (n1) c2;replace c3:=New.keep (n1) c3;replace c4:=New.keep (n1) c4;replace c5:=New.keep (n1) c5;replace c6:=New.keep (n1) c6;replace c7:=New.keep (n1) c7;replace c8:=New.keep (n1) c8;replace c9:=New.keep (n1) c9)
  clear n1 hid
  go_wp2_with fail
  refine(k1.out _ _ (ints_at _ [1,x.i,1073741824] _ _ rfl)).mono ?_
  rintro e W2 ⟨rfl,n1⟩
  replace n1:=New.trans ((New.refl _).alloc _) n1
  replace hn:New w W2:=New.trans hn n1
  replace kc:=New.keep n1 kc
  (replace g0:=New.keep (n1) g0;replace g1:=New.keep (n1) g1;replace g2:=New.keep (n1) g2;replace g3:=New.keep (n1) g3;replace g4:=New.keep (n1) g4;replace g5:=New.keep (n1) g5;replace g6:=New.keep (n1) g6)
  (replace c0:=New.keep (n1) c0;replace c1:=New.keep (n1) c1;replace c2:=New.keep (n1) c2;replace c3:=New.keep (n1) c3;replace c4:=New.keep (n1) c4;replace c5:=New.keep (n1) c5;replace c6:=New.keep (n1) c6;replace c7:=New.keep (n1) c7;replace c8:=New.keep (n1) c8;replace c9:=New.keep (n1) c9)
  clear n1 k1
  go_wp2_with fail
  refine(HCH.out _).mono ?_
  rintro e W3 ⟨B,fl,rfl,hl,hall,hg,hat,n1⟩
  have HA:=Lib.hid (l_all W3 B fl.length fl hl hg W3 (New.refl _) hat)
  rw[hall]at HA
  replace hn:=New.trans hn n1
  clear n1 hall hg hat HCH kc hl
  clear c0 c1 c2 c3 c4 c5 c6 c7 c8 c9
  clear g0 g1 g2 g3 g4 g5 g6
  go_wp2_with fail
  refine HA.out.mono ?_
  rintro e W4 ⟨rfl,n1⟩
  replace hn:=New.trans hn n1
  go_wp2_with fail
  go_ret
  exact⟨rfl,hn⟩
end Go.Proofs.YtmhghnbgllaihaaGreatDoor
