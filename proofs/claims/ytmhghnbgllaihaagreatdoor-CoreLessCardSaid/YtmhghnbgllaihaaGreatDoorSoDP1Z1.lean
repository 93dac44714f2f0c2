import Derived.Test.YtmhghnbgllaihaaGreatDoorSoBP1Z1
import Derived.Test.YtmhghnbgllaihaaGreatDoorTriGP1Z1

namespace Go.Proofs.YtmhghnbgllaihaaGreatDoor
open Go.RowKit
set_option linter.unusedVariables false
structure CfgR where
  (cl cb ht ri ru wd dp:Int)
def CfgR.enc (C:CfgR):List Value:=[.int .i64 C.cl,.int .i64 C.cb,.int .i64 C.ht,.int .i64 C.ri,.int .i64 C.ru,.int .i64 C.wd,.int .i64 C.dp]
def CfgR.err (C:CfgR):Int:=checkE C.cl C.cb C.ht C.ri C.ru C.wd C.dp
structure CfgR.fine (C:CfgR):Prop where
  err:C.err=0
  w1:1≤C.wd
  w2:C.wd≤32
  d1:1≤C.dp
  d2:C.dp≤32
theorem CfgR.fine_of {C:CfgR} (h:C.err=0):C.fine:=by
  have h1:=h
  unfold CfgR.err checkE checkB at h1
  split at h1
  · rename_i h2
    simp only[Bool.and_eq_true,decide_eq_true_eq]at h2
    exact⟨h,h2.1.2.1,h2.1.2.2,h2.2.1,h2.2.2⟩
  · cases h1
theorem CfgR.at {C:CfgR} {w:World} {b:Nat} (H:CellsAt w b 0 C.enc) :
    w.cell? ⟨b,0,none⟩=some (.int .i64 C.cl)∧w.cell? ⟨b,1,none⟩=some (.int .i64 C.cb)∧w.cell? ⟨b,2,none⟩=some (.int .i64 C.ht)∧w.cell? ⟨b,3,none⟩=some (.int .i64 C.ri)∧w.cell? ⟨b,4,none⟩=some (.int .i64 C.ru)∧w.cell? ⟨b,5,none⟩=some (.int .i64 C.wd)∧w.cell? ⟨b,6,none⟩=some (.int .i64 C.dp) :=
  ⟨H 0 (by simp[CfgR.enc]),H 1 (by simp[CfgR.enc]),H 2 (by simp[CfgR.enc]),H 3 (by simp[CfgR.enc]),H 4 (by simp[CfgR.enc]),H 5 (by simp[CfgR.enc]),H 6 (by simp[CfgR.enc])⟩
theorem cells_new (w:World) (cs:Array Value) (T:TypeId):CellsAt (w.alloc (.cells cs T)) w.heap.size 0 cs.toList:=fun i hi=>by
  have h1:(w.alloc (.cells cs T)).heap[w.heap.size]? = some (.cells cs T):=heap_new _ _
  rw[Nat.zero_add]
  exact cell_of_heap h1 (by rw[Array.getElem?_eq_getElem (by simpa using hi)];simp)
theorem ints_new (w:World) (l:List Int) (T:TypeId):IntsAt (w.alloc (.cells (l.map (Value.int .i64)).toArray T)) w.heap.size l:=fun j hj=>by
  have:=cells_new w (l.map (Value.int .i64)).toArray T j (by simpa using hj)
  rw[Nat.zero_add]at this
  rw[this]
  simp
theorem TriR.at {x:TriR} {w:World} {b:Nat} (H:CellsAt w b 0 x.enc):w.cell? ⟨b,0,none⟩=some (.int .i64 x.i)∧w.cell? ⟨b,1,none⟩=some (.int .i64 x.x0)∧w.cell? ⟨b,2,none⟩=some (.int .i64 x.y0)∧w.cell? ⟨b,3,none⟩=some (.int .i64 x.z0)∧w.cell? ⟨b,4,none⟩=some (.int .i64 x.x1)∧w.cell? ⟨b,5,none⟩=some (.int .i64 x.y1)∧w.cell? ⟨b,6,none⟩=some (.int .i64 x.z1)∧w.cell? ⟨b,7,none⟩=some (.int .i64 x.x2)∧w.cell? ⟨b,8,none⟩=some (.int .i64 x.y2)∧w.cell? ⟨b,9,none⟩=some (.int .i64 x.z2) :=
  ⟨H 0 (by rw[TriR.enc_len];omega),H 1 (by rw[TriR.enc_len];omega),H 2 (by rw[TriR.enc_len];omega),H 3 (by rw[TriR.enc_len];omega),H 4 (by rw[TriR.enc_len];omega),H 5 (by rw[TriR.enc_len];omega),H 6 (by rw[TriR.enc_len];omega),H 7 (by rw[TriR.enc_len];omega),H 8 (by rw[TriR.enc_len];omega),H 9 (by rw[TriR.enc_len];omega)⟩
theorem BoxR.at {x:BoxR} {w:World} {b:Nat} (H:CellsAt w b 0 x.enc):w.cell? ⟨b,0,none⟩=some (.int .i64 x.i)∧w.cell? ⟨b,1,none⟩=some (.int .i64 x.x0)∧w.cell? ⟨b,2,none⟩=some (.int .i64 x.z0)∧w.cell? ⟨b,3,none⟩=some (.int .i64 x.x1)∧w.cell? ⟨b,4,none⟩=some (.int .i64 x.z1)∧w.cell? ⟨b,5,none⟩=some (.int .i64 x.y0)∧w.cell? ⟨b,6,none⟩=some (.int .i64 x.y1)∧w.cell? ⟨b,7,none⟩=some (.int .i64 x.ar) :=
  ⟨H 0 (by rw[BoxR.enc_len];omega),H 1 (by rw[BoxR.enc_len];omega),H 2 (by rw[BoxR.enc_len];omega),H 3 (by rw[BoxR.enc_len];omega),H 4 (by rw[BoxR.enc_len];omega),H 5 (by rw[BoxR.enc_len];omega),H 6 (by rw[BoxR.enc_len];omega),H 7 (by rw[BoxR.enc_len];omega)⟩
set_option maxHeartbeats 400000 in
theorem b_t1 (C:CfgR) (hC:C.fine) (x:BoxR) (Bc Bx:Nat) (w:World) (hc:CellsAt w Bc 0 C.enc) (hx:CellsAt w Bx 0 x.enc) :
    Calls Tryz.prog 85 #[.pointer (some ⟨Bx,0,none⟩),.pointer (some ⟨Bc,0,none⟩)] w fun e w'=>e=.returned (.bool (ordB [0,x.x0,x.x1,C.wd - 1]))∧New w w':=by
  have w1:=hC.w1
  have w2:=hC.w2
  have d1:=hC.d1
  have d2:=hC.d2
  have c0:w.cell? ⟨Bx,1,none⟩=some (.int .i64 x.x0):=hx 1 (by rw[BoxR.enc_len];omega)
  have c1:w.cell? ⟨Bx,3,none⟩=some (.int .i64 x.x1):=hx 3 (by rw[BoxR.enc_len];omega)
  have c2:w.cell? ⟨Bc,5,none⟩=some (.int .i64 C.wd):=hc 5 (by simp[CfgR.enc])
  clear hc hx hC
  go_enter Tryz.func85,Tryz.ntmps85
  go_wp2_with fail
  refine(l_inOrder _ 4 [0,x.x0,x.x1,C.wd - 1] (by simp) (by simp) _ (ints_new _ _ _)).mono ?_
  rintro e w1 ⟨rfl,n1⟩
  have hn:New w w1:=New.trans ((New.refl w).alloc _) n1
  clear n1
  go_wp2_with fail
  go_ret
  exact⟨rfl,hn⟩
set_option maxHeartbeats 400000 in
theorem b_t2 (C:CfgR) (hC:C.fine) (x:BoxR) (Bc Bx:Nat) (w:World) (hc:CellsAt w Bc 0 C.enc) (hx:CellsAt w Bx 0 x.enc) :
    Calls Tryz.prog 87 #[.pointer (some ⟨Bx,0,none⟩),.pointer (some ⟨Bc,0,none⟩)] w fun e w'=>e=.returned (.bool (ordB [0,x.z0,x.z1,C.dp - 1]))∧New w w':=by
  have w1:=hC.w1
  have w2:=hC.w2
  have d1:=hC.d1
  have d2:=hC.d2
  have c0:w.cell? ⟨Bx,2,none⟩=some (.int .i64 x.z0):=hx 2 (by rw[BoxR.enc_len];omega)
  have c1:w.cell? ⟨Bx,4,none⟩=some (.int .i64 x.z1):=hx 4 (by rw[BoxR.enc_len];omega)
  have c2:w.cell? ⟨Bc,6,none⟩=some (.int .i64 C.dp):=hc 6 (by simp[CfgR.enc])
  clear hc hx hC
  go_enter Tryz.func87,Tryz.ntmps87
  go_wp2_with fail
  refine(l_inOrder _ 4 [0,x.z0,x.z1,C.dp - 1] (by simp) (by simp) _ (ints_new _ _ _)).mono ?_
  rintro e w1 ⟨rfl,n1⟩
  have hn:New w w1:=New.trans ((New.refl w).alloc _) n1
  clear n1
  go_wp2_with fail
  go_ret
  exact⟨rfl,hn⟩
set_option maxHeartbeats 400000 in
theorem b_t3 (C:CfgR) (hC:C.fine) (x:BoxR) (Bc Bx:Nat) (w:World) (hc:CellsAt w Bc 0 C.enc) (hx:CellsAt w Bx 0 x.enc) :
    Calls Tryz.prog 88 #[.pointer (some ⟨Bx,0,none⟩)] w fun e w'=>e=.returned (.bool (ordB [-2048,x.y0,x.y1,2048]))∧New w w':=by
  have w1:=hC.w1
  have w2:=hC.w2
  have d1:=hC.d1
  have d2:=hC.d2
  have c0:w.cell? ⟨Bx,5,none⟩=some (.int .i64 x.y0):=hx 5 (by rw[BoxR.enc_len];omega)
  have c1:w.cell? ⟨Bx,6,none⟩=some (.int .i64 x.y1):=hx 6 (by rw[BoxR.enc_len];omega)
  clear hc hx hC
  go_enter Tryz.func88,Tryz.ntmps88
  go_wp2_with fail
  refine(l_inOrder _ 4 [-2048,x.y0,x.y1,2048] (by simp) (by simp) _ (ints_new _ _ _)).mono ?_
  rintro e w1 ⟨rfl,n1⟩
  have hn:New w w1:=New.trans ((New.refl w).alloc _) n1
  clear n1
  go_wp2_with fail
  go_ret
  exact⟨rfl,hn⟩
set_option maxHeartbeats 400000 in
theorem b_t4 (C:CfgR) (hC:C.fine) (x:BoxR) (Bc Bx:Nat) (w:World) (hc:CellsAt w Bc 0 C.enc) (hx:CellsAt w Bx 0 x.enc) :
    Calls Tryz.prog 89 #[.pointer (some ⟨Bx,0,none⟩)] w fun e w'=>e=.returned (.bool (ordB [0,x.ar,7]))∧New w w':=by
  have w1:=hC.w1
  have w2:=hC.w2
  have d1:=hC.d1
  have d2:=hC.d2
  have c0:w.cell? ⟨Bx,7,none⟩=some (.int .i64 x.ar):=hx 7 (by rw[BoxR.enc_len];omega)
  clear hc hx hC
  go_enter Tryz.func89,Tryz.ntmps89
  go_wp2_with fail
  refine(l_inOrder _ 3 [0,x.ar,7] (by simp) (by simp) _ (ints_new _ _ _)).mono ?_
  rintro e w1 ⟨rfl,n1⟩
  have hn:New w w1:=New.trans ((New.refl w).alloc _) n1
  clear n1
  go_wp2_with fail
  go_ret
  exact⟨rfl,hn⟩
set_option maxHeartbeats 400000 in
theorem h_t3 (C:CfgR) (hC:C.fine) (x:HopR) (Bc Bx:Nat) (w:World) (hc:CellsAt w Bc 0 C.enc) (hx:CellsAt w Bx 0 x.enc) :
    Calls Tryz.prog 97 #[.pointer (some ⟨Bx,0,none⟩)] w fun e w'=>e=.returned (.bool (ordB [1,x.ar,7]))∧New w w':=by
  have w1:=hC.w1
  have w2:=hC.w2
  have d1:=hC.d1
  have d2:=hC.d2
  have c0:w.cell? ⟨Bx,8,none⟩=some (.int .i64 x.ar):=hx 8 (by rw[HopR.enc_len];omega)
  clear hc hx hC
  go_enter Tryz.func97,Tryz.ntmps97
  go_wp2_with fail
  refine(l_inOrder _ 3 [1,x.ar,7] (by simp) (by simp) _ (ints_new _ _ _)).mono ?_
  rintro e w1 ⟨rfl,n1⟩
  have hn:New w w1:=New.trans ((New.refl w).alloc _) n1
  clear n1
  go_wp2_with fail
  go_ret
  exact⟨rfl,hn⟩
set_option maxHeartbeats 400000 in
theorem h_t4 (C:CfgR) (hC:C.fine) (x:HopR) (Bc Bx:Nat) (w:World) (hc:CellsAt w Bc 0 C.enc) (hx:CellsAt w Bx 0 x.enc) :
    Calls Tryz.prog 98 #[.pointer (some ⟨Bx,0,none⟩)] w fun e w'=>e=.returned (.bool (ordB [0,x.co,1048576]))∧New w w':=by
  have w1:=hC.w1
  have w2:=hC.w2
  have d1:=hC.d1
  have d2:=hC.d2
  have c0:w.cell? ⟨Bx,9,none⟩=some (.int .i64 x.co):=hx 9 (by rw[HopR.enc_len];omega)
  clear hc hx hC
  go_enter Tryz.func98,Tryz.ntmps98
  go_wp2_with fail
  refine(l_inOrder _ 3 [0,x.co,1048576] (by simp) (by simp) _ (ints_new _ _ _)).mono ?_
  rintro e w1 ⟨rfl,n1⟩
  have hn:New w w1:=New.trans ((New.refl w).alloc _) n1
  clear n1
  go_wp2_with fail
  go_ret
  exact⟨rfl,hn⟩
end Go.Proofs.YtmhghnbgllaihaaGreatDoor

namespace Go.Proofs.YtmhghnbgllaihaaGreatDoor
open Go.RowKit
set_option linter.unusedVariables false
theorem ints_at (w:World) (l:List Int) (T:TypeId) (b:Nat) (hb:w.heap.size=b):IntsAt (w.alloc (.cells (l.map (Value.int .i64)).toArray T)) b l:=by subst hb;exact ints_new w l T
def spotB (C:CfgR) (x z y:Int):Bool:=ordB [0,x,C.wd - 1]&&ordB [0,z,C.dp - 1]&&ordB [-2048,y,2048]
set_option maxHeartbeats 2000000 in
set_option maxRecDepth 100000 in
theorem s_inWorld (C:CfgR) (hC:C.fine) (x z y:Int) (w:World) :
    Calls Tryz.prog 95 #[.agg #[.int .i64 C.cl,.int .i64 C.cb,.int .i64 C.ht,.int .i64 C.ri,.int .i64 C.ru,.int .i64 C.wd,.int .i64 C.dp],.agg #[.int .i64 x,.int .i64 z,.int .i64 y]] w fun e w'=>e=.returned (.bool (spotB C x z y))∧New w w':=by
  have w1:=hC.w1
  have w2:=hC.w2
  have d1:=hC.d1
  have d2:=hC.d2
  obtain⟨v,hv⟩:∃ v,v=spotB C x z y:=⟨_,rfl⟩
  rw[←hv]
  unfold spotB at hv
  cases h1:ordB [0,x,C.wd - 1]
  · have HV:Hid (v=false):=by show v=false;rw[hv,h1];rfl
    clear hv
    have k1:=Lib.hid (fun b W (H:IntsAt W b [0,x,C.wd - 1])=>by have q:=l_inOrder b 3 [0,x,C.wd - 1] (by simp) (by simp) W H;rw[h1]at q;exact q:∀ b W,IntsAt W b [0,x,C.wd - 1]→Calls Tryz.prog 86 #[.slice (some ⟨b,0,none⟩) 3 3] W fun e w'=>e=.returned (.bool false)∧New W w')
    clear h1 hC
    go_enter Tryz.func95,Tryz.ntmps95
    go_wp2_with fail
    refine(k1.out _ _ (ints_at _ [0,x,C.wd - 1] _ _ (by simp))).mono ?_
    rintro e W1 ⟨rfl,n1⟩
    have hn:New w W1:=New.trans (by exact nw) n1
    clear n1 k1
    go_wp2_with fail
    go_ret
    exact⟨retBo HV.out.symm,hn⟩
  · have k1:=Lib.hid (fun b W (H:IntsAt W b [0,x,C.wd - 1])=>by have q:=l_inOrder b 3 [0,x,C.wd - 1] (by simp) (by simp) W H;rw[h1]at q;exact q:∀ b W,IntsAt W b [0,x,C.wd - 1]→Calls Tryz.prog 86 #[.slice (some ⟨b,0,none⟩) 3 3] W fun e w'=>e=.returned (.bool true)∧New W w')
    rw[h1,Bool.true_and]at hv
    cases h2:ordB [0,z,C.dp - 1]
    · have HV:Hid (v=false):=by show v=false;rw[hv,h2];rfl
      clear hv
      have k2:=Lib.hid (fun b W (H:IntsAt W b [0,z,C.dp - 1])=>by have q:=l_inOrder b 3 [0,z,C.dp - 1] (by simp) (by simp) W H;rw[h2]at q;exact q:∀ b W,IntsAt W b [0,z,C.dp - 1]→Calls Tryz.prog 86 #[.slice (some ⟨b,0,none⟩) 3 3] W fun e w'=>e=.returned (.bool false)∧New W w')
      clear h1 h2 hC
      go_enter Tryz.func95,Tryz.ntmps95
      go_wp2_with fail
      refine(k1.out _ _ (ints_at _ [0,x,C.wd - 1] _ _ (by simp))).mono ?_
      rintro e W1 ⟨rfl,n1⟩
      have e1:W1.cell? ⟨w.heap.size,6,none⟩=some (.int .i64 C.dp):=New.keep n1 (by go_simp)
      have e2:W1.cell? ⟨w.heap.size+1,1,none⟩=some (.int .i64 z):=New.keep n1 (by go_simp)
      have hn:New w W1:=New.trans (by exact nw) n1
      clear n1 k1
      go_wp2_with fail
      refine(k2.out _ _ (ints_at _ [0,z,C.dp - 1] _ _ rfl)).mono ?_
      rintro e W2 ⟨rfl,n2⟩
      replace hn:New w W2:=New.trans (hn.alloc _) n2
      clear n2 k2
      go_wp2_with fail
      go_ret
      exact⟨retBo HV.out.symm,hn⟩
    · have k2:=Lib.hid (fun b W (H:IntsAt W b [0,z,C.dp - 1])=>by have q:=l_inOrder b 3 [0,z,C.dp - 1] (by simp) (by simp) W H;rw[h2]at q;exact q:∀ b W,IntsAt W b [0,z,C.dp - 1]→Calls Tryz.prog 86 #[.slice (some ⟨b,0,none⟩) 3 3] W fun e w'=>e=.returned (.bool true)∧New W w')
      rw[h2,Bool.true_and]at hv
      have HV:=Lib.hid hv
      have k3:=Lib.hid (fun b W (H:IntsAt W b [-2048,y,2048])=>l_inOrder b 3 [-2048,y,2048] (by simp) (by simp) W H:∀ b W,IntsAt W b [-2048,y,2048]→Calls Tryz.prog 86 #[.slice (some ⟨b,0,none⟩) 3 3] W fun e w'=>e=.returned (.bool (ordB [-2048,y,2048]))∧New W w')
      rw[←hv]at k3
      clear hv h1 h2 hC
      go_enter Tryz.func95,Tryz.ntmps95
      go_wp2_with fail
      refine(k1.out _ _ (ints_at _ [0,x,C.wd - 1] _ _ (by simp))).mono ?_
      rintro e W1 ⟨rfl,n1⟩
      have e1:W1.cell? ⟨w.heap.size,6,none⟩=some (.int .i64 C.dp):=New.keep n1 (by go_simp)
      have e2:W1.cell? ⟨w.heap.size+1,1,none⟩=some (.int .i64 z):=New.keep n1 (by go_simp)
      have e3:W1.cell? ⟨w.heap.size+1,2,none⟩=some (.int .i64 y):=New.keep n1 (by go_simp)
      have hn:New w W1:=New.trans (by exact nw) n1
      clear n1 k1
      go_wp2_with fail
      refine(k2.out _ _ (ints_at _ [0,z,C.dp - 1] _ _ rfl)).mono ?_
      rintro e W2 ⟨rfl,n2⟩
      replace e3:W2.cell? ⟨w.heap.size+1,2,none⟩=some (.int .i64 y):=New.keep (New.trans ((New.refl _).alloc _) n2) e3
      replace hn:New w W2:=New.trans (hn.alloc _) n2
      clear n2 k2 e1 e2
      go_wp2_with fail
      refine(k3.out _ _ (ints_at _ [-2048,y,2048] _ _ rfl)).mono ?_
      rintro e W3 ⟨rfl,n3⟩
      replace hn:New w W3:=New.trans (hn.alloc _) n3
      clear n3 k3
      go_wp2_with fail
      go_ret
      exact⟨rfl,hn⟩
set_option maxHeartbeats 400000 in
theorem h_t1 (C:CfgR) (hC:C.fine) (x:HopR) (Bc Bx:Nat) (w:World) (hc:CellsAt w Bc 0 C.enc) (hx:CellsAt w Bx 0 x.enc) :
    Calls Tryz.prog 94 #[.pointer (some ⟨Bc,0,none⟩),.pointer (some ⟨Bx,0,none⟩)] w fun e w'=>e=.returned (.bool (spotB C x.fx x.fz x.fy))∧New w w':=by
  obtain⟨c0,c1,c2,c3,c4,c5,c6⟩:=CfgR.at hc
  have x0:w.cell? ⟨Bx,1,none⟩=some (.int .i64 x.fx):=hx 1 (by rw[HopR.enc_len];omega)
  have x1:w.cell? ⟨Bx,2,none⟩=some (.int .i64 x.fz):=hx 2 (by rw[HopR.enc_len];omega)
  have x2:w.cell? ⟨Bx,3,none⟩=some (.int .i64 x.fy):=hx 3 (by rw[HopR.enc_len];omega)
  have k:=Lib.hid (s_inWorld C hC x.fx x.fz x.fy w)
  clear hc hx hC
  generalize spotB C x.fx x.fz x.fy=v at *
  go_enter Tryz.func94,Tryz.ntmps94
  go_wp2_with fail
  refine k.out.mono ?_
  rintro e W1 ⟨rfl,n1⟩
  go_wp2_with fail
  go_ret
  exact⟨rfl,n1⟩
set_option maxHeartbeats 400000 in
theorem h_t2 (C:CfgR) (hC:C.fine) (x:HopR) (Bc Bx:Nat) (w:World) (hc:CellsAt w Bc 0 C.enc) (hx:CellsAt w Bx 0 x.enc) :
    Calls Tryz.prog 96 #[.pointer (some ⟨Bc,0,none⟩),.pointer (some ⟨Bx,0,none⟩)] w fun e w'=>e=.returned (.bool (spotB C x.tx x.tz x.ty))∧New w w':=by
  obtain⟨c0,c1,c2,c3,c4,c5,c6⟩:=CfgR.at hc
  have x0:w.cell? ⟨Bx,4,none⟩=some (.int .i64 x.tx):=hx 4 (by rw[HopR.enc_len];omega)
  have x1:w.cell? ⟨Bx,5,none⟩=some (.int .i64 x.tz):=hx 5 (by rw[HopR.enc_len];omega)
  have x2:w.cell? ⟨Bx,6,none⟩=some (.int .i64 x.ty):=hx 6 (by rw[HopR.enc_len];omega)
  have k:=Lib.hid (s_inWorld C hC x.tx x.tz x.ty w)
  clear hc hx hC
  generalize spotB C x.tx x.tz x.ty=v at *
  go_enter Tryz.func96,Tryz.ntmps96
  go_wp2_with fail
  refine k.out.mono ?_
  rintro e W1 ⟨rfl,n1⟩
  go_wp2_with fail
  go_ret
  exact⟨rfl,n1⟩
set_option maxHeartbeats 400000 in
theorem t_t1 (C:CfgR) (x:TriR) (Bc Bx:Nat) (w:World) (hc:CellsAt w Bc 0 C.enc) (hx:CellsAt w Bx 0 x.enc) :
    Calls Tryz.prog 79 #[.pointer (some ⟨Bc,0,none⟩),.pointer (some ⟨Bx,0,none⟩)] w fun e w'=>e=.returned (.bool (tCheckE C.cl C.cb C.ht C.ri C.ru C.wd C.dp x.i x.x0 x.y0 x.z0 x.x1 x.y1 x.z1 x.x2 x.y2 x.z2==0))∧New w w':=by
  obtain⟨c0,c1,c2,c3,c4,c5,c6⟩:=CfgR.at hc
  obtain⟨x0,x1,x2,x3,x4,x5,x6,x7,x8,x9⟩:=TriR.at hx
  have k:=Lib.hid (t_check C.cl C.cb C.ht C.ri C.ru C.wd C.dp x.i x.x0 x.y0 x.z0 x.x1 x.y1 x.z1 x.x2 x.y2 x.z2 w)
  clear hc hx
  generalize tCheckE C.cl C.cb C.ht C.ri C.ru C.wd C.dp x.i x.x0 x.y0 x.z0 x.x1 x.y1 x.z1 x.x2 x.y2 x.z2=v at *
  go_enter Tryz.func79,Tryz.ntmps79
  go_wp2_with fail
  refine k.out.mono ?_
  rintro e W1 ⟨rfl,n1⟩
  go_wp2_with fail
  go_ret
  exact⟨rfl,n1⟩
def TriR.tests (C:CfgR) (x:TriR):Bool:=(tCheckE C.cl C.cb C.ht C.ri C.ru C.wd C.dp x.i x.x0 x.y0 x.z0 x.x1 x.y1 x.z1 x.x2 x.y2 x.z2==0)
def BoxR.tests (C:CfgR) (x:BoxR):Bool:=ordB [0,x.x0,x.x1,C.wd - 1]&&ordB [0,x.z0,x.z1,C.dp - 1]&&ordB [-2048,x.y0,x.y1,2048]&&ordB [0,x.ar,7]
def HopR.tests (C:CfgR) (x:HopR):Bool:=spotB C x.fx x.fz x.fy&&spotB C x.tx x.tz x.ty&&ordB [1,x.ar,7]&&ordB [0,x.co,1048576]
def TestPost (v:Bool) (w:World) (e:Ending) (w':World):Prop :=
  ∃ (b:Nat) (l:List Fn),e=.returned (.slice (some ⟨b,0,none⟩) l.length l.length)∧l.length≤100∧l.all (·.b)=v∧(∀ j (h:j<l.length),Good w' l[j])∧FnAt w' b l∧New w w'
theorem fns_at (w:World) (l:List Fn) (T:TypeId) (b:Nat) (hb:w.heap.size=b):FnAt (w.alloc (.cells (l.map fun f=>Value.func (.func f.g) #[] f.bnd).toArray T)) b l:=fun j hj=>by
  subst hb
  have:=cells_new w (l.map fun f=>Value.func (.func f.g) #[] f.bnd).toArray T j (by simpa using hj)
  rw[Nat.zero_add]at this
  rw[this]
  simp
set_option maxHeartbeats 1000000 in
theorem TriR.checks (C:CfgR) (hC:C.fine) (x:TriR) (w:World) :
    Calls Tryz.prog 78 #[.agg #[.int .i64 C.cl,.int .i64 C.cb,.int .i64 C.ht,.int .i64 C.ri,.int .i64 C.ru,.int .i64 C.wd,.int .i64 C.dp],.agg #[.int .i64 x.i,.int .i64 x.x0,.int .i64 x.y0,.int .i64 x.z0,.int .i64 x.x1,.int .i64 x.y1,.int .i64 x.z1,.int .i64 x.x2,.int .i64 x.y2,.int .i64 x.z2]] w (TestPost (x.tests C) w):=by
  go_enter Tryz.func78,Tryz.ntmps78
  go_wp2_with fail
  go_ret
  refine⟨_,[⟨79,#[.pointer (some ⟨w.heap.size,0,none⟩),.pointer (some ⟨w.heap.size+1,0,none⟩)],x.tests C⟩],rfl,by simp,by simp,?_,fns_at _ _ _ _ (by simp),by exact nw⟩
  intro j hj
  have hj0:j=0:=by simpa using hj
  subst hj0
  refine⟨enters_of Tryz.func79 (by kernel_rfl) rfl,fun W hW=>t_t1 C x w.heap.size (w.heap.size+1) W ?_ ?_⟩
  · exact((cells_new w C.enc.toArray _).keep (((New.refl _).alloc _).alloc _)).keep hW
  · have:=cells_new (w.alloc (.cells C.enc.toArray 23)) x.enc.toArray 64
    rw[World.size_alloc]at this
    exact(this.keep ((New.refl _).alloc _)).keep hW
set_option maxHeartbeats 1000000 in
theorem BoxR.checks (C:CfgR) (hC:C.fine) (x:BoxR) (w:World) :
    Calls Tryz.prog 84 #[.agg #[.int .i64 C.cl,.int .i64 C.cb,.int .i64 C.ht,.int .i64 C.ri,.int .i64 C.ru,.int .i64 C.wd,.int .i64 C.dp],.agg #[.int .i64 x.i,.int .i64 x.x0,.int .i64 x.z0,.int .i64 x.x1,.int .i64 x.z1,.int .i64 x.y0,.int .i64 x.y1,.int .i64 x.ar]] w (TestPost (x.tests C) w):=by
  go_enter Tryz.func84,Tryz.ntmps84
  go_wp2_with fail
  go_ret
  refine⟨_,[⟨85,#[.pointer (some ⟨w.heap.size+1,0,none⟩),.pointer (some ⟨w.heap.size,0,none⟩)],ordB [0,x.x0,x.x1,C.wd - 1]⟩,⟨87,#[.pointer (some ⟨w.heap.size+1,0,none⟩),.pointer (some ⟨w.heap.size,0,none⟩)],ordB [0,x.z0,x.z1,C.dp - 1]⟩,
    ⟨88,#[.pointer (some ⟨w.heap.size+1,0,none⟩)],ordB [-2048,x.y0,x.y1,2048]⟩,⟨89,#[.pointer (some ⟨w.heap.size+1,0,none⟩)],ordB [0,x.ar,7]⟩],rfl,by simp,by simp[BoxR.tests,Bool.and_assoc],?_,fns_at _ _ _ _ (by simp),by exact nw⟩
  intro j hj
  have hj0:j=0∨j=1∨j=2∨j=3:=by simp at hj;omega
  have hc:∀ ob W,New ((((w.alloc (.cells C.enc.toArray 23)).alloc (.cells x.enc.toArray 66))).alloc ob) W→CellsAt W w.heap.size 0 C.enc:=fun ob W hW=>((cells_new w C.enc.toArray _).keep (((New.refl _).alloc _).alloc _)).keep hW
  have hx:∀ ob W,New ((((w.alloc (.cells C.enc.toArray 23)).alloc (.cells x.enc.toArray 66))).alloc ob) W→CellsAt W (w.heap.size+1) 0 x.enc:=fun ob W hW=>by
    have:=cells_new (w.alloc (.cells C.enc.toArray 23)) x.enc.toArray 66
    rw[World.size_alloc]at this
    exact(this.keep ((New.refl _).alloc _)).keep hW
  rcases hj0 with rfl|rfl|rfl|rfl
  · exact⟨enters_of Tryz.func85 (by kernel_rfl) rfl,fun W hW=>b_t1 C hC x w.heap.size (w.heap.size+1) W (hc _ W hW) (hx _ W hW)⟩
  · exact⟨enters_of Tryz.func87 (by kernel_rfl) rfl,fun W hW=>b_t2 C hC x w.heap.size (w.heap.size+1) W (hc _ W hW) (hx _ W hW)⟩
  · exact⟨enters_of Tryz.func88 (by kernel_rfl) rfl,fun W hW=>b_t3 C hC x w.heap.size (w.heap.size+1) W (hc _ W hW) (hx _ W hW)⟩
  · exact⟨enters_of Tryz.func89 (by kernel_rfl) rfl,fun W hW=>b_t4 C hC x w.heap.size (w.heap.size+1) W (hc _ W hW) (hx _ W hW)⟩
set_option maxHeartbeats 1000000 in
theorem HopR.checks (C:CfgR) (hC:C.fine) (x:HopR) (w:World) :
    Calls Tryz.prog 93 #[.agg #[.int .i64 C.cl,.int .i64 C.cb,.int .i64 C.ht,.int .i64 C.ri,.int .i64 C.ru,.int .i64 C.wd,.int .i64 C.dp],.agg #[.int .i64 x.i,.int .i64 x.fx,.int .i64 x.fz,.int .i64 x.fy,.int .i64 x.tx,.int .i64 x.tz,.int .i64 x.ty,.bool x.bo,.int .i64 x.ar,.int .i64 x.co]] w (TestPost (x.tests C) w):=by
  go_enter Tryz.func93,Tryz.ntmps93
  go_wp2_with fail
  go_ret
  refine⟨_,[⟨94,#[.pointer (some ⟨w.heap.size,0,none⟩),.pointer (some ⟨w.heap.size+1,0,none⟩)],spotB C x.fx x.fz x.fy⟩,⟨96,#[.pointer (some ⟨w.heap.size,0,none⟩),.pointer (some ⟨w.heap.size+1,0,none⟩)],spotB C x.tx x.tz x.ty⟩,
    ⟨97,#[.pointer (some ⟨w.heap.size+1,0,none⟩)],ordB [1,x.ar,7]⟩,⟨98,#[.pointer (some ⟨w.heap.size+1,0,none⟩)],ordB [0,x.co,1048576]⟩],rfl,by simp,by simp[HopR.tests,Bool.and_assoc],?_,fns_at _ _ _ _ (by simp),by exact nw⟩
  intro j hj
  have hj0:j=0∨j=1∨j=2∨j=3:=by simp at hj;omega
  have hc:∀ ob W,New ((((w.alloc (.cells C.enc.toArray 23)).alloc (.cells x.enc.toArray 95))).alloc ob) W→CellsAt W w.heap.size 0 C.enc:=fun ob W hW=>((cells_new w C.enc.toArray _).keep (((New.refl _).alloc _).alloc _)).keep hW
  have hx:∀ ob W,New ((((w.alloc (.cells C.enc.toArray 23)).alloc (.cells x.enc.toArray 95))).alloc ob) W→CellsAt W (w.heap.size+1) 0 x.enc:=fun ob W hW=>by
    have:=cells_new (w.alloc (.cells C.enc.toArray 23)) x.enc.toArray 95
    rw[World.size_alloc]at this
    exact(this.keep ((New.refl _).alloc _)).keep hW
  rcases hj0 with rfl|rfl|rfl|rfl
  · exact⟨enters_of Tryz.func94 (by kernel_rfl) rfl,fun W hW=>h_t1 C hC x w.heap.size (w.heap.size+1) W (hc _ W hW) (hx _ W hW)⟩
  · exact⟨enters_of Tryz.func96 (by kernel_rfl) rfl,fun W hW=>h_t2 C hC x w.heap.size (w.heap.size+1) W (hc _ W hW) (hx _ W hW)⟩
  · exact⟨enters_of Tryz.func97 (by kernel_rfl) rfl,fun W hW=>h_t3 C hC x w.heap.size (w.heap.size+1) W (hc _ W hW) (hx _ W hW)⟩
  · exact⟨enters_of Tryz.func98 (by kernel_rfl) rfl,fun W hW=>h_t4 C hC x w.heap.size (w.heap.size+1) W (hc _ W hW) (hx _ W hW)⟩
end Go.Proofs.YtmhghnbgllaihaaGreatDoor
