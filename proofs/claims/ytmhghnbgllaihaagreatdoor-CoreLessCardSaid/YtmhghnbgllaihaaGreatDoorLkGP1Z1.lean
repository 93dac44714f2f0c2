import Derived.Test.YtmhghnbgllaihaaGreatDoorOgCP1Z1
import Derived.Test.YtmhghnbgllaihaaGreatDoorSoSP1Z1
import Derived.Test.YtmhghnbgllaihaaGreatDoorStoBP1Z1
import Derived.Test.YtmhghnbgllaihaaGreatDoorSoDP1Z1
import Derived.Test.YtmhghnbgllaihaaGreatDoorOgIP1Z1
import Derived.Test.YtmhghnbgllaihaaGreatDoorWholeMP1Z1
import Derived.Test.YtmhghnbgllaihaaGreatDoorSoLSP1Z1
import Derived.Test.YtmhghnbgllaihaaGreatDoorWholeIP1Z1
import Derived.Deep.LoopGhost

namespace Go.Proofs.YtmhghnbgllaihaaGreatDoor
open Go.RowKit
set_option linter.unusedVariables false
set_option maxHeartbeats 1000000 in
theorem lk_within (n lo hi:Int) (w:World):Calls Tryz.prog 240 #[.int .i64 n,.int .i64 lo,.int .i64 hi] w fun e w'=>e=.returned (.bool (wiB n lo hi))∧w=w':=by
  unfold wiB
  by_cases h:lo≤n
  · rw[decide_eq_true h]
    go_enter Tryz.func240,Tryz.ntmps240
    go_wp2_with fail
    go_ret
    exact⟨rfl,rfl⟩
  · rw[decide_eq_false h]
    go_enter Tryz.func240,Tryz.ntmps240
    go_wp2_with fail
    go_ret
    exact⟨rfl,rfl⟩
def stV (d:Int):Value:=.tuple #[.int .i64 (dxD d),.int .i64 (dzD d),.bool (okD d)]
set_option maxHeartbeats 4000000 in
theorem lk_Step (d:Int) (w:World) (hD:Dirs w):Calls Tryz.prog 212 #[.int .i64 d] w fun e w'=>e=.returned (stV d)∧New w w':=by
  have KW:=lk_within d 0 3
  obtain⟨c0,c1,c2,c3,c4,c5,c6,c7⟩:=hD
  cases hk:okD d
  · have hv:stV d=.tuple #[.int .i64 0,.int .i64 0,.bool false]:=by unfold stV;rw[hk,(okD_off hk).1,(okD_off hk).2]
    rw[hv]
    unfold okD at hk
    rw[hk]at KW
    clear hv hk
    go_enter Tryz.func212,Tryz.ntmps212
    go_wp2_with fail
    refine(KW _).mono ?_
    rintro e w2 ⟨rfl,rfl⟩
    go_wp2_with fail
    refine bodyPost_ret (v:=.tuple #[.int .i64 0,.int .i64 0,.bool false]) (by simp[results,Tryz.results212,go_sem, *]) rfl ?_
    exact⟨rfl,by exact nw⟩
  · have hk2:=hk
    unfold okD at hk2
    rw[hk2]at KW
    clear hk2
    rcases okD_cases hk with rfl|rfl|rfl|rfl
    · clear hk
      go_enter Tryz.func212,Tryz.ntmps212
      go_wp2_with fail
      refine(KW _).mono ?_
      rintro e w2 ⟨rfl,rfl⟩
      go_wp2_with fail
      refine Code.at (fun W hW=>?_)
      have n0:New w W:=by subst hW;exact nw
      have b0:W.cell? ⟨w.heap.size,0,none⟩=some (.int .i64 1):=by subst hW;go_simp
      have b1:W.cell? ⟨w.heap.size,1,none⟩=some (.int .i64 0):=by subst hW;go_simp
      clear hW
      (refine wp_region_hat (by kernel_rfl) (by kernel_rfl) ?_;intro hatc hatf;(repeat(go_big_quiet_step ((fail))));refine wpQuiet_nil ?_;rintro _ ⟨q,rfl⟩)
      go_wp2_with fail
      refine bodyPost_ret (v:=.tuple #[.int .i64 1,.int .i64 0,.bool true]) (by simp[results,Tryz.results212,go_sem, *]) rfl ?_
      exact⟨by rfl,n0.trans q.h⟩
    · clear hk
      go_enter Tryz.func212,Tryz.ntmps212
      go_wp2_with fail
      refine(KW _).mono ?_
      rintro e w2 ⟨rfl,rfl⟩
      go_wp2_with fail
      refine Code.at (fun W hW=>?_)
      have n0:New w W:=by subst hW;exact nw
      have b0:W.cell? ⟨w.heap.size,0,none⟩=some (.int .i64 0):=by subst hW;go_simp
      have b1:W.cell? ⟨w.heap.size,1,none⟩=some (.int .i64 1):=by subst hW;go_simp
      clear hW
      (refine wp_region_hat (by kernel_rfl) (by kernel_rfl) ?_;intro hatc hatf;(repeat(go_big_quiet_step ((fail))));refine wpQuiet_nil ?_;rintro _ ⟨q,rfl⟩)
      go_wp2_with fail
      refine bodyPost_ret (v:=.tuple #[.int .i64 0,.int .i64 1,.bool true]) (by simp[results,Tryz.results212,go_sem, *]) rfl ?_
      exact⟨by rfl,n0.trans q.h⟩
    · clear hk
      go_enter Tryz.func212,Tryz.ntmps212
      go_wp2_with fail
      refine(KW _).mono ?_
      rintro e w2 ⟨rfl,rfl⟩
      go_wp2_with fail
      refine Code.at (fun W hW=>?_)
      have n0:New w W:=by subst hW;exact nw
      have b0:W.cell? ⟨w.heap.size,0,none⟩=some (.int .i64 (-1)):=by subst hW;go_simp
      have b1:W.cell? ⟨w.heap.size,1,none⟩=some (.int .i64 0):=by subst hW;go_simp
      clear hW
      (refine wp_region_hat (by kernel_rfl) (by kernel_rfl) ?_;intro hatc hatf;(repeat(go_big_quiet_step ((fail))));refine wpQuiet_nil ?_;rintro _ ⟨q,rfl⟩)
      go_wp2_with fail
      refine bodyPost_ret (v:=.tuple #[.int .i64 (-1),.int .i64 0,.bool true]) (by simp[results,Tryz.results212,go_sem, *]) rfl ?_
      exact⟨by rfl,n0.trans q.h⟩
    · clear hk
      go_enter Tryz.func212,Tryz.ntmps212
      go_wp2_with fail
      refine(KW _).mono ?_
      rintro e w2 ⟨rfl,rfl⟩
      go_wp2_with fail
      refine Code.at (fun W hW=>?_)
      have n0:New w W:=by subst hW;exact nw
      have b0:W.cell? ⟨w.heap.size,0,none⟩=some (.int .i64 0):=by subst hW;go_simp
      have b1:W.cell? ⟨w.heap.size,1,none⟩=some (.int .i64 (-1)):=by subst hW;go_simp
      clear hW
      (refine wp_region_hat (by kernel_rfl) (by kernel_rfl) ?_;intro hatc hatf;(repeat(go_big_quiet_step ((fail))));refine wpQuiet_nil ?_;rintro _ ⟨q,rfl⟩)
      go_wp2_with fail
      refine bodyPost_ret (v:=.tuple #[.int .i64 0,.int .i64 (-1),.bool true]) (by simp[results,Tryz.results212,go_sem, *]) rfl ?_
      exact⟨by rfl,n0.trans q.h⟩
end Go.Proofs.YtmhghnbgllaihaaGreatDoor

namespace Go.Proofs.YtmhghnbgllaihaaGreatDoor
open Go.ChangeShapes Go.WideShapes Go.ChangeAt Go.RowKit
abbrev laidBoth:List (String×DataW Unit):=[("footpath/links.directions",Rows.laid_footpath_links_directions),("footpath/bins.nowhere",Rows.laid_footpath_bins_nowhere)]
theorem door_met_bo (os:Os) (args:Array Value):laidMetH Tryz.prog laidBoth ((World.doorLaid Tryz.prog 400 os).forCall (fun _ _=>0) ⟨#[],args,[]⟩).memory :=
  laidMetH_of_parts3 (fuel:=8) (laidMet_of_run' 8 (by kernel_rfl) (by kernel_rfl)) (by kernel_rfl) (by kernel_rfl)
structure Laid2 (w:World):Prop where
  d:Dirs w
  n:Nowhere w
theorem of_laid_bo {W:World} (h:laidMetH Tryz.prog laidBoth W):Laid2 W:=by
  rw[MakeChecks.laidMetH_plain _ _ _ (by kernel_rfl)]at h
  obtain⟨ps,h1,h2,h3⟩:=h
  obtain⟨g,t,cs,fuel,p,q,a1,a2,a3,a4,a5,rfl⟩:=h1
  refine⟨of_laid_di ?_,of_laid ?_⟩
  · rw[MakeChecks.laidMetH_plain _ _ _ (by kernel_rfl)]
    refine⟨MemPlace.row ⟨g,0,none⟩ cs.size++p++[],⟨g,t,cs,fuel,p,[],a1,a2,a3,a4,rfl,rfl⟩,?_,fun b off hb=>h3 b off ?_⟩
    · rw[List.append_nil]
      exact(List.nodup_append.1 h2).1
    · rw[List.append_nil]at hb
      exact List.mem_append_left _ hb
  · rw[MakeChecks.laidMetH_plain _ _ _ (by kernel_rfl)]
    exact⟨q,a5,(List.nodup_append.1 h2).2.1,fun b off hb=>h3 b off (List.mem_append_right _ hb)⟩
end Go.Proofs.YtmhghnbgllaihaaGreatDoor

namespace Go.Proofs.YtmhghnbgllaihaaGreatDoor
open Go.ChangeShapes Go.WideShapes Go.RowKit Go.Deep
set_option linter.unusedVariables false
set_option maxRecDepth 100000 in
theorem open_cfg13 {H:Type} {enc:TypeId×Value→H} {w:World} {base:Nat} {spare:Nat→Bool} {held:Bool} {r:Reach} {b0:Nat} {v:Value} {d:DataW H} {p:List MemPlace} (hv:Value.okWide Tryz.prog w r b0 23 v) (h:DataW.Trod enc Tryz.prog w base spare held 23 v d p):∃ C:CfgR,v=.agg #[.int .i64 C.cl,.int .i64 C.cb,.int .i64 C.ht,.int .i64 C.ri,.int .i64 C.ru,.int .i64 C.wd,.int .i64 C.dp]:=by
  obtain⟨cs,rfl,hc⟩:=open_flat Tryz.underlying23 64 (ks:=[.num .i64,.num .i64,.num .i64,.num .i64,.num .i64,.num .i64,.num .i64]) (by kernel_rfl) hv h
  obtain⟨cl,cb,ht,ri,ru,wd,dp,rfl⟩:=fits7 hc
  exact⟨⟨cl,cb,ht,ri,ru,wd,dp⟩,rfl⟩
end Go.Proofs.YtmhghnbgllaihaaGreatDoor

namespace Go.Proofs.YtmhghnbgllaihaaGreatDoor
open Go.RowKit
theorem fits10 {k:IntKind} {cs:Array Value} (h:Fits [.num k,.num k,.num k,.num k,.num k,.num k,.num k,.num k,.num k,.num k] cs.toList) :
    ∃ i x0 y0 z0 x1 y1 z1 x2 y2 z2:Int,cs=#[.int k i,.int k x0,.int k y0,.int k z0,.int k x1,.int k y1,.int k z1,.int k x2,.int k y2,.int k z2]:=by
  obtain⟨l⟩:=cs
  obtain⟨_,_,e1,⟨a,rfl,_⟩,h⟩:=h.cons
  obtain⟨_,_,e2,⟨b,rfl,_⟩,h⟩:=h.cons
  obtain⟨_,_,e3,⟨c,rfl,_⟩,h⟩:=h.cons
  obtain⟨_,_,e4,⟨d,rfl,_⟩,h⟩:=h.cons
  obtain⟨_,_,e5,⟨e,rfl,_⟩,h⟩:=h.cons
  obtain⟨_,_,e6,⟨f,rfl,_⟩,h⟩:=h.cons
  obtain⟨_,_,e7,⟨g,rfl,_⟩,h⟩:=h.cons
  obtain⟨_,_,e8,⟨m,rfl,_⟩,h⟩:=h.cons
  obtain⟨_,_,e9,⟨n,rfl,_⟩,h⟩:=h.cons
  obtain⟨_,_,e10,⟨o,rfl,_⟩,h⟩:=h.cons
  have e11:=h.nil
  subst e11 e10 e9 e8 e7 e6 e5 e4 e3 e2
  exact⟨a,b,c,d,e,f,g,m,n,o,by rw[show l=_ from e1]⟩
end Go.Proofs.YtmhghnbgllaihaaGreatDoor

namespace Go.Proofs.YtmhghnbgllaihaaGreatDoor
open Go.ChangeShapes Go.WideShapes Go.RowKit Go.Deep
set_option linter.unusedVariables false
theorem tri_of (vs:List Value) (h:Fits [.num .i64,.num .i64,.num .i64,.num .i64,.num .i64,.num .i64,.num .i64,.num .i64,.num .i64,.num .i64] vs):∃ a:TriR,a.enc=vs:=by
  obtain⟨a0,a1,a2,a3,a4,a5,a6,a7,a8,a9,e⟩:=fits10 (cs:=vs.toArray) (by simpa using h)
  exact⟨⟨a0,a1,a2,a3,a4,a5,a6,a7,a8,a9⟩,by have:=congrArg Array.toList e;simpa [TriR.enc]using this.symm⟩
theorem box_of (vs:List Value) (h:Fits [.num .i64,.num .i64,.num .i64,.num .i64,.num .i64,.num .i64,.num .i64,.num .i64] vs):∃ a:BoxR,a.enc=vs:=by
  obtain⟨_,_,e0,⟨a0,rfl,_⟩,h0⟩:=h.cons
  obtain⟨_,_,e1,⟨a1,rfl,_⟩,h1⟩:=h0.cons
  obtain⟨_,_,e2,⟨a2,rfl,_⟩,h2⟩:=h1.cons
  obtain⟨_,_,e3,⟨a3,rfl,_⟩,h3⟩:=h2.cons
  obtain⟨_,_,e4,⟨a4,rfl,_⟩,h4⟩:=h3.cons
  obtain⟨_,_,e5,⟨a5,rfl,_⟩,h5⟩:=h4.cons
  obtain⟨_,_,e6,⟨a6,rfl,_⟩,h6⟩:=h5.cons
  obtain⟨_,_,e7,⟨a7,rfl,_⟩,h7⟩:=h6.cons
  have en:=h7.nil
  subst en
  subst e7
  subst e6
  subst e5
  subst e4
  subst e3
  subst e2
  subst e1
  subst e0
  exact⟨⟨a0,a1,a2,a3,a4,a5,a6,a7⟩,rfl⟩
theorem hop_of (vs:List Value) (h:Fits [.num .i64,.num .i64,.num .i64,.num .i64,.num .i64,.num .i64,.num .i64,.yes,.num .i64,.num .i64] vs):∃ a:HopR,a.enc=vs:=by
  obtain⟨_,_,e0,⟨a0,rfl,_⟩,h0⟩:=h.cons
  obtain⟨_,_,e1,⟨a1,rfl,_⟩,h1⟩:=h0.cons
  obtain⟨_,_,e2,⟨a2,rfl,_⟩,h2⟩:=h1.cons
  obtain⟨_,_,e3,⟨a3,rfl,_⟩,h3⟩:=h2.cons
  obtain⟨_,_,e4,⟨a4,rfl,_⟩,h4⟩:=h3.cons
  obtain⟨_,_,e5,⟨a5,rfl,_⟩,h5⟩:=h4.cons
  obtain⟨_,_,e6,⟨a6,rfl,_⟩,h6⟩:=h5.cons
  obtain⟨_,_,e7,⟨a7,rfl⟩,h7⟩:=h6.cons
  obtain⟨_,_,e8,⟨a8,rfl,_⟩,h8⟩:=h7.cons
  obtain⟨_,_,e9,⟨a9,rfl,_⟩,h9⟩:=h8.cons
  have en:=h9.nil
  subst en
  subst e9
  subst e8
  subst e7
  subst e6
  subst e5
  subst e4
  subst e3
  subst e2
  subst e1
  subst e0
  exact⟨⟨a0,a1,a2,a3,a4,a5,a6,a7,a8,a9⟩,rfl⟩
set_option maxRecDepth 100000 in
set_option maxHeartbeats 1000000 in
theorem open_soup {H:Type} {enc:TypeId×Value→H} {w:World} {base:Nat} {spare:Nat→Bool} {held:Bool} {r:Reach} {b0:Nat} {v:Value} {d:DataW H} {p:List MemPlace}
    (hv:Value.okWide Tryz.prog w r b0 28 v) (h:DataW.Trod enc Tryz.prog w base spare held 28 v d p):∃ S:SoupV,v=.agg #[.slice S.a0 S.ts.length S.c0,.slice S.a1 S.bs.length S.c1,.slice S.a2 S.hs.length S.c2]∧S.ok w:=by
  obtain⟨cs,rfl,_⟩:=okWide_struct Tryz.underlying28 hv
  obtain⟨fuel,hf⟩:=h
  obtain⟨xs,m',_,_,hlen,hxs,hi⟩:=DataW.trod_struct Tryz.underlying28 hf
  have hx3:xs.length=3:=hxs
  have h0:=hi 0 _ rfl
  have h1:=hi 1 _ rfl
  have h2:=hi 2 _ rfl
  rw[List.getElem?_eq_getElem (by omega)]at h0 h1 h2
  obtain⟨v0,ts,e0,s0⟩:=open_row TriR.enc 10 TriR.enc_len (by omega) Tryz.underlying24 (by kernel_rfl) (by kernel_rfl) tri_of h0
  obtain⟨v1,bs,e1,s1⟩:=open_row BoxR.enc 8 BoxR.enc_len (by omega) Tryz.underlying25 (by kernel_rfl) (by kernel_rfl) box_of h1
  obtain⟨v2,hs,e2,s2⟩:=open_row HopR.enc 10 HopR.enc_len (by omega) Tryz.underlying26 (by kernel_rfl) (by kernel_rfl) hop_of h2
  have c0:Tryz.prog.cellsOf 24=1:=by kernel_rfl
  have c1:Tryz.prog.cellsOf 25=1:=by kernel_rfl
  have c2:Tryz.prog.cellsOf 26=1:=by kernel_rfl
  have c3:Tryz.prog.cellsOf 28=3:=by kernel_rfl
  have hl:cs.toList.length=3:=by rw[←c3];exact hlen
  have f0:(cs.toList.drop 0).take 1=[v0]:=by rw[←c0];exact e0
  have f1:(cs.toList.drop 1).take 1=[v1]:=by rw[←c1];exact e1
  have f2:(cs.toList.drop 2).take 1=[v2]:=by rw[←c2];exact e2
  obtain⟨l⟩:=cs
  simp only at hl f0 f1 f2
  match l,hl with
  | [x,y,z],_ =>
    simp at f0 f1 f2
    subst f0 f1 f2
    obtain⟨a0,c0,rfl,q0⟩:=id s0
    obtain⟨a1,c1,rfl,q1⟩:=id s1
    obtain⟨a2,c2,rfl,q2⟩:=id s2
    exact⟨⟨ts,bs,hs,a0,a1,a2,c0,c1,c2⟩,rfl,s0,s1,s2⟩
end Go.Proofs.YtmhghnbgllaihaaGreatDoor

namespace Go.Proofs.YtmhghnbgllaihaaGreatDoor
open Go.RowKit
set_option linter.unusedVariables false
theorem lkB_far {C:CfgR} {a b:Fl} (h:¬ (farB a.y=true∧farB a.top=true∧farB b.y=true∧farB b.top=true)):lkB C a b=false:=by
  cases q:lkB C a b
  · rfl
  · exfalso
    unfold lkB at q
    simp only[Bool.and_eq_true]at q
    exact h ⟨q.1.1,q.1.2.1,q.1.2.2.1,q.1.2.2.2⟩
theorem lkB_near {C:CfgR} {a b:Fl} (h1:farB a.y=true) (h2:farB a.top=true) (h3:farB b.y=true) (h4:farB b.top=true):lkB C a b=(decide (0<a.area)&&(decide (0<b.area)&&(decide (max a.y b.y - min a.y b.y≤C.cb)&&decide (C.ht≤min a.top b.top - max a.y b.y)))):=by
  unfold lkB
  rw[h1,h2,h3,h4]
  rfl
set_option maxHeartbeats 8000000 in
set_option maxRecDepth 100000 in
theorem lk_linked (C:CfgR) (a b:Fl) (w:World):Calls Tryz.prog 214 #[.agg #[.int .i64 C.cl,.int .i64 C.cb,.int .i64 C.ht,.int .i64 C.ri,.int .i64 C.ru,.int .i64 C.wd,.int .i64 C.dp],.agg #[.int .i64 a.y,.int .i64 a.top,.int .i64 a.area],.agg #[.int .i64 b.y,.int .i64 b.top,.int .i64 b.area]] w fun e w'=>e=.returned (.bool (lkB C a b))∧New w w':=by
  have KW:=Lib.hid (fun n (W:World)=>lk_within n (-1099511627776) 1099511627776 W)
  have K1:=fun W=>KW.out a.y W
  have K2:=fun W=>KW.out a.top W
  have K3:=fun W=>KW.out b.y W
  have K4:=fun W=>KW.out b.top W
  have HF:=Lib.hid (lkB_far (C:=C) (a:=a) (b:=b))
  have HN:=Lib.hid (lkB_near (C:=C) (a:=a) (b:=b))
  obtain⟨r,hr⟩:∃ r,r=lkB C a b:=⟨_,rfl⟩
  rw[←hr]at HF HN ⊢
  have HR:Hid (r=lkB C a b):=Lib.hid hr
  clear hr KW
  have i0:∀ w,(Instr.index 184 (.agg #[.int .i64 a.y,.int .i64 a.top,.int .i64 b.y,.int .i64 b.top]) (.int .i64 0)).run Tryz.prog w=.ok (.int .i64 a.y) w:=fun _=>by kernel_rfl
  have i1:∀ w,(Instr.index 184 (.agg #[.int .i64 a.y,.int .i64 a.top,.int .i64 b.y,.int .i64 b.top]) (.int .i64 1)).run Tryz.prog w=.ok (.int .i64 a.top) w:=fun _=>by kernel_rfl
  have i2:∀ w,(Instr.index 184 (.agg #[.int .i64 a.y,.int .i64 a.top,.int .i64 b.y,.int .i64 b.top]) (.int .i64 2)).run Tryz.prog w=.ok (.int .i64 b.y) w:=fun _=>by kernel_rfl
  have i3:∀ w,(Instr.index 184 (.agg #[.int .i64 a.y,.int .i64 a.top,.int .i64 b.y,.int .i64 b.top]) (.int .i64 3)).run Tryz.prog w=.ok (.int .i64 b.top) w:=fun _=>by kernel_rfl
  cases h1:farB a.y
  · have HE:Hid (r=false):=Lib.hid (HF.out (fun q=>by rw[h1]at q;simp at q))
    unfold farB at h1
    rw[h1]at K1
    clear h1
    go_enter Tryz.func214,Tryz.ntmps214
    go_wp2_with fail
    refine wp_loop_rounds 5 ?_
    rw[rounds_succ]
    go_wp2_with fail
    refine(K1 _).mono ?_
    rintro e w2 ⟨rfl,rfl⟩
    go_wp2_with fail
    go_ret
    exact⟨by rw[HE.out];rfl,by exact nw⟩
  cases h2:farB a.top
  · have HE:Hid (r=false):=Lib.hid (HF.out (fun q=>by rw[h2]at q;simp at q))
    unfold farB at h1
    rw[h1]at K1
    clear h1
    unfold farB at h2
    rw[h2]at K2
    clear h2
    go_enter Tryz.func214,Tryz.ntmps214
    go_wp2_with fail
    refine wp_loop_rounds 5 ?_
    rw[rounds_succ]
    go_wp2_with fail
    refine(K1 _).mono ?_
    rintro e w2 ⟨rfl,rfl⟩
    go_wp2_with fail
    rw[rounds_succ]
    go_wp2_with fail
    refine(K2 _).mono ?_
    rintro e w3 ⟨rfl,rfl⟩
    go_wp2_with fail
    go_ret
    exact⟨by rw[HE.out];rfl,by exact nw⟩
  cases h3:farB b.y
  · have HE:Hid (r=false):=Lib.hid (HF.out (fun q=>by rw[h3]at q;simp at q))
    unfold farB at h1
    rw[h1]at K1
    clear h1
    unfold farB at h2
    rw[h2]at K2
    clear h2
    unfold farB at h3
    rw[h3]at K3
    clear h3
    go_enter Tryz.func214,Tryz.ntmps214
    go_wp2_with fail
    refine wp_loop_rounds 5 ?_
    rw[rounds_succ]
    go_wp2_with fail
    refine(K1 _).mono ?_
    rintro e w2 ⟨rfl,rfl⟩
    go_wp2_with fail
    rw[rounds_succ]
    go_wp2_with fail
    refine(K2 _).mono ?_
    rintro e w3 ⟨rfl,rfl⟩
    go_wp2_with fail
    rw[rounds_succ]
    go_wp2_with fail
    refine(K3 _).mono ?_
    rintro e w4 ⟨rfl,rfl⟩
    go_wp2_with fail
    go_ret
    exact⟨by rw[HE.out];rfl,by exact nw⟩
  cases h4:farB b.top
  · have HE:Hid (r=false):=Lib.hid (HF.out (fun q=>by rw[h4]at q;simp at q))
    unfold farB at h1
    rw[h1]at K1
    clear h1
    unfold farB at h2
    rw[h2]at K2
    clear h2
    unfold farB at h3
    rw[h3]at K3
    clear h3
    unfold farB at h4
    rw[h4]at K4
    clear h4
    go_enter Tryz.func214,Tryz.ntmps214
    go_wp2_with fail
    refine wp_loop_rounds 5 ?_
    rw[rounds_succ]
    go_wp2_with fail
    refine(K1 _).mono ?_
    rintro e w2 ⟨rfl,rfl⟩
    go_wp2_with fail
    rw[rounds_succ]
    go_wp2_with fail
    refine(K2 _).mono ?_
    rintro e w3 ⟨rfl,rfl⟩
    go_wp2_with fail
    rw[rounds_succ]
    go_wp2_with fail
    refine(K3 _).mono ?_
    rintro e w4 ⟨rfl,rfl⟩
    go_wp2_with fail
    rw[rounds_succ]
    go_wp2_with fail
    refine(K4 _).mono ?_
    rintro e w5 ⟨rfl,rfl⟩
    go_wp2_with fail
    go_ret
    exact⟨by rw[HE.out];rfl,by exact nw⟩
  have hN:=HN.out h1 h2 h3 h4
  have f1:=wiB_iff.1 (show wiB a.y _ _=true from h1)
  have f2:=wiB_iff.1 (show wiB a.top _ _=true from h2)
  have f3:=wiB_iff.1 (show wiB b.y _ _=true from h3)
  have f4:=wiB_iff.1 (show wiB b.top _ _=true from h4)
  unfold farB at h1
  rw[h1]at K1
  clear h1
  unfold farB at h2
  rw[h2]at K2
  clear h2
  unfold farB at h3
  rw[h3]at K3
  clear h3
  unfold farB at h4
  rw[h4]at K4
  clear h4
  have hs1:IntKind.i64.wrap (max a.y b.y - min a.y b.y)=max a.y b.y - min a.y b.y:=IntWalk.i64_in _ (by omega)
  have hs2:IntKind.i64.wrap (min a.top b.top - max a.y b.y)=min a.top b.top - max a.y b.y:=IntWalk.i64_in _ (by omega)
  clear f1 f2 f3 f4
  have HN2:=Lib.hid hN
  clear hN HN HF HR
  go_enter Tryz.func214,Tryz.ntmps214
  go_wp2_with fail
  refine wp_loop_rounds 5 ?_
  rw[rounds_succ]
  go_wp2_with fail
  refine(K1 _).mono ?_
  rintro e w2 ⟨rfl,rfl⟩
  go_wp2_with fail
  rw[rounds_succ]
  go_wp2_with fail
  refine(K2 _).mono ?_
  rintro e w3 ⟨rfl,rfl⟩
  go_wp2_with fail
  rw[rounds_succ]
  go_wp2_with fail
  refine(K3 _).mono ?_
  rintro e w4 ⟨rfl,rfl⟩
  go_wp2_with fail
  rw[rounds_succ]
  go_wp2_with fail
  refine(K4 _).mono ?_
  rintro e w5 ⟨rfl,rfl⟩
  go_wp2_with fail
  rw[rounds_succ]
  go_wp2_with fail
  refine Code.at (fun W hW=>?_)
  have n0:New w W:=by subst hW;exact nw
  have c1:W.cell? ⟨w.heap.size,1,none⟩=some (.int .i64 C.cb):=by subst hW;go_simp
  have c2:W.cell? ⟨w.heap.size,2,none⟩=some (.int .i64 C.ht):=by subst hW;go_simp
  have a0:W.cell? ⟨w.heap.size+1,0,none⟩=some (.int .i64 a.y):=by subst hW;go_simp
  have a1:W.cell? ⟨w.heap.size+1,1,none⟩=some (.int .i64 a.top):=by subst hW;go_simp
  have a2:W.cell? ⟨w.heap.size+1,2,none⟩=some (.int .i64 a.area):=by subst hW;go_simp
  have b0:W.cell? ⟨w.heap.size+1+1,0,none⟩=some (.int .i64 b.y):=by subst hW;go_simp
  have b1:W.cell? ⟨w.heap.size+1+1,1,none⟩=some (.int .i64 b.top):=by subst hW;go_simp
  have b2:W.cell? ⟨w.heap.size+1+1,2,none⟩=some (.int .i64 b.area):=by subst hW;go_simp
  clear hW i0 i1 i2 i3 K1 K2 K3 K4
  (refine wp_region_hat (by kernel_rfl) (by kernel_rfl) ?_;intro hatc hatf;(repeat(go_big_quiet_step ((fail))));refine wpQuiet_nil ?_;rintro _ ⟨q,rfl⟩)
  go_wp2_with fail
  all_goals
    go_ret
    refine⟨?_,n0.trans q.h⟩
    rw[HN2.out]
    first|(simp[*];done)|(simp[*];omega)
end Go.Proofs.YtmhghnbgllaihaaGreatDoor

namespace Go.Proofs.YtmhghnbgllaihaaGreatDoor
open Go.RowKit
set_option linter.unusedVariables false
set_option maxHeartbeats 4000000 in
set_option maxRecDepth 100000 in
theorem lk_column (C:CfgR) (G:Gd) (hE:gE G=0) (x z:Int) (w0 w:World) (hn0:New w0 w) (h:G.ok w0):Calls Tryz.prog 213 #[.agg #[.int .i64 C.cl,.int .i64 C.cb,.int .i64 C.ht,.int .i64 C.ri,.int .i64 C.ru,.int .i64 C.wd,.int .i64 C.dp,.int .i64 G.x,.int .i64 G.z,.int .i64 G.w,.int .i64 G.d,.slice G.ga G.L.length G.gc],.int .i64 x,.int .i64 z] w fun e w'=>∃ v,e=.returned v∧Sl Fl.enc 3 w0 v (atG G x z)∧New w w':=by
  have KW:=Lib.hid (fun n lo hi W=>lk_within n lo hi W)
  have HH:Hid (RowsK Fl.enc 3 w0 (.slice G.ga G.L.length G.gc) G.L):=Lib.hid h
  have hb:=placeB_iff.1 (gd_is hE).1
  have K1:=fun W=>KW.out x G.x (G.x+G.w - 1) W
  have K2:=fun W=>KW.out z G.z (G.z+G.d - 1) W
  have hxa:IntKind.i64.wrap (G.x+G.w)=G.x+G.w:=IntWalk.i64_in _ (by omega)
  have hxb:IntKind.i64.wrap (G.x+G.w - 1)=G.x+G.w - 1:=IntWalk.i64_in _ (by omega)
  have hza:IntKind.i64.wrap (G.z+G.d)=G.z+G.d:=IntWalk.i64_in _ (by omega)
  have hzb:IntKind.i64.wrap (G.z+G.d - 1)=G.z+G.d - 1:=IntWalk.i64_in _ (by omega)
  have hin:inG G x z=(wiB x G.x (G.x+G.w - 1)&&wiB z G.z (G.z+G.d - 1)):=rfl
  have HI:=Lib.hid (fun q=>(ixG_is hE (x:=x) (z:=z) q:_))
  have HQ:=Lib.hid (fun q=>(inG_iff (G:=G) (x:=x) (z:=z)).1 q)
  have HB:=Lib.hid hb
  obtain⟨n,hn⟩:∃ n,n=G.L.length:=⟨_,rfl⟩
  rw[←hn]at HH ⊢
  have HN:=Lib.hid hn
  obtain⟨ga,hga⟩:∃ q,q=G.ga:=⟨_,rfl⟩
  rw[←hga]at HH ⊢
  clear hn h KW hb hga
  cases h1:wiB x G.x (G.x+G.w - 1)
  · have HO:Hid (atG G x z=[]):=Lib.hid (atG_out (by rw[hin,h1];rfl))
    rw[h1]at K1
    clear hin h1
    go_enter Tryz.func213,Tryz.ntmps213
    go_wp2_with fail
    refine(K1 _).mono ?_
    rintro e w2 ⟨rfl,rfl⟩
    go_wp2_with fail
    go_ret
    exact⟨_,rfl,by rw[HO.out];exact Sl.nil,by exact nw⟩
  cases h2:wiB z G.z (G.z+G.d - 1)
  · have HO:Hid (atG G x z=[]):=Lib.hid (atG_out (by rw[hin,h1,h2];rfl))
    rw[h1]at K1
    rw[h2]at K2
    clear hin h1 h2
    go_enter Tryz.func213,Tryz.ntmps213
    go_wp2_with fail
    refine(K1 _).mono ?_
    rintro e w2 ⟨rfl,rfl⟩
    go_wp2_with fail
    refine(K2 _).mono ?_
    rintro e w2 ⟨rfl,rfl⟩
    go_wp2_with fail
    go_ret
    exact⟨_,rfl,by rw[HO.out];exact Sl.nil,by exact nw⟩
  have hq:inG G x z=true:=by rw[hin,h1,h2];rfl
  have HO:=Lib.hid (atG_in hE hq)
  rw[h1]at K1
  rw[h2]at K2
  clear hin h1 h2
  obtain⟨i1,i2,i3,i4⟩:=HI.out hq
  have hr:=HQ.out hq
  have hb:=HB.out
  have hs1:IntKind.i64.wrap (z - G.z)=z - G.z:=IntWalk.i64_in _ (by omega)
  have hs2:IntKind.i64.wrap ((z - G.z)*G.w)=(z - G.z)*G.w:=IntWalk.i64_in _ (by omega)
  have hs3:IntKind.i64.wrap ((z - G.z)*G.w+x)=(z - G.z)*G.w+x:=IntWalk.i64_in _ (by omega)
  have hs4:IntKind.i64.wrap ((z - G.z)*G.w+x - G.x)=(ixG G x z:Int):=by rw[IntWalk.i64_in _ (by omega)];omega
  obtain⟨b,off,a,c,rfl,hc,hs⟩:=HH.out.at (ixG G x z) i4
  have hkn:ixG G x z<n:=by rw[HN.out];exact i4
  have hO:=HO.out
  obtain⟨l,hl⟩:∃ l,l=G.L[ixG G x z]:=⟨_,rfl⟩
  rw[←hl]at hc hs hO
  have HS:=Lib.hid hs
  replace hc:=hn0.keep hc
  have hbz:b<w.heap.size:=World.block_lt_of_cell? _ _ hc
  have HO2:=Lib.hid hO
  obtain⟨m,hm⟩:∃ m,m=l.length:=⟨_,rfl⟩
  rw[←hm]at hc HS
  clear hl hs hO HO HI HQ HB i1 i2 i3 i4 hr hb hq HH hm
  generalize ixG G x z=k at *
  go_enter Tryz.func213,Tryz.ntmps213
  go_wp2_with fail
  refine(K1 _).mono ?_
  rintro e w2 ⟨rfl,rfl⟩
  go_wp2_with fail
  refine(K2 _).mono ?_
  rintro e w2 ⟨rfl,rfl⟩
  go_wp2_with fail
  go_ret
  exact⟨_,rfl,by rw[HO2.out];exact HS.out,by exact nw⟩
def flO (o:Option Fl):Fl:=o.getD Fl.zero
theorem at_len {G:Gd} (hE:gE G=0) (x z:Int):(atG G x z).length≤8:=atG_len hE x z
set_option maxHeartbeats 4000000 in
set_option maxRecDepth 100000 in
theorem lk_floor (C:CfgR) (G:Gd) (hE:gE G=0) (s:Sdk) (w0 w:World) (hn0:New w0 w) (h:G.ok w0):Calls Tryz.prog 211 #[.agg #[.int .i64 C.cl,.int .i64 C.cb,.int .i64 C.ht,.int .i64 C.ri,.int .i64 C.ru,.int .i64 C.wd,.int .i64 C.dp,.int .i64 G.x,.int .i64 G.z,.int .i64 G.w,.int .i64 G.d,.slice G.ga G.L.length G.gc],.agg #[.int .i64 s.x,.int .i64 s.z,.int .i64 s.k]] w fun e w'=>e=.returned (.tuple #[.agg #[.int .i64 (flO (flG G s)).y,.int .i64 (flO (flG G s)).top,.int .i64 (flO (flG G s)).area],.bool (flG G s).isSome])∧New w w':=by
  have KC:=Lib.hid (fun W (q:New w W)=>lk_column C G hE s.x s.z w0 W (hn0.trans q) h)
  have KW:=Lib.hid (fun n hi (W:World)=>lk_within n 0 hi W)
  have hl8:=at_len hE s.x s.z
  obtain⟨o,ho⟩:∃ o,o=flG G s:=⟨_,rfl⟩
  have HN:=Lib.hid (fun q=>flG_none (G:=G) (s:=s) q)
  have HS:=Lib.hid (fun(k:Nat) (e:s.k=k) q=>flG_some (G:=G) e q)
  rw[←ho]at HN HS ⊢
  clear ho
  obtain⟨n,hn⟩:∃ n,n=G.L.length:=⟨_,rfl⟩
  rw[←hn]at KC ⊢
  clear hn h
  generalize atG G s.x s.z=l at *
  obtain⟨m,hm⟩:∃ m,m=l.length:=⟨_,rfl⟩
  have HM:=Lib.hid hm
  rw[←hm]at hl8
  have hw1:IntKind.i64.wrap ((m:Int) - 1)=m - 1:=IntWalk.i64_in _ (by omega)
  have KW1:=Lib.hid (fun W=>KW.out s.k (m - 1) W)
  clear hm
  go_enter Tryz.func211,Tryz.ntmps211
  go_wp2_with fail
  refine Calls.at (fun W hW=>?_)
  have n0:New w W:=by subst hW;exact nw
  have s0:W.cell? ⟨w.heap.size+1,0,none⟩=some (.int .i64 s.x):=by subst hW;go_simp
  have s1:W.cell? ⟨w.heap.size+1,1,none⟩=some (.int .i64 s.z):=by subst hW;go_simp
  have s2:W.cell? ⟨w.heap.size+1,2,none⟩=some (.int .i64 s.k):=by subst hW;go_simp
  have z0:W.cell? ⟨w.heap.size+1+1,0,none⟩=some (.int .i64 0):=by subst hW;go_simp
  have z1:W.cell? ⟨w.heap.size+1+1,1,none⟩=some (.int .i64 0):=by subst hW;go_simp
  have z2:W.cell? ⟨w.heap.size+1+1,2,none⟩=some (.int .i64 0):=by subst hW;go_simp
  have f0:W.frozen? ⟨w.heap.size+1+1,0,none⟩=false:=by subst hW;go_simp
  have f1:W.frozen? ⟨w.heap.size+1+1,1,none⟩=false:=by subst hW;go_simp
  have f2:W.frozen? ⟨w.heap.size+1+1,2,none⟩=false:=by subst hW;go_simp
  clear hW
  refine(KC.out _ n0).mono ?_
  rintro e w1 ⟨v,rfl,hs,n1⟩
  replace s0:=n1.keep s0
  replace s1:=n1.keep s1
  replace s2:=n1.keep s2
  replace f0:=n1.keepF z0 f0
  replace f1:=n1.keepF z1 f1
  replace f2:=n1.keepF z2 f2
  replace z0:=n1.keep z0
  replace z1:=n1.keep z1
  replace z2:=n1.keep z2
  have N1:=n0.trans n1
  obtain⟨a,c,rfl,-,-,-,hr⟩:=hs
  have HRW:=Lib.hid hr
  clear hr n0 n1 KC
  rw[←HM.out]
  go_wp2_with fail
  refine(KW1.out _).mono ?_
  rintro e w2 ⟨rfl,rfl⟩
  cases hk:wiB s.k 0 (m - 1)
  · have hb:=wiB_not.1 hk
    have HO:=Lib.hid (HN.out (by rw[←HM.out];omega))
    clear hk hb HN HS
    go_wp2_with fail
    generalize hW5:World.setCell _ _ _=W5
    have n5:New w W5:=by subst hW5;exact nw
    have k0:W5.cell? ⟨w.heap.size+1+1,0,none⟩=some (.int .i64 0):=by subst hW5;go_simp
    have k1:W5.cell? ⟨w.heap.size+1+1,1,none⟩=some (.int .i64 0):=by subst hW5;go_simp
    have k2:W5.cell? ⟨w.heap.size+1+1,2,none⟩=some (.int .i64 0):=by subst hW5;go_simp
    clear hW5 z0 z1 z2 f0 f1 f2
    refine bodyPost_ret (v:=.tuple #[.agg #[.int .i64 0,.int .i64 0,.int .i64 0],.bool false]) (by simp[results,Tryz.results211,go_sem, *]) rfl ?_
    rw[HO.out]
    exact⟨rfl,n5⟩
  · have hb:=wiB_iff.1 hk
    obtain⟨k,hkk⟩:∃ k:Nat,s.k=k:=⟨s.k.toNat,by omega⟩
    have hkm:k<m:=by omega
    have hkl:k<l.length:=by rw[←HM.out];exact hkm
    have HO:=Lib.hid (HS.out k hkk hkl)
    obtain⟨b,off,rfl,hA⟩:=HRW.out (by omega)
    obtain⟨c0,c1,c2⟩:=Fl.cells (hA.keep (hn0.trans N1)) k hkl
    obtain⟨f,hf⟩:∃ f,f=l[k]:=⟨_,rfl⟩
    rw[←hf]at c0 c1 c2
    have HF:Hid (o=some f):=Lib.hid (by rw[HO.out,hf])
    rw[hkk]at s2
    clear hk hb HN HS HO hA hf HRW
    go_wp2_with fail
    generalize hW5:World.setCell _ _ _=W5
    have n5:New w W5:=by subst hW5;exact nw
    have k0:W5.cell? ⟨w.heap.size+1+1,0,none⟩=some (.int .i64 f.y):=by subst hW5;go_simp
    have k1:W5.cell? ⟨w.heap.size+1+1,1,none⟩=some (.int .i64 f.top):=by subst hW5;go_simp
    have k2:W5.cell? ⟨w.heap.size+1+1,2,none⟩=some (.int .i64 f.area):=by subst hW5;go_simp
    clear hW5 z0 z1 z2 f0 f1 f2
    refine bodyPost_ret (v:=.tuple #[.agg #[.int .i64 f.y,.int .i64 f.top,.int .i64 f.area],.bool true]) (by simp[results,Tryz.results211,go_sem, *]) rfl ?_
    rw[HF.out]
    exact⟨rfl,n5⟩
end Go.Proofs.YtmhghnbgllaihaaGreatDoor

namespace Go.Proofs.YtmhghnbgllaihaaGreatDoor
open Go.RowKit
set_option linter.unusedVariables false
structure OnAt (C:CfgR) (G:Gd) (n:Nat) (W:World) (B:Nat):Prop where
  c0:W.cell? ⟨B,0,none⟩=some (.int .i64 C.cl)
  c1:W.cell? ⟨B,1,none⟩=some (.int .i64 C.cb)
  c2:W.cell? ⟨B,2,none⟩=some (.int .i64 C.ht)
  c3:W.cell? ⟨B,3,none⟩=some (.int .i64 C.ri)
  c4:W.cell? ⟨B,4,none⟩=some (.int .i64 C.ru)
  c5:W.cell? ⟨B,5,none⟩=some (.int .i64 C.wd)
  c6:W.cell? ⟨B,6,none⟩=some (.int .i64 C.dp)
  g0:W.cell? ⟨B,7,none⟩=some (.int .i64 G.x)
  g1:W.cell? ⟨B,8,none⟩=some (.int .i64 G.z)
  g2:W.cell? ⟨B,9,none⟩=some (.int .i64 G.w)
  g3:W.cell? ⟨B,10,none⟩=some (.int .i64 G.d)
  g4:W.cell? ⟨B,11,none⟩=some (.slice G.ga n G.gc)
theorem OnAt.new {C:CfgR} {G:Gd} {n:Nat} {W W':World} {B:Nat} (h:OnAt C G n W B) (q:New W W'):OnAt C G n W' B :=
  ⟨q.keep h.c0,q.keep h.c1,q.keep h.c2,q.keep h.c3,q.keep h.c4,q.keep h.c5,q.keep h.c6,q.keep h.g0,q.keep h.g1,q.keep h.g2,q.keep h.g3,q.keep h.g4⟩
structure SdAt (s:Sdk) (W:World) (B:Nat):Prop where
  c0:W.cell? ⟨B,0,none⟩=some (.int .i64 s.x)
  c1:W.cell? ⟨B,1,none⟩=some (.int .i64 s.z)
  c2:W.cell? ⟨B,2,none⟩=some (.int .i64 s.k)
theorem SdAt.new {s:Sdk} {W W':World} {B:Nat} (h:SdAt s W B) (q:New W W'):SdAt s W' B:=⟨q.keep h.c0,q.keep h.c1,q.keep h.c2⟩
structure FlAt (s:Fl) (W:World) (B:Nat):Prop where
  c0:W.cell? ⟨B,0,none⟩=some (.int .i64 s.y)
  c1:W.cell? ⟨B,1,none⟩=some (.int .i64 s.top)
  c2:W.cell? ⟨B,2,none⟩=some (.int .i64 s.area)
theorem FlAt.new {s:Fl} {W W':World} {B:Nat} (h:FlAt s W B) (q:New W W'):FlAt s W' B:=⟨q.keep h.c0,q.keep h.c1,q.keep h.c2⟩
structure Res3 (W:World) (B:Nat):Prop where
  c0:W.cell? ⟨B,0,none⟩=some (.int .i64 0)
  c1:W.cell? ⟨B,1,none⟩=some (.int .i64 0)
  c2:W.cell? ⟨B,2,none⟩=some (.int .i64 0)
  f0:W.frozen? ⟨B,0,none⟩=false
  f1:W.frozen? ⟨B,1,none⟩=false
  f2:W.frozen? ⟨B,2,none⟩=false
theorem Res3.new {W W':World} {B:Nat} (h:Res3 W B) (q:New W W'):Res3 W' B:=⟨q.keep h.c0,q.keep h.c1,q.keep h.c2,q.keepF h.c0 h.f0,q.keepF h.c1 h.f1,q.keepF h.c2 h.f2⟩
set_option maxHeartbeats 8000000 in
set_option maxRecDepth 100000 in
theorem lk_to (C:CfgR) (G:Gd) (hE:gE G=0) (s:Sdk) (d:Int) (w0 w:World) (hn0:New w0 w) (h:G.ok w0) (hD:Dirs w):Calls Tryz.prog 179 #[.agg #[.int .i64 C.cl,.int .i64 C.cb,.int .i64 C.ht,.int .i64 C.ri,.int .i64 C.ru,.int .i64 C.wd,.int .i64 C.dp,.int .i64 G.x,.int .i64 G.z,.int .i64 G.w,.int .i64 G.d,.slice G.ga G.L.length G.gc],.agg #[.int .i64 s.x,.int .i64 s.z,.int .i64 s.k],.int .i64 d] w fun e w'=>e=.returned (.tuple #[.agg #[.int .i64 (sdO (toS C G s d)).x,.int .i64 (sdO (toS C G s d)).z,.int .i64 (sdO (toS C G s d)).k],.bool (toS C G s d).isSome])∧New w w':=by
  have KF:=Lib.hid (fun W (q:New w W)=>lk_floor C G hE s w0 W (hn0.trans q) h)
  have KC:=Lib.hid (fun x z W (q:New w W)=>lk_column C G hE x z w0 W (hn0.trans q) h)
  have KS:=Lib.hid (fun W (q:New w W)=>lk_Step d W (hD.new q))
  have KL:=Lib.hid (fun a b W=>lk_linked C a b W)
  have hl8:=at_len hE (s.x+dxD d) (s.z+dzD d)
  obtain⟨r,hr⟩:∃ r,r=toS C G s d:=⟨_,rfl⟩
  have R1:Hid (flG G s=none→r=none):=Lib.hid (fun q=>by rw[hr,toS_floor q])
  have R2:Hid (okD d=false→r=none):=Lib.hid (fun q=>by rw[hr,toS_dir q])
  obtain⟨l,hl⟩:∃ l,l=atG G (s.x+dxD d) (s.z+dzD d):=⟨_,rfl⟩
  have R3:Hid (∀ a,flG G s=some a→okD d=true→∀ i (hi:i<l.length),lkB C a l[i]=true→(∀ j (hj:j<l.length),j<i→lkB C a l[j]=false)→r=some ⟨s.x+dxD d,s.z+dzD d,i⟩):=Lib.hid (fun a q1 q2 i hi q3 q4=>by rw[hr,toS_hit q1 q2 hl hi q3 q4])
  have R4:Hid (∀ a,flG G s=some a→okD d=true→(∀ j (hj:j<l.length),lkB C a l[j]=false)→r=none):=Lib.hid (fun a q1 q2 q3=>by rw[hr,toS_miss q1 q2 hl q3])
  have RI:Hid (∀ a,flG G s=some a → -100≤s.x∧s.x≤200 ∧ -100≤s.z∧s.z≤200):=Lib.hid (fun a q=>by
    have h1:=inG_iff.1 (flG_in q)
    have h2:=placeB_iff.1 (gd_is hE).1
    omega)
  rw[←hr]
  rw[←hl]at hl8
  have KC2:=Lib.hid (fun W (q:New w W)=>by
    have:=KC.out (s.x+dxD d) (s.z+dzD d) W q
    rw[←hl]at this
    exact this)
  have hdx:=dxD_small d
  have hdz:=dzD_small d
  obtain⟨n,hn⟩:∃ n,n=G.L.length:=⟨_,rfl⟩
  rw[←hn]at KF KC2 ⊢
  clear hr hl hn h hD KC hE
  unfold stV at KS
  obtain⟨dx,hdx1⟩:∃ x,x=dxD d:=⟨_,rfl⟩
  obtain⟨dz,hdz1⟩:∃ x,x=dzD d:=⟨_,rfl⟩
  rw[←hdx1]at KS KC2 R3 hdx
  rw[←hdz1]at KS KC2 R3 hdz
  clear hdx1 hdz1
  generalize flG G s=o at *
  go_enter Tryz.func179,Tryz.ntmps179
  go_wp2_with fail
  refine Calls.at (fun W hW=>?_)
  have n0:New w W:=by subst hW;exact nw
  have HG:Hid (OnAt C G n W w.heap.size):=Lib.hid (by subst hW;exact⟨by go_simp,by go_simp,by go_simp,by go_simp,by go_simp,by go_simp,by go_simp,by go_simp,by go_simp,by go_simp,by go_simp,by go_simp⟩)
  have HS:Hid (SdAt s W (w.heap.size+1)):=Lib.hid (by subst hW;exact⟨by go_simp,by go_simp,by go_simp⟩)
  have HZ:Hid (Res3 W (w.heap.size+1+1)):=Lib.hid (by subst hW;exact⟨by go_simp,by go_simp,by go_simp,by go_simp,by go_simp,by go_simp⟩)
  clear hW
  refine(KF.out _ n0).mono ?_
  rintro e w1 ⟨rfl,n1⟩
  have N1:=Lib.hid (n0.trans n1)
  replace HG:=Lib.hid (HG.out.new n1)
  replace HS:=Lib.hid (HS.out.new n1)
  replace HZ:=Lib.hid (HZ.out.new n1)
  clear n0 n1 KF
  go_wp2_with fail
  refine Calls.at (fun W2 hW=>?_)
  have n2:New w1 W2:=by subst hW;exact nw
  have HA:Hid (FlAt (flO o) W2 w1.heap.size):=Lib.hid (by subst hW;exact⟨by go_simp,by go_simp,by go_simp⟩)
  clear hW
  have N2:=Lib.hid (N1.out.trans n2)
  refine(KS.out _ N2.out).mono ?_
  rintro e w3 ⟨rfl,n3⟩
  have N3:=Lib.hid (N2.out.trans n3)
  replace HG:=Lib.hid (HG.out.new (n2.trans n3))
  replace HS:=Lib.hid (HS.out.new (n2.trans n3))
  replace HZ:=Lib.hid (HZ.out.new (n2.trans n3))
  replace HA:=Lib.hid (HA.out.new n3)
  clear n2 n3 KS N1 N2
  rcases o with _|a
  · have HR:=Lib.hid (R1.out rfl)
    obtain⟨z0,z1,z2,f0,f1,f2⟩:=HZ.out
    have n3:=N3.out
    simp only[Option.isSome_none]
    clear R1 R2 R3 R4 RI
    go_wp2_with fail
    ((generalize hW5:World.setCell _ _ _=W5);(have n5:New w W5:=(by subst hW5;exact nw));(have k0:W5.cell? ⟨w.heap.size+1+1,0,none⟩=some (.int .i64 0):=(by subst hW5;go_simp));(have k1:W5.cell? ⟨w.heap.size+1+1,1,none⟩=some (.int .i64 0):=(by subst hW5;go_simp));(have k2:W5.cell? ⟨w.heap.size+1+1,2,none⟩=some (.int .i64 0):=(by subst hW5;go_simp));clear hW5 z0 z1 z2 f0 f1 f2;refine bodyPost_ret (v:=.tuple #[.agg #[.int .i64 0,.int .i64 0,.int .i64 0],.bool false]) (by simp[results,Tryz.results179,go_sem, *]) rfl ?_)
    rw[HR.out]
    exact⟨rfl,n5⟩
  simp only[Option.isSome_some]
  obtain⟨i1,i2,i3,i4⟩:=RI.out a rfl
  replace HA:Hid (FlAt a w3 w1.heap.size):=Lib.hid HA.out
  have R3':=Lib.hid (R3.out a rfl)
  have R4':=Lib.hid (R4.out a rfl)
  clear R1 R3 R4 RI
  have hfl:flO (some a)=a:=rfl
  rw[hfl]
  clear hfl
  cases hok:okD d
  · have HR:=Lib.hid (R2.out hok)
    obtain⟨z0,z1,z2,f0,f1,f2⟩:=HZ.out
    have n3:=N3.out
    clear hok R2 R3' R4'
    go_wp2_with fail
    ((generalize hW5:World.setCell _ _ _=W5);(have n5:New w W5:=(by subst hW5;exact nw));(have k0:W5.cell? ⟨w.heap.size+1+1,0,none⟩=some (.int .i64 0):=(by subst hW5;go_simp));(have k1:W5.cell? ⟨w.heap.size+1+1,1,none⟩=some (.int .i64 0):=(by subst hW5;go_simp));(have k2:W5.cell? ⟨w.heap.size+1+1,2,none⟩=some (.int .i64 0):=(by subst hW5;go_simp));clear hW5 z0 z1 z2 f0 f1 f2;refine bodyPost_ret (v:=.tuple #[.agg #[.int .i64 0,.int .i64 0,.int .i64 0],.bool false]) (by simp[results,Tryz.results179,go_sem, *]) rfl ?_)
    rw[HR.out]
    exact⟨rfl,n5⟩
  have R5:=Lib.hid (R3'.out hok)
  have R6:=Lib.hid (R4'.out hok)
  clear R2 R3' R4' hok
  have hsx:IntKind.i64.wrap (s.x+dx)=s.x+dx:=IntWalk.i64_in _ (by omega)
  have hsz:IntKind.i64.wrap (s.z+dz)=s.z+dz:=IntWalk.i64_in _ (by omega)
  clear i1 i2 i3 i4 hdx hdz
  obtain⟨s0,s1,s2⟩:=HS.out
  go_wp2_with fail
  (refine wp_region_hat (by kernel_rfl) (by kernel_rfl) ?_;intro hatc hatf;(repeat(go_big_quiet_step ((fail))));refine wpQuiet_nil ?_;rintro _ ⟨q,rfl⟩)
  replace HG:=Lib.hid (HG.out.new q.h)
  replace HA:=Lib.hid (HA.out.new q.h)
  replace HZ:=Lib.hid (HZ.out.new q.h)
  replace N3:=Lib.hid (N3.out.trans q.h)
  clear hatc hatf s0 s1 s2 HS
  generalize q.w=w4 at *
  clear q
  obtain⟨c0,c1,c2,c3,c4,c5,c6,g0,g1,g2,g3,g4⟩:=HG.out
  go_wp2_with fail
  refine(KC2.out _ N3.out).mono ?_
  rintro e w5 ⟨v,rfl,hs,n5⟩
  clear c0 c1 c2 c3 c4 c5 c6 g0 g1 g2 g3 g4
  replace HG:=Lib.hid (HG.out.new n5)
  replace HA:=Lib.hid (HA.out.new n5)
  replace HZ:=Lib.hid (HZ.out.new n5)
  replace N3:=Lib.hid (N3.out.trans n5)
  obtain⟨ra,rc,rfl,-,-,-,hrow⟩:=hs
  have HRW:=Lib.hid hrow
  clear hrow n5 KC2
  obtain⟨m,hm⟩:∃ m,m=l.length:=⟨_,rfl⟩
  have HM:=Lib.hid hm
  rw[←hm]at hl8 ⊢
  clear hm
  have hz5:w.heap.size+1+1<w5.heap.size:=World.block_lt_of_cell? _ _ HZ.out.c0
  go_wp2_with fail
  go_loopg [49] m (fun gk s49 wr=>∃ i:Nat,s49=.int .i64 i∧i≤m∧m - i≤gk∧Hid (∀ j (hj:j<l.length),j<i→lkB C a l[j]=false)∧Hid (New w5 wr))
  case atStart=>exact⟨0,rfl,by omega,by omega,Lib.hid (fun j _ h=>by omega),Lib.hid (New.refl _)⟩
  case round =>
    obtain⟨i,rfl,hi,hgk,HB,hnr⟩:=hrel
    have HGr:=Lib.hid (HG.out.new hnr.out)
    have HAr:=Lib.hid (HA.out.new hnr.out)
    have HZr:=Lib.hid (HZ.out.new hnr.out)
    by_cases hlt:i<m
    · have hil:i<l.length:=by rw[←HM.out];exact hlt
      obtain⟨b,off,rfl,hA⟩:=HRW.out (by omega)
      obtain⟨d0,d1,d2⟩:=Fl.cells (hA.keep (hn0.trans (N3.out.trans hnr.out))) i hil
      have KLi:=Lib.hid (KL.out a l[i])
      have R5i:=Lib.hid (fun q=>R5.out i hil q HB.out)
      obtain⟨f,hf⟩:∃ f,f=l[i]:=⟨_,rfl⟩
      rw[←hf]at d0 d1 d2 KLi R5i
      have HF:=Lib.hid hf
      obtain⟨c0,c1,c2,c3,c4,c5,c6,-,-,-,-,-⟩:=HGr.out
      obtain⟨a0,a1,a2⟩:=HAr.out
      obtain⟨lb,hlb⟩:∃ q,q=lkB C a f:=⟨_,rfl⟩
      rw[←hlb]at KLi R5i
      have HLB:=Lib.hid hlb
      have hz1:=World.block_lt_of_cell? _ _ c0
      have hz2:=World.block_lt_of_cell? _ _ a0
      simp only[]at hz1 hz2
      clear hA hf hlb
      go_wp2_with fail
      refine Calls.at (fun W6 hW=>?_)
      have n6:New wr W6:=by subst hW;exact nw
      clear hW c0 c1 c2 c3 c4 c5 c6 a0 a1 a2 d0 d1 d2
      refine(KLi.out _).mono ?_
      rintro e w7 ⟨rfl,n7⟩
      have nn:=Lib.hid (hnr.out.trans (n6.trans n7))
      obtain⟨z0,z1,z2,f0,f1,f2⟩:=HZr.out.new (n6.trans n7)
      have NN:=Lib.hid (N3.out.trans nn.out)
      clear n6 n7
      cases lb
      · have hnx:Hid (∀ j (hj:j<l.length),j<i+1→lkB C a l[j]=false):=Lib.hid (fun j hj h=>by
          by_cases e:j<i
          · exact HB.out j hj e
          · obtain rfl:j=i:=by omega
            rw[←HF.out];exact HLB.out.symm)
        clear R5i z0 z1 z2 f0 f1 f2
        go_wp2_with fail
        go_roundg (m - (i+1))
        case measure=>omega
        case rel=>exact⟨i+1,by go_num,by omega,by omega,hnx,nn⟩
      · have HR:=Lib.hid (R5i.out rfl)
        have n3:=NN.out
        clear R5i
        go_wp2_with fail
        ((generalize hW5:World.setCell _ _ _=W5);(have n5:New w W5:=(by subst hW5;exact nw));(have k0:W5.cell? ⟨w.heap.size+1+1,0,none⟩=some (.int .i64 (s.x+dx)):=(by subst hW5;go_simp));(have k1:W5.cell? ⟨w.heap.size+1+1,1,none⟩=some (.int .i64 (s.z+dz)):=(by subst hW5;go_simp));(have k2:W5.cell? ⟨w.heap.size+1+1,2,none⟩=some (.int .i64 (i:Int)):=(by subst hW5;go_simp));clear hW5 z0 z1 z2 f0 f1 f2;refine bodyPost_ret (v:=.tuple #[.agg #[.int .i64 (s.x+dx),.int .i64 (s.z+dz),.int .i64 (i:Int)],.bool true]) (by simp[results,Tryz.results179,go_sem, *]) rfl ?_)
        rw[HR.out]
        exact⟨rfl,n5⟩
    · obtain rfl:i=m:=by omega
      have HR:=Lib.hid (R6.out (fun j hj=>HB.out j hj (by rw[HM.out];exact hj)))
      obtain⟨z0,z1,z2,f0,f1,f2⟩:=HZr.out
      have n3:=N3.out.trans hnr.out
      go_wp2_with fail
      ((generalize hW5:World.setCell _ _ _=W5);(have n5:New w W5:=(by subst hW5;exact nw));(have k0:W5.cell? ⟨w.heap.size+1+1,0,none⟩=some (.int .i64 0):=(by subst hW5;go_simp));(have k1:W5.cell? ⟨w.heap.size+1+1,1,none⟩=some (.int .i64 0):=(by subst hW5;go_simp));(have k2:W5.cell? ⟨w.heap.size+1+1,2,none⟩=some (.int .i64 0):=(by subst hW5;go_simp));clear hW5 z0 z1 z2 f0 f1 f2;refine bodyPost_ret (v:=.tuple #[.agg #[.int .i64 0,.int .i64 0,.int .i64 0],.bool false]) (by simp[results,Tryz.results179,go_sem, *]) rfl ?_)
      rw[HR.out]
      exact⟨rfl,n5⟩
end Go.Proofs.YtmhghnbgllaihaaGreatDoor
