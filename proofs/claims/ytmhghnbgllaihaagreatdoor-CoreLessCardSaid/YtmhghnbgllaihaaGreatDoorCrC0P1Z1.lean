import Derived.Test.YtmhghnbgllaihaaGreatDoorArDP1Z1
import Derived.Test.YtmhghnbgllaihaaGreatDoorArEP1Z1
import Derived.Test.YtmhghnbgllaihaaGreatDoorStoBP1Z1
import Derived.Test.YtmhghnbgllaihaaGreatDoorOgCP1Z1
import Derived.Test.YtmhghnbgllaihaaGreatDoorOgIP1Z1
import Derived.Test.YtmhghnbgllaihaaGreatDoorSoDP1Z1

namespace Go.Proofs.YtmhghnbgllaihaaGreatDoor
open Go.RowKit
set_option linter.unusedVariables false
theorem Gd.enc_one (G:Gd):∀ u∈G.enc,u.oneCell'=true:=by
  intro u hu
  simp[Gd.enc]at hu
  rcases hu with rfl|rfl|rfl|rfl|rfl <;> rfl
theorem rowsN_nil {α:Type} {enc:α→List Value} {k base:Nat} {tG tS:TypeId} {w:World}:RowsN enc k tG tS base w (.slice none 0 0) ([]:List (List α)) :=
  ⟨[],rfl,⟨Sl.nil,fun b e=>by simp[Value.ownBlock]at e⟩,fun j h=>absurd h (by simp)⟩
def Outs (er:Int) (x z wi d:Int) (F:List (List Fl)) (w:World) (e:Ending) (w':World):Prop :=
  ∃ O:Gd,e=.returned (.tuple #[.agg #[.int .i64 O.x,.int .i64 O.z,.int .i64 O.w,.int .i64 O.d,.slice O.ga O.L.length O.gc],.int .i64 er])∧RowsN Fl.enc 3 54 56 w.heap.size w' (.slice O.ga O.L.length O.gc) O.L∧(er=0→O.x=x∧O.z=z∧O.w=wi∧O.d=d∧O.L=F)∧(er≠0→O.x=0∧O.z=0∧O.w=0∧O.d=0∧O.L=[])∧New w w'
set_option maxHeartbeats 4000000 in
set_option maxRecDepth 100000 in
theorem ar_Mark (C:CfgR) (G:Gd) (at0:Option Addr) (l:List BoxR) (cap:Nat) (hl:l.length≤maxLen) (w:World) (hN:Nowhere w) (hG:G.ok w) (H:RowIn BoxR.enc 8 w at0 l) :
    Calls Tryz.prog 69 #[.agg #[.int .i64 C.cl,.int .i64 C.cb,.int .i64 C.ht,.int .i64 C.ri,.int .i64 C.ru,.int .i64 C.wd,.int .i64 C.dp],.agg #[.int .i64 G.x,.int .i64 G.z,.int .i64 G.w,.int .i64 G.d,.slice G.ga G.L.length G.gc],.slice at0 l.length cap] w (Outs (markE C G l) G.x G.z G.w G.d (markL G l) w):=by
  have KC:=Lib.hid (fun W n=>ar_check C G at0 l cap hl W (hN.new (n:New w W)) (hG.keep n) (H.keep n))
  have KM:=Lib.hid (fun h W n=>ar_marked G h at0 l cap hl W (hG.keep (n:New w W)) (H.keep n))
  have HZ:Hid (markE C G l=0→gE G=0):=Lib.hid (fun h=>(markE_is h).2.1)
  have HGL:Hid (New w w→Gd.ok G w):=Lib.hid (fun _=>hG)
  generalize markE C G l=er at *
  generalize markL G l=F at *
  obtain⟨n,hn⟩:∃ q,q=G.L.length:=⟨_,rfl⟩
  obtain⟨ln,hln⟩:∃ q,q=l.length:=⟨_,rfl⟩
  rw[←hn]at KC KM ⊢
  rw[←hln]at KC KM ⊢
  clear hn hln hl hG H hN
  obtain⟨Q,hQ⟩:∃ Q,Q=Outs er G.x G.z G.w G.d F w:=⟨_,rfl⟩
  rw[←hQ]
  have HQ:=Lib.hid hQ
  clear hQ
  go_enter Tryz.func69,Tryz.ntmps69
  go_upto_region 1 with fail
  refine Code.at (fun W0 hW=>?_)
  have n0:New w W0:=by subst hW;exact nw
  have z0:W0.heap.size=w.heap.size+3:=by subst hW;simp
  have c0:W0.cell? ⟨w.heap.size,0,none⟩=some (.int .i64 C.cl):=by subst hW;go_simp
  have c1:W0.cell? ⟨w.heap.size,1,none⟩=some (.int .i64 C.cb):=by subst hW;go_simp
  have c2:W0.cell? ⟨w.heap.size,2,none⟩=some (.int .i64 C.ht):=by subst hW;go_simp
  have c3:W0.cell? ⟨w.heap.size,3,none⟩=some (.int .i64 C.ri):=by subst hW;go_simp
  have c4:W0.cell? ⟨w.heap.size,4,none⟩=some (.int .i64 C.ru):=by subst hW;go_simp
  have c5:W0.cell? ⟨w.heap.size,5,none⟩=some (.int .i64 C.wd):=by subst hW;go_simp
  have c6:W0.cell? ⟨w.heap.size,6,none⟩=some (.int .i64 C.dp):=by subst hW;go_simp
  have bg:W0.heap[w.heap.size+1]? = some (.cells #[.int .i64 G.x,.int .i64 G.z,.int .i64 G.w,.int .i64 G.d,.slice G.ga n G.gc] 37 (0,0)):=by
    subst hW
    have h:=World.alloc_heap_new (w.alloc (.cells #[.int .i64 C.cl,.int .i64 C.cb,.int .i64 C.ht,.int .i64 C.ri,.int .i64 C.ru,.int .i64 C.wd,.int .i64 C.dp] 23)) (.cells #[.int .i64 G.x,.int .i64 G.z,.int .i64 G.w,.int .i64 G.d,.slice G.ga n G.gc] 37)
    rw[World.size_alloc]at h
    exact((New.refl _).alloc _).stays h
  have hth:Thr W0 (w.heap.size+1+1) 5:=by
    subst hW
    exact Thr.new _ _ _ _ (by simp)
  have br:W0.heap[w.heap.size+1+1]? = some (.cells #[.int .i64 0,.int .i64 0,.int .i64 0,.int .i64 0,.slice none 0 0] 37 (0,0)):=by
    subst hW
    have h:=World.alloc_heap_new ((w.alloc (.cells #[.int .i64 C.cl,.int .i64 C.cb,.int .i64 C.ht,.int .i64 C.ri,.int .i64 C.ru,.int .i64 C.wd,.int .i64 C.dp] 23)).alloc (.cells #[.int .i64 G.x,.int .i64 G.z,.int .i64 G.w,.int .i64 G.d,.slice G.ga n G.gc] 37)) (.cells #[.int .i64 0,.int .i64 0,.int .i64 0,.int .i64 0,.slice none 0 0] 37)
    rw[World.size_alloc,World.size_alloc]at h
    exact h
  clear hW
  have HBR:=Lib.hid (fun W (q:New W0 W)=>New.stays q br)
  have HTH:=Lib.hid (fun W (q:New W0 W)=>hth.keep q)
  have g0:=cell_of_heap (o:=0) (v:=.int .i64 G.x) bg rfl
  have g1:=cell_of_heap (o:=1) (v:=.int .i64 G.z) bg rfl
  have g2:=cell_of_heap (o:=2) (v:=.int .i64 G.w) bg rfl
  have g3:=cell_of_heap (o:=3) (v:=.int .i64 G.d) bg rfl
  have g4:=cell_of_heap (o:=4) (v:=.slice G.ga n G.gc) bg rfl
  have HBG:=Lib.hid (fun W (q:New W0 W)=>New.stays q bg)
  have N0:=Lib.hid n0
  clear bg br hth n0
  go_wp2_with fail
  refine(KC.out _ N0.out).mono ?_
  rintro e W1 ⟨rfl,n1⟩
  have N1:=Lib.hid n1
  clear c0 c1 c2 c3 c4 c5 c6 g0 g1 g2 g3 g4 n1 KC
  by_cases her:er=0
  rotate_left
  · have hne:(er != 0)=true:=by rw[bne_iff_ne];exact her
    have HER:=Lib.hid her
    have hth:=HTH.out _ N1.out
    clear her
    go_wp2_with (refine wpList_store_sto rfl 37 _ _ rfl _ _ rfl rfl hth (by kernel_rfl) (Gd.enc_one Gd.zero) (fun Z nZ kZ cZ=>?_))
    obtain⟨k0,k1,k2,k3,k4⟩:=Gd.at (G:=Gd.zero) cZ.at'
    have nz:=nZ w (N0.out.trans N1.out) (by omega)
    clear nZ kZ cZ hth
    refine bodyPost_ret (v:=.tuple #[.agg #[.int .i64 Gd.zero.x,.int .i64 Gd.zero.z,.int .i64 Gd.zero.w,.int .i64 Gd.zero.d,.slice Gd.zero.ga Gd.zero.L.length Gd.zero.gc],.int .i64 er]) (by simp[results,Tryz.results69,go_sem, *]) rfl ?_
    rw[HQ.out]
    exact⟨Gd.zero,rfl,rowsN_nil,fun h=>absurd h HER.out,fun _=>⟨rfl,rfl,rfl,rfl,rfl⟩,nz⟩
  subst her
  have bg:=HBG.out _ N1.out
  have g0:=cell_of_heap (o:=0) (v:=.int .i64 G.x) bg rfl
  have g1:=cell_of_heap (o:=1) (v:=.int .i64 G.z) bg rfl
  have g2:=cell_of_heap (o:=2) (v:=.int .i64 G.w) bg rfl
  have g3:=cell_of_heap (o:=3) (v:=.int .i64 G.d) bg rfl
  have g4:=cell_of_heap (o:=4) (v:=.slice G.ga n G.gc) bg rfl
  clear bg
  go_wp2_with fail
  refine(KM.out (HZ.out trivial) _ (N0.out.trans N1.out)).mono ?_
  rintro e W2 ⟨v,rfl,hv,n2⟩
  clear g0 g1 g2 g3 g4
  have HV:=Lib.hid hv
  obtain⟨va,vc,rfl⟩:=hv.rows.shape
  obtain⟨fn,hfn⟩:∃ q,q=F.length:=⟨_,rfl⟩
  rw[←hfn]at HV ⊢
  have HFN:=Lib.hid hfn
  have N12:=Lib.hid (N1.out.trans n2)
  have bg:=HBG.out _ N12.out
  have bgT:=Lib.hid bg
  have f4:=frozen_of_heap (o:=4) bg
  have g4:=cell_of_heap (o:=4) (v:=.slice G.ga n G.gc) bg rfl
  have hs:=heap_setCell_same W2 (w.heap.size+1) 4 _ _ (.slice va fn vc) bg
  have hz1:=N1.out.size
  have hz2:=n2.size
  have hth:=HTH.out _ N12.out
  clear hv hfn n2 bg
  go_upto_region 5 with fail
  refine Code.at (fun W3 hW=>?_)
  have nb:∀ b,b≠w.heap.size+1→W3.heap[b]? = W2.heap[b]? := fun b hb=>by subst hW;exact Below.heap_setCell _ _ _ _ hb
  have hrt:=Lib.hid ((nb (w.heap.size+1+1) (by omega)).trans (HBR.out _ N12.out))
  have q:=hs
  rw[←hW]at q
  have hth3:Thr W3 (w.heap.size+1+1) 5:=fun j hj=>by
    obtain⟨⟨u,hu⟩,hf⟩:=hth j hj
    exact⟨⟨u,(World.cell?_of_block (nb _ (by show w.heap.size+1+1≠_;omega))).trans hu⟩,(World.frozen?_of_block (nb _ (by show w.heap.size+1+1≠_;omega))).trans hf⟩
  have n3:New w W3:=by subst hW;exact New.setB (p:=⟨w.heap.size+1,4,none⟩) (by show w.heap.size≤w.heap.size+1;omega) (N0.out.trans N12.out) _
  have HV3:=Lib.hid (HV.out.kept (W:=W3) (fun b cs t hb ht hc=>nb b (fun e=>by subst e;rw[bgT.out]at hc;injection hc with hc;injection hc with _ hc;rcases ht with rfl|rfl <;> exact absurd hc (by decide))))
  clear hW hs nb hth g4 f4
  have g0:=cell_of_heap (o:=0) (v:=.int .i64 G.x) q rfl
  have g1:=cell_of_heap (o:=1) (v:=.int .i64 G.z) q rfl
  have g2:=cell_of_heap (o:=2) (v:=.int .i64 G.w) q rfl
  have g3:=cell_of_heap (o:=3) (v:=.int .i64 G.d) q rfl
  have g4:=cell_of_heap (o:=4) (v:=.slice va fn vc) q rfl
  clear q
  obtain⟨O,hO⟩:∃ O:Gd,O=⟨G.x,G.z,G.w,G.d,F,va,vc⟩:=⟨_,rfl⟩
  have e0:O.x=G.x:=by rw[hO]
  have e1:O.z=G.z:=by rw[hO]
  have e2:O.w=G.w:=by rw[hO]
  have e3:O.d=G.d:=by rw[hO]
  have e4:O.L=F:=by rw[hO]
  have e5:O.ga=va:=by rw[hO]
  have e6:O.gc=vc:=by rw[hO]
  have HO:=Lib.hid (And.intro e0 (And.intro e1 (And.intro e2 (And.intro e3 e4))))
  rw[HFN.out]at HV3 g4
  rw[←e4,←e5,←e6]at HV3 g4
  rw[←e0]at g0
  rw[←e1]at g1
  rw[←e2]at g2
  rw[←e3]at g3
  clear hO e0 e1 e2 e3 e4 e5 e6
  go_wp2_with (refine wpList_store_blk rfl 37 _ _ rfl _ _ rfl rfl hth3 (by kernel_rfl) (Gd.enc_one O) (fun Z nZ kZ cZ=>?_))
  obtain⟨k0,k1,k2,k3,k4⟩:=Gd.at (G:=O) cZ
  have nz:=nZ w n3 (by omega)
  have HVZ:=Lib.hid (HV3.out.kept (W:=Z) (fun b cs t hb ht hc=>kZ b (fun e=>by subst e;rw[hrt.out]at hc;injection hc with hc;injection hc with _ hc;rcases ht with rfl|rfl <;> exact absurd hc (by decide))))
  clear nZ kZ cZ hth3 g0 g1 g2 g3 g4
  refine bodyPost_ret (v:=.tuple #[.agg #[.int .i64 O.x,.int .i64 O.z,.int .i64 O.w,.int .i64 O.d,.slice O.ga O.L.length O.gc],.int .i64 0]) (by simp[results,Tryz.results69,go_sem, *]) rfl ?_
  rw[HQ.out]
  exact⟨O,rfl,HVZ.out.mono (by omega),fun _=>HO.out,fun h=>absurd rfl h,nz⟩
end Go.Proofs.YtmhghnbgllaihaaGreatDoor

namespace Go.Proofs.YtmhghnbgllaihaaGreatDoor
open Go.RowKit
set_option linter.unusedVariables false
theorem arN_eq {α:Type} [DecidableEq α] {go1 go2:α→Int→Option α} {s:α} (h:∀ d:Nat,d<4→go1 s d=go2 s d∧diaP go1 s d (nextD d)=diaP go2 s d (nextD d)):∀ n,n≤4→arN go1 s n=arN go2 s n
  | 0,_=>rfl
  | n+1,hn=>by
    obtain⟨a,b⟩:=h n (by omega)
    simp only[arN,arN_eq h n (by omega),a,b]
theorem next_one {d:Nat} (h:d<4):(-1≤dxD d+dxD (nextD d)∧dxD d+dxD (nextD d)≤1)∧(-1≤dzD d+dzD (nextD d)∧dzD d+dzD (nextD d)≤1):=by
  rcases(show d=0∨d=1∨d=2∨d=3 by omega)with rfl|rfl|rfl|rfl <;> decide
def flI (A:Int→Int→List Fl) (s:Sdk):Option Fl:=if 0≤s.k then (A s.x s.z)[s.k.toNat]? else none
def toI (C:CfgR) (A:Int→Int→List Fl) (s:Sdk) (d:Int):Option Sdk:=match flI A s with
  | some a=>if okD d=true then ((A (s.x+dxD d) (s.z+dzD d)).findIdx? (lkB C a)).map (fun n:Nat=>(⟨s.x+dxD d,s.z+dzD d,n⟩:Sdk))else none
  | none=>none
theorem toS_I (C:CfgR) (G:Gd):toS C G=toI C (atG G):=rfl
theorem toI_place {C:CfgR} {A:Int→Int→List Fl} {s t:Sdk} {d:Int} (h:toI C A s d=some t):t.x=s.x+dxD d∧t.z=s.z+dzD d:=by
  unfold toI at h
  split at h
  · split at h
    · rw[Option.map_eq_some_iff]at h
      obtain⟨n,-,rfl⟩:=h
      exact⟨rfl,rfl⟩
    · cases h
  · cases h
theorem toI_same {C:CfgR} {A B:Int→Int→List Fl} {s:Sdk} {d:Int} (h0:A s.x s.z=B s.x s.z) (h1:A (s.x+dxD d) (s.z+dzD d)=B (s.x+dxD d) (s.z+dzD d)):toI C A s d=toI C B s d:=by
  unfold toI flI
  rw[h0,h1]
theorem toI_cfg {C D:CfgR} (h1:C.cb=D.cb) (h2:C.ht=D.ht) (A:Int→Int→List Fl):toI C A=toI D A:=by
  have e:∀ a,lkB C a=lkB D a:=fun a=>by funext b;unfold lkB;rw[h1,h2]
  funext s d
  unfold toI
  simp only[e]
def Agree (A B:Int→Int→List Fl) (n:Nat) (x z:Int):Prop:=∀ a b:Int,(x - n≤a∧a≤x+n)→(z - n≤b∧b≤z+n)→A a b=B a b
theorem Agree.symm {A B:Int→Int→List Fl} {n:Nat} {x z:Int} (h:Agree A B n x z):Agree B A n x z:=fun a b ha hb=>(h a b ha hb).symm
theorem Agree.le {A B:Int→Int→List Fl} {n m:Nat} {x z:Int} (h:Agree A B m x z) (hn:n≤m):Agree A B n x z:=fun a b ha hb=>h a b (by omega) (by omega)
theorem Agree.step {A B:Int→Int→List Fl} {n:Nat} {x z x' z':Int} (h:Agree A B (n+1) x z) (hx : -1≤x' - x∧x' - x≤1) (hz : -1≤z' - z∧z' - z≤1):Agree A B n x' z':=fun a b ha hb=>h a b (by omega) (by omega)
theorem near_I {C:CfgR} {A B:Int→Int→List Fl} {n:Nat} {s:Sdk} (h:Agree A B (n+1) s.x s.z):(∀ d:Nat,d<4→toI C A s d=toI C B s d∧diaP (toI C A) s d (nextD d)=diaP (toI C B) s d (nextD d))∧∀ t∈arP (toI C B) s,Agree A B n t.x t.z:=by
  have h00:A s.x s.z=B s.x s.z:=h _ _ (by omega) (by omega)
  have oneP:∀ d:Int,toI C A s d=toI C B s d:=fun d=>by
    have a:=dxD_small d
    have b:=dzD_small d
    exact toI_same h00 (h _ _ (by omega) (by omega))
  have rnd:∀ (d e:Int),(-1≤dxD d+dxD e∧dxD d+dxD e≤1)→(-1≤dzD d+dzD e∧dzD d+dzD e≤1)→rndP (toI C A) s d e=rndP (toI C B) s d e:=fun d e hx hz=>by
    unfold rndP
    rw[oneP d]
    cases q:toI C B s d with
    | none=>rfl
    | some m =>
      obtain⟨m1,m2⟩:=toI_place q
      have a:=dxD_small d
      have b:=dzD_small d
      exact toI_same (h _ _ (by omega) (by omega)) (h _ _ (by omega) (by omega))
  refine⟨fun d hd=>⟨oneP d,?_⟩,fun t ht=>?_⟩
  · obtain⟨x1,x2⟩:=next_one hd
    unfold diaP
    rw[rnd _ _ x1 x2,rnd (nextD d) d (by omega) (by omega)]
  · obtain⟨d,hd,q|q⟩:=mem_arN.1 ht
    · obtain⟨m1,m2⟩:=toI_place q
      have a:=dxD_small d
      have b:=dzD_small d
      exact h.step (by omega) (by omega)
    · obtain⟨x1,x2⟩:=next_one hd
      obtain⟨q1,-⟩:=bothP_is q
      unfold rndP at q1
      split at q1
      · rename_i m hm
        obtain⟨m1,m2⟩:=toI_place hm
        obtain⟨m3,m4⟩:=toI_place q1
        exact h.step (by omega) (by omega)
      · cases q1
theorem ge_loc {C:CfgR} {A B:Int→Int→List Fl}:∀ (n:Nat) (s:Sdk),Agree A B n s.x s.z→geB (toI C B) n s=true→geB (toI C A) n s=true
  | 0,_,_,_=>rfl
  | n+1,s,hs,q=>by
    obtain⟨a,b⟩:=(geB_succ n s).1 q
    obtain⟨h1,h2⟩:=near_I (C:=C) hs
    have e:arP (toI C A) s=arP (toI C B) s:=arN_eq h1 4 (Nat.le_refl _)
    refine(geB_succ n s).2 ⟨?_,fun t ht=>?_⟩
    · unfold fulP at a ⊢
      rw[e]
      exact a
    · rw[e]at ht
      exact ge_loc n t (h2 t ht) (b t ht)
theorem ge_eq {C:CfgR} {A B:Int→Int→List Fl} {n:Nat} {s:Sdk} (h:Agree A B n s.x s.z):geB (toI C A) n s=geB (toI C B) n s:=by
  rw[Bool.eq_iff_iff]
  exact⟨ge_loc n s h.symm,ge_loc n s h⟩
section
variable {α:Type}
def keepT (l:List α) (p:Nat→Bool) (n:Nat):List α:=(List.range n).filterMap fun k=>if p k=true then l[k]? else none
def keepL (l:List α) (p:Nat→Bool):List α:=keepT l p l.length
theorem keepT_yes {l:List α} {p:Nat→Bool} {n:Nat} (hn:n<l.length) (h:p n=true):keepT l p (n+1)=keepT l p n++[l[n]]:=by
  unfold keepT
  rw[List.range_succ,List.filterMap_append,List.filterMap_cons,List.filterMap_nil,if_pos h,List.getElem?_eq_getElem hn]
theorem keepT_no {l:List α} {p:Nat→Bool} {n:Nat} (h:p n=false):keepT l p (n+1)=keepT l p n:=by
  unfold keepT
  rw[List.range_succ,List.filterMap_append,List.filterMap_cons,List.filterMap_nil,if_neg (by rw[h];simp),List.append_nil]
theorem keepT_len (l:List α) (p:Nat→Bool) (n:Nat):(keepT l p n).length≤n:=by
  have:=List.length_filterMap_le (fun k=>if p k=true then l[k]? else none) (List.range n)
  rw[List.length_range]at this
  exact this
theorem keepT_congr {l m:List α} {p q:Nat→Bool} {n:Nat} (h:∀ k,k<n→p k=q k) (e:∀ k,k<n→q k=true→l[k]? = m[k]?):keepT l p n=keepT m q n:=by
  have key:∀ n,(∀ k,k<n→p k=q k)→(∀ k,k<n→q k=true→l[k]? = m[k]?)→keepT l p n=keepT m q n:=by
    intro n
    induction n with
    | zero=>intro _ _;rfl
    | succ n ih =>
      intro h e
      have i:=ih (fun k hk=>h k (by omega)) (fun k hk=>e k (by omega))
      unfold keepT at i ⊢
      rw[List.range_succ,List.filterMap_append,List.filterMap_append,i]
      congr 1
      rw[List.filterMap_cons,List.filterMap_nil,List.filterMap_cons,List.filterMap_nil,h n (by omega)]
      by_cases c:q n=true
      · rw[if_pos c,if_pos c,e n (by omega) c]
      · rw[if_neg c,if_neg c]
  exact key n h e
theorem keepL_congr {l:List α} {p q:Nat→Bool} (h:∀ k,k<l.length→p k=q k):keepL l p=keepL l q:=keepT_congr h (fun _ _ _=>rfl)
theorem mem_keepT {l:List α} {p:Nat→Bool} {n:Nat} {x:α}:x∈keepT l p n↔∃ k,k<n∧p k=true∧l[k]? = some x:=by
  unfold keepT
  rw[List.mem_filterMap]
  constructor
  · rintro⟨k,hk,h⟩
    by_cases c:p k=true
    · rw[if_pos c]at h
      exact⟨k,List.mem_range.1 hk,c,h⟩
    · rw[if_neg c]at h;cases h
  · rintro⟨k,hk,c,h⟩
    exact⟨k,List.mem_range.2 hk,by rw[if_pos c];exact h⟩
theorem keepT_map {β:Type} (f:α→β) (l:List α) (p:Nat→Bool):∀ n,n≤l.length→keepT (l.map f) p n=(keepT l p n).map f:=by
  intro n
  induction n with
  | zero=>intro _;rfl
  | succ n ih =>
    intro hn
    cases c:p n
    · rw[keepT_no c,keepT_no c,ih (by omega)]
    · rw[keepT_yes (by simp;omega) c,keepT_yes (by omega) c,List.map_append,ih (by omega)]
      simp
end
end Go.Proofs.YtmhghnbgllaihaaGreatDoor

namespace Go.Proofs.YtmhghnbgllaihaaGreatDoor
open Go.RowKit
set_option linter.unusedVariables false
section
variable {β:Type}
def gridT (w d:Nat) (g:Nat→Nat→β):List β:=(List.range (d*w)).map fun n=>g (n % w) (n / w)
theorem gridT_len (w d:Nat) (g:Nat→Nat→β):(gridT w d g).length=d*w:=by unfold gridT;simp
theorem gridT_at {w d:Nat} {g:Nat→Nat→β} {n:Nat} (h:n<(gridT w d g).length):(gridT w d g)[n]=g (n % w) (n / w):=by
  unfold gridT at h ⊢
  rw[List.getElem_map,List.getElem_range]
theorem gridT_get {w d:Nat} {g:Nat→Nat→β} {n:Nat} (h:n<d*w):(gridT w d g)[n]? = some (g (n % w) (n / w)):=by
  rw[List.getElem?_eq_getElem (by rw[gridT_len];exact h),gridT_at]
theorem gridT_congr {w d:Nat} {g f:Nat→Nat→β} (hw:0<w) (h:∀ i j,i<w→j<d→g i j=f i j):gridT w d g=gridT w d f:=by
  unfold gridT
  refine List.map_congr_left fun n hn=>?_
  have:=List.mem_range.1 hn
  exact h _ _ (Nat.mod_lt _ hw) ((Nat.div_lt_iff_lt_mul hw).2 this)
theorem row_div {w j i:Nat} (h:i<w):(j*w+i) % w=i∧(j*w+i) / w=j:=by
  have hw:0<w:=by omega
  refine⟨?_,?_⟩
  · rw[Nat.add_comm,Nat.add_mul_mod_self_right,Nat.mod_eq_of_lt h]
  · rw[Nat.add_comm,Nat.add_mul_div_right _ _ hw,Nat.div_eq_of_lt h,Nat.zero_add]
theorem gridT_rows {w:Nat} (hw:0<w) (g:Nat→Nat→β):∀ d,gridT w d g=(List.range d).flatMap fun j=>(List.range w).map fun i=>g i j
  | 0=>by unfold gridT;rw[Nat.zero_mul];rfl
  | d+1=>by
    have ih:=gridT_rows hw g d
    unfold gridT at ih ⊢
    rw[Nat.add_mul,Nat.one_mul,List.range_add,List.map_append,ih,List.range_succ,List.flatMap_append]
    congr 1
    rw[List.map_map,List.flatMap_cons,List.flatMap_nil,List.append_nil]
    refine List.map_congr_left fun i hi=>?_
    obtain⟨a,b⟩:=row_div (j:=d) (List.mem_range.1 hi)
    show g ((d*w+i) % w) ((d*w+i) / w)=g i d
    rw[a,b]
theorem rows_flat {w:Nat} (f:Nat→Option β):∀ d,(List.range (d*w)).filterMap f=(List.range d).flatMap fun j=>(List.range w).filterMap fun i=>f (j*w+i)
  | 0=>by rw[Nat.zero_mul];rfl
  | d+1=>by
    rw[Nat.add_mul,Nat.one_mul,List.range_add,List.filterMap_append,rows_flat f d,List.range_succ,List.flatMap_append]
    congr 1
    rw[List.filterMap_map,List.flatMap_cons,List.flatMap_nil,List.append_nil]
    rfl
theorem part_flat {γ:Type} (n x0 w:Nat) (h:x0+w≤n) (f:Nat→List γ) (h0:∀ i,i<n→¬ (x0≤i∧i<x0+w)→f i=[]):(List.range n).flatMap f=(List.range w).flatMap fun i=>f (x0+i):=by
  obtain⟨r,rfl⟩:∃ r,n=x0+(w+r):=⟨n - (x0+w),by omega⟩
  rw[List.range_add,List.range_add,List.flatMap_append,List.map_append,List.flatMap_append]
  have e1:(List.range x0).flatMap f=[]:=List.flatMap_eq_nil_iff.2 fun i hi=>by
    have:=List.mem_range.1 hi
    exact h0 i (by omega) (by omega)
  have e2:(((List.range r).map (w+·)).map (x0+·)).flatMap f=[]:=List.flatMap_eq_nil_iff.2 fun i hi=>by
    obtain⟨a,ha,rfl⟩:=List.mem_map.1 hi
    obtain⟨b,hb,rfl⟩:=List.mem_map.1 ha
    have:=List.mem_range.1 hb
    exact h0 _ (by omega) (by omega)
  rw[e1,e2,List.nil_append,List.append_nil,List.flatMap_map]
theorem filterMap_flat {γ:Type} (l:List Nat) (f:Nat→Option γ):l.filterMap f=l.flatMap fun i=>(f i).toList:=by
  induction l with
  | nil=>rfl
  | cons a l ih =>
    rw[List.filterMap_cons,List.flatMap_cons,ih]
    cases f a <;> rfl
theorem keep_sub {rows:List β} {f:Nat→Nat→β} {p:Nat→Bool} {pw pd x0 z0 w d:Nat} (hlen:rows.length=pd*pw) (hrow:∀ i j,i<pw→j<pd→rows[j*pw+i]? = some (f i j))
    (hp:∀ i j,i<pw→j<pd→(p (j*pw+i)=true↔(x0≤i∧i<x0+w)∧z0≤j∧j<z0+d)) (hx:x0+w≤pw) (hz:z0+d≤pd) (hw:0<w):keepL rows p=gridT w d fun i j=>f (x0+i) (z0+j):=by
  unfold keepL keepT
  rw[hlen,rows_flat,gridT_rows hw,part_flat pd z0 d hz]
  · rw[List.flatMap_def,List.flatMap_def]
    congr 1
    refine List.map_congr_left fun j hj=>?_
    have hj':=List.mem_range.1 hj
    rw[filterMap_flat,part_flat pw x0 w hx]
    · have e:(List.range w).map (fun i=>f (x0+i) (z0+j))=(List.range w).flatMap fun i=>[f (x0+i) (z0+j)]:=by
        rw[List.flatMap_def,List.map_eq_flatMap,List.flatMap_def]
      rw[e,List.flatMap_def,List.flatMap_def]
      congr 1
      refine List.map_congr_left fun i hi=>?_
      have hi':=List.mem_range.1 hi
      rw[if_pos ((hp _ _ (by omega) (by omega)).2 (by omega)),hrow _ _ (by omega) (by omega)]
      rfl
    · intro i hi hn
      rw[if_neg (fun c=>hn ((hp i _ hi (by omega)).1 c).1)]
      rfl
  · intro j hj hn
    rw[filterMap_flat]
    refine List.flatMap_eq_nil_iff.2 fun i hi=>?_
    rw[if_neg (fun c=>hn ((hp i j (List.mem_range.1 hi) hj).1 c).2)]
    rfl
end
end Go.Proofs.YtmhghnbgllaihaaGreatDoor

namespace Go.Proofs.YtmhghnbgllaihaaGreatDoor
open Go.RowKit
set_option linter.unusedVariables false
structure Bd where
  (x z w d:Int)
def Bd.zero:Bd:=⟨0,0,0,0⟩
def tlR (n:Int):Int:=Int.tdiv (n - 1) 8+1
def tlW (C:CfgR):Int:=if C.err=0 then tlR C.wd else 0
def tlD (C:CfgR):Int:=if C.err=0 then tlR C.dp else 0
def tilOk (C:CfgR) (tx tz:Int):Bool:=wiB tx 0 (tlW C - 1)&&wiB tz 0 (tlD C - 1)
def tilB (C:CfgR) (tx tz:Int):Bd:=if tilOk C tx tz=true then ⟨8*tx,8*tz,min 8 (C.wd - 8*tx),min 8 (C.dp - 8*tz)⟩else Bd.zero
def padB (C:CfgR) (b:Bd):Bd:=⟨b.x - (C.cl+4),b.z - (C.cl+4),b.w+2*(C.cl+4),b.d+2*(C.cl+4)⟩
theorem cfg_in {C:CfgR} (h:C.err=0):(0≤C.cl∧C.cl≤3)∧(1≤C.wd∧C.wd≤32)∧(1≤C.dp∧C.dp≤32):=by
  unfold CfgR.err checkE checkB at h
  split at h
  · rename_i h2
    simp only[Bool.and_eq_true,decide_eq_true_eq]at h2
    omega
  · cases h
theorem tlR_is {n:Int} (h:1≤n):tlR n=(n - 1) / 8+1:=by
  unfold tlR
  rw[Int.tdiv_eq_ediv_of_nonneg (by omega)]
structure Til (C:CfgR) (b:Bd):Prop where
  e:C.err=0
  x:0≤b.x∧b.x≤24
  z:0≤b.z∧b.z≤24
  w:1≤b.w∧b.w≤8
  d:1≤b.d∧b.d≤8
  wd:b.x+b.w≤C.wd
  dp:b.z+b.d≤C.dp
theorem til_ok {C:CfgR} {tx tz:Int} (h:tilOk C tx tz=true):Til C (tilB C tx tz)∧tilB C tx tz=⟨8*tx,8*tz,min 8 (C.wd - 8*tx),min 8 (C.dp - 8*tz)⟩∧(0≤tx∧tx≤3)∧(0≤tz∧tz≤3):=by
  have e:tilB C tx tz=⟨8*tx,8*tz,min 8 (C.wd - 8*tx),min 8 (C.dp - 8*tz)⟩:=by unfold tilB;rw[if_pos h]
  unfold tilOk at h
  rw[Bool.and_eq_true,wiB_iff,wiB_iff]at h
  unfold tlW tlD at h
  by_cases hC:C.err=0
  · rw[if_pos hC,if_pos hC]at h
    obtain⟨h1,h2,h3⟩:=cfg_in hC
    rw[tlR_is (by omega),tlR_is (by omega)]at h
    refine⟨?_,e,by omega,by omega⟩
    rw[e]
    exact⟨hC,by dsimp only;omega,by dsimp only;omega,by dsimp only;omega,by dsimp only;omega,by dsimp only;omega,by dsimp only;omega⟩
  · rw[if_neg hC,if_neg hC]at h
    omega
def Bd.has (b:Bd) (x z:Int):Bool:=wiB x b.x (b.x+b.w - 1)&&wiB z b.z (b.z+b.d - 1)
theorem Bd.has_iff {b:Bd} {x z:Int}:b.has x z=true↔(b.x≤x∧x≤b.x+b.w - 1)∧b.z≤z∧z≤b.z+b.d - 1:=by unfold Bd.has;rw[Bool.and_eq_true,wiB_iff,wiB_iff]
structure Box4 (b:Bd):Prop where
  x : -64≤b.x∧b.x≤64
  z : -64≤b.z∧b.z≤64
  w:1≤b.w∧b.w≤64
  d:1≤b.d∧b.d≤64
theorem Til.box {C:CfgR} {b:Bd} (h:Til C b):Box4 b:=by obtain⟨h1,h2,h3,h4,h5,-,-⟩:=h;exact⟨by omega,by omega,by omega,by omega⟩
theorem Til.pad {C:CfgR} {b:Bd} (h:Til C b):Box4 (padB C b):=by
  obtain⟨h1,-,-⟩:=cfg_in h.e
  obtain⟨h0,h2,h3,h4,h5,-,-⟩:=h
  unfold padB
  exact⟨by dsimp only;omega,by dsimp only;omega,by dsimp only;omega,by dsimp only;omega⟩
theorem Box4.nat {b:Bd} (h:Box4 b):∃ w d:Nat,b.w=w∧b.d=d∧1≤w∧w≤64∧1≤d∧d≤64∧b.w.toNat=w∧b.d.toNat=d:=by
  obtain⟨-,-,h3,h4⟩:=h
  exact⟨b.w.toNat,b.d.toNat,by omega,by omega,by omega,by omega,by omega,by omega,rfl,rfl⟩
end Go.Proofs.YtmhghnbgllaihaaGreatDoor
