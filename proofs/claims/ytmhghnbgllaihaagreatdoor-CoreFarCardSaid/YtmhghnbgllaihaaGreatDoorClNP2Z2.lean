import Derived.Test.YtmhghnbgllaihaaGreatDoorClMP2Z2
set_option linter.unusedVariables false
set_option maxHeartbeats 16000000
set_option maxRecDepth 100000

namespace Go.Proofs.YtmhghnbgllaihaaGreatDoor
open Go.RowKit
def TAt (w:World) (b:Nat) (T:TriR):Prop:=CellsAt w b 0 T.enc
theorem TAt.cells {w:World} {b:Nat} {T:TriR} (h:TAt w b T):w.cell? ⟨b,0,none⟩=some (.int .i64 T.i)∧w.cell? ⟨b,1,none⟩=some (.int .i64 T.x0)∧w.cell? ⟨b,2,none⟩=some (.int .i64 T.y0)∧w.cell? ⟨b,3,none⟩=some (.int .i64 T.z0)∧w.cell? ⟨b,4,none⟩=some (.int .i64 T.x1)∧w.cell? ⟨b,5,none⟩=some (.int .i64 T.y1)∧w.cell? ⟨b,6,none⟩=some (.int .i64 T.z1)∧w.cell? ⟨b,7,none⟩=some (.int .i64 T.x2)∧w.cell? ⟨b,8,none⟩=some (.int .i64 T.y2)∧w.cell? ⟨b,9,none⟩=some (.int .i64 T.z2):=by
 refine⟨?_,?_,?_,?_,?_,?_,?_,?_,?_,?_⟩
 ·have:=h 0 (by rw[TriR.enc_len];omega);simp only[Nat.zero_add]at this;exact this
 ·have:=h 1 (by rw[TriR.enc_len];omega);simp only[Nat.zero_add]at this;exact this
 ·have:=h 2 (by rw[TriR.enc_len];omega);simp only[Nat.zero_add]at this;exact this
 ·have:=h 3 (by rw[TriR.enc_len];omega);simp only[Nat.zero_add]at this;exact this
 ·have:=h 4 (by rw[TriR.enc_len];omega);simp only[Nat.zero_add]at this;exact this
 ·have:=h 5 (by rw[TriR.enc_len];omega);simp only[Nat.zero_add]at this;exact this
 ·have:=h 6 (by rw[TriR.enc_len];omega);simp only[Nat.zero_add]at this;exact this
 ·have:=h 7 (by rw[TriR.enc_len];omega);simp only[Nat.zero_add]at this;exact this
 ·have:=h 8 (by rw[TriR.enc_len];omega);simp only[Nat.zero_add]at this;exact this
 ·have:=h 9 (by rw[TriR.enc_len];omega);simp only[Nat.zero_add]at this;exact this
theorem TAt.mk {w:World} {b:Nat} {T:TriR} (h0:w.cell? ⟨b,0,none⟩=some (.int .i64 T.i)) (h1:w.cell? ⟨b,1,none⟩=some (.int .i64 T.x0)) (h2:w.cell? ⟨b,2,none⟩=some (.int .i64 T.y0)) (h3:w.cell? ⟨b,3,none⟩=some (.int .i64 T.z0)) (h4:w.cell? ⟨b,4,none⟩=some (.int .i64 T.x1)) (h5:w.cell? ⟨b,5,none⟩=some (.int .i64 T.y1)) (h6:w.cell? ⟨b,6,none⟩=some (.int .i64 T.z1)) (h7:w.cell? ⟨b,7,none⟩=some (.int .i64 T.x2)) (h8:w.cell? ⟨b,8,none⟩=some (.int .i64 T.y2)) (h9:w.cell? ⟨b,9,none⟩=some (.int .i64 T.z2)):TAt w b T:=by
 intro i hi
 rw[TriR.enc_len]at hi
 rw[Nat.zero_add]
 match i,hi with
 | 0,_=>exact h0
 | 1,_=>exact h1
 | 2,_=>exact h2
 | 3,_=>exact h3
 | 4,_=>exact h4
 | 5,_=>exact h5
 | 6,_=>exact h6
 | 7,_=>exact h7
 | 8,_=>exact h8
 | 9,_=>exact h9
theorem Ex.tri {w w':World} (h:Ex w w') {b:Nat} {T:TriR} (hb:Typ w b 64) (hc:TAt w b T):TAt w' b T:=fun i hi=>h.cell hb (by decide) (hc i hi)
theorem k_clo (T:TriR) (hk:okT T=true) (px pz:Int) (tb:Nat) (w:World) (hx : -64≤px∧px≤64) (hz : -64≤pz∧pz≤64) (hT:TAt w tb T) :
  Calls Tryz.prog 268 #[.agg #[.int .i64 px,.int .i64 pz],.pointer (some ⟨tb,0,none⟩)] w fun e w'=>e=.returned (.tuple #[.agg #[.int .i64 ((aboveO T (px,pz)).elim 0 Co.x),.int .i64 ((aboveO T (px,pz)).elim 0 Co.z),.int .i64 ((aboveO T (px,pz)).elim 0 Co.y),.int .i64 ((aboveO T (px,pz)).elim 0 Co.d)],.bool (aboveO T (px,pz)).isSome])∧New w w':=by
 have KA:=Lib.hid (fun W=>k_above T hk px pz W hx hz _ rfl)
 obtain⟨c0,c1,c2,c3,c4,c5,c6,c7,c8,c9⟩:=hT.cells
 have zt:tb<w.heap.size:=World.block_lt_of_cell? _ _ c0
 clear hT hk
 generalize aboveO T (px,pz)=r at *
 generalize r.elim 0 Co.x=rx at *
 generalize r.elim 0 Co.z=rz at *
 generalize r.elim 0 Co.y=ry at *
 generalize r.elim 0 Co.d=rd at *
 generalize r.isSome=rb at *
 go_enter Tryz.func268,Tryz.ntmps268
 go_wp2_with fail
 refine(KA.out _).mono ?_
 rintro e W1 ⟨rfl,n1⟩
 have e0:W1.cell? ⟨w.heap.size+1,0,none⟩=some (.int .i64 0):=n1.keep (by go_simp)
 have f0:W1.frozen? ⟨w.heap.size+1,0,none⟩=false:=n1.keepF (v:=.int .i64 0) (by go_simp) (by go_simp)
 have e1:W1.cell? ⟨w.heap.size+1,1,none⟩=some (.int .i64 0):=n1.keep (by go_simp)
 have f1:W1.frozen? ⟨w.heap.size+1,1,none⟩=false:=n1.keepF (v:=.int .i64 0) (by go_simp) (by go_simp)
 have e2:W1.cell? ⟨w.heap.size+1,2,none⟩=some (.int .i64 0):=n1.keep (by go_simp)
 have f2:W1.frozen? ⟨w.heap.size+1,2,none⟩=false:=n1.keepF (v:=.int .i64 0) (by go_simp) (by go_simp)
 have e3:W1.cell? ⟨w.heap.size+1,3,none⟩=some (.int .i64 0):=n1.keep (by go_simp)
 have f3:W1.frozen? ⟨w.heap.size+1,3,none⟩=false:=n1.keepF (v:=.int .i64 0) (by go_simp) (by go_simp)
 have hn:New w W1:=New.trans (by exact nw) n1
 clear n1 KA c0 c1 c2 c3 c4 c5 c6 c7 c8 c9
 go_wp2_with fail
 refine bodyPost_ret (v:=.tuple #[.agg #[.int .i64 rx,.int .i64 rz,.int .i64 ry,.int .i64 rd],.bool rb]) (by simp[results,Tryz.results268,go_sem, *]) rfl ?_
 exact⟨rfl,by exact nw⟩
theorem own_mono {w:World} {base base':Nat} {e:TypeId} {size:Nat} {v:Value} {n:Nat} {xs:List Value} (h:w.ownsRow base e size v n xs) (hb:base'≤base):w.ownsRow base' e size v n xs :=
 ⟨h.1,h.2.imp id fun⟨g,cap,cur,h1,h2,h3⟩=>⟨g,cap,cur,h1,Nat.le_trans hb h2,h3⟩⟩
theorem gat_len {β:Type} (x z:Int) (f:β→Option Co) (L:List β):(gat x z f L).length≤L.length:=List.length_filterMap_le _ _
theorem side_ok {T:TriR} (hk:okT T=true) (i:Nat):SdOk (side T i):=by
 have hs:=ok_in hk
 unfold StP StV at hs
 match i with
 | 0=>constructor <;> simp only[side] <;> omega
 | 1=>constructor <;> simp only[side] <;> omega
 | i+2=>constructor <;> simp only[side] <;> omega
theorem line_ok {x z:Int} (hx : -1≤x∧x≤32) (hz : -1≤z∧z≤32) {l:Ln} (h:l∈lineL x z):LnOk l:=by
 unfold lineL at h
 simp only[List.mem_cons,List.not_mem_nil,or_false]at h
 rcases h with rfl|rfl|rfl|rfl <;> constructor <;> simp only[] <;> omega
theorem above_okc {T:TriR} (hk:okT T=true) {x z:Int} (hx : -1≤x∧x≤32) (hz : -1≤z∧z≤32) {p:Int×Int} (h:p∈cornL x z) {c:Co} (hc:aboveO T p=some c):Okc c:=by
 have b:=corn_in hx hz h
 unfold aboveO at hc
 split at hc
 ·injection hc with hc;subst hc;exact abC_ok hk (by omega) (by omega)
 ·cases hc
theorem cross_okc {T:TriR} (hk:okT T=true) {x z:Int} (hx : -1≤x∧x≤32) (hz : -1≤z∧z≤32) (i:Nat) {l:Ln} (h:l∈lineL x z) {c:Co} (hc:crossO (side T i) l=some c):Okc c:=by
 unfold crossO at hc
 split at hc
 ·cases hc
 ·rename_i hs;injection hc with hc;subst hc;exact crC_ok (side_ok hk i) (line_ok hx hz h) hs
structure Com (w1:World) (tb cb:Nat) (T:TriR) (x z:Int) (wr:World) (v:Value) (l:List Co):Prop where
 g:Gat w1 w1.heap.size wr v l
 tt:Typ w1 tb 64
 tc:Typ w1 cb 312
 t:TAt w1 tb T
 c0:w1.cell? ⟨cb,0,none⟩=some (.int .i64 x)
 c1:w1.cell? ⟨cb,1,none⟩=some (.int .i64 z)
theorem Com.tri {w1 wr:World} {tb cb:Nat} {T:TriR} {x z:Int} {v:Value} {l:List Co} (h:Com w1 tb cb T x z wr v l):TAt wr tb T:=h.g.ex.tri h.tt h.t
theorem Com.col {w1 wr:World} {tb cb:Nat} {T:TriR} {x z:Int} {v:Value} {l:List Co} (h:Com w1 tb cb T x z wr v l):wr.cell? ⟨cb,0,none⟩=some (.int .i64 x)∧wr.cell? ⟨cb,1,none⟩=some (.int .i64 z) :=
 ⟨h.g.ex.cell h.tc (by decide) h.c0,h.g.ex.cell h.tc (by decide) h.c1⟩
theorem Com.new {w1 wr wr':World} {tb cb:Nat} {T:TriR} {x z:Int} {v:Value} {l:List Co} (h:Com w1 tb cb T x z wr v l) (n:New wr wr'):Com w1 tb cb T x z wr' v l:=⟨h.g.new n,h.tt,h.tc,h.t,h.c0,h.c1⟩
theorem Gat.trans {a b c:World} {base:Nat} {v v':Value} {l m:List Co} (h:Gat a base b v l) (k:Gat b base c v' m):Gat a base c v' m:=⟨h.ex.trans k.ex,h.past.trans k.past,k.own⟩
theorem Com.more {w1 wr wr':World} {tb cb:Nat} {T:TriR} {x z:Int} {v v':Value} {l m:List Co} (h:Com w1 tb cb T x z wr v l) (k:Gat wr w1.heap.size wr' v' m):Com w1 tb cb T x z wr' v' m:=⟨h.g.trans k,h.tt,h.tc,h.t,h.c0,h.c1⟩
def k_r1V (x z:Int) (tb:Nat):Nat→World→Value→Prop
 | 0,_,v=>v=.agg #[.int .i64 x,.int .i64 z]
 | 1,_,v=>v=.agg #[.int .i64 x,.int .i64 z]
 | 2,w,v=>∃ g,v=.slice (some ⟨g,0,none⟩) 4 4∧RowAt La.enc 2 w g 0 (cornL x z)∧Typ w g 312
 | _,_,v=>v=.func (.func 268) #[] #[.pointer (some ⟨tb,0,none⟩)]
theorem k_r1V_keep {x z:Int} {tb:Nat}:∀ i w w' v,k_r1V x z tb i w v→New w w'→k_r1V x z tb i w' v:=by
 intro i w w' v h hn
 rcases(show i=0∨i=1∨i=2∨3≤i by omega)with rfl|rfl|rfl|hi
 ·exact h
 ·exact h
 ·obtain⟨g,e,h1,h2⟩:=h;exact⟨g,e,h1.keep hn,h2.keep hn⟩
 ·obtain⟨k,rfl⟩:∃ k,i=k+3:=⟨i - 3,by omega⟩
  exact h
def k_r6V (x z:Int) (s:Sd) (u:Value):Nat→World→Value→Prop
 | 0,_,v=>v=u
 | 1,_,v=>v=.agg #[.int .i64 x,.int .i64 z]
 | 2,_,v=>v=.agg #[.int .i64 x,.int .i64 z]
 | 3,w,v=>∃ g,v=.slice (some ⟨g,0,none⟩) 4 4∧RowAt Ln.enc 3 w g 0 (lineL x z)∧Typ w g 340
 | 4,_,v=>v=.agg #[.int .i64 s.ax,.int .i64 s.ay,.int .i64 s.az,.int .i64 s.bx,.int .i64 s.by',.int .i64 s.bz]
 | _,_,v=>v=.func (.func 272) #[.agg #[.int .i64 s.ax,.int .i64 s.ay,.int .i64 s.az,.int .i64 s.bx,.int .i64 s.by',.int .i64 s.bz]] #[]
theorem k_r6V_keep {x z:Int} {s:Sd} {u:Value}:∀ i w w' v,k_r6V x z s u i w v→New w w'→k_r6V x z s u i w' v:=by
 intro i w w' v h hn
 rcases(show i=0∨i=1∨i=2∨i=3∨i=4∨5≤i by omega)with rfl|rfl|rfl|rfl|rfl|hi
 ·exact h
 ·exact h
 ·exact h
 ·obtain⟨g,e,h1,h2⟩:=h;exact⟨g,e,h1.keep hn,h2.keep hn⟩
 ·exact h
 ·obtain⟨k,rfl⟩:∃ k,i=k+5:=⟨i - 5,by omega⟩
  exact h
theorem k_common (T:TriR) (hk:okT T=true) (x z:Int) (w:World) (hx : -1≤x∧x≤32) (hz : -1≤z∧z≤32) :
  Calls Tryz.prog 247 #[.agg #[.int .i64 T.i,.int .i64 T.x0,.int .i64 T.y0,.int .i64 T.z0,.int .i64 T.x1,.int .i64 T.y1,.int .i64 T.z1,.int .i64 T.x2,.int .i64 T.y2,.int .i64 T.z2],.agg #[.int .i64 x,.int .i64 z]] w fun e w'=>∃ v,e=.returned v∧w'.ownsRow w.heap.size 267 4 v (comL T x z).length ((comL T x z).flatMap Co.enc)∧New w w':=by
 have KC:=Lib.hid (fun W=>k_corners x z W hx hz)
 have KL:=Lib.hid (fun W=>k_lines x z W hx hz)
 have GA:=Lib.hid (fun(g tb:Nat) (W:World) (h1:RowAt La.enc 2 W g 0 (cornL x z)) (h2:Typ W g 312) (h3:TAt W tb T) (h4:Typ W tb 64) =>
  k_gatherA (.slice none 0 0) [] x z g (cornL x z) (aboveO T) tb W W.heap.size (Nat.le_refl _) hx hz (by simp) rfl (World.ownsRow_nil _ _ _ _) h1 h2 (fun p hp c hc=>above_okc hk hx hz hp hc)
   (fun p hp W' hE=>k_clo T hk p.1 p.2 tb W' (by have:=(corn_in hx hz hp).1;omega) (by have:=(corn_in hx hz hp).2;omega) (hE.tri h4 h3)))
 have GB:=Lib.hid (fun(i:Nat) (v:Value) (l:List Co) (g base:Nat) (W:World) (hb:base≤W.heap.size) (hl:l.length≤1000) (ho:W.ownsRow base 267 4 v l.length (l.flatMap Co.enc)) (h1:RowAt Ln.enc 3 W g 0 (lineL x z)) (h2:Typ W g 340) =>
  k_gatherB v l x z g (lineL x z) (crossO (side T i)) (side T i) W base hb hx hz hl rfl ho h1 h2 (fun p hp c hc=>cross_okc hk hx hz i hp hc)
   (fun p hp W' hE=>k_cross (side T i) p W' (side_ok hk i) (line_ok hx hz hp) _ rfl))
 clear hk
 go_enter Tryz.func247,Tryz.ntmps247
 go_upto_region 1 with fail
 refine Code.at (fun W0 hW=>?_)
 have n0:New w W0:=by subst hW;exact nw
 have HT0:TAt W0 w.heap.size T:=by subst hW;exact TAt.mk (by go_simp) (by go_simp) (by go_simp) (by go_simp) (by go_simp) (by go_simp) (by go_simp) (by go_simp) (by go_simp) (by go_simp)
 have HY0:Typ W0 w.heap.size 64:=by subst hW;exact Typ.keep (Typ.made w _ _) (by exact nw)
 have HY1:Typ W0 (w.heap.size+1) 312:=by subst hW;exact⟨_,_,heap_two _ _ _⟩
 have k0:W0.cell? ⟨w.heap.size+1,0,none⟩=some (.int .i64 x):=by subst hW;go_simp
 have k1:W0.cell? ⟨w.heap.size+1,1,none⟩=some (.int .i64 z):=by subst hW;go_simp
 clear hW
 refine wp_region_loose 4 (k_r1V x z w.heap.size) (by kernel_rfl) (by kernel_rfl) k_r1V_keep ?_ ?_
 ·intro i o hi ho a' w' nn hr hd
  rcases(show i=0∨i=1∨i=2∨i=3 by omega)with rfl|rfl|rfl|rfl <;> obtain rfl:=Option.some.inj ho
  ·have r3:(a'.tmps[3]?).getD undef=.pointer (some ⟨w.heap.size+1,0,none⟩):=(eval_get a' 3).symm.trans (hr 3 (by kernel_rfl))
   have x0:=nn.keep k0
   have x1:=nn.keep k1
   exact yields_value (.agg #[.int .i64 x,.int .i64 z]) (by go_simp) ⟨New.refl _,rfl⟩
  ·have r3:(a'.tmps[3]?).getD undef=.pointer (some ⟨w.heap.size+1,0,none⟩):=(eval_get a' 3).symm.trans (hr 3 (by kernel_rfl))
   have x0:=nn.keep k0
   have x1:=nn.keep k1
   exact yields_value (.agg #[.int .i64 x,.int .i64 z]) (by go_simp) ⟨New.refl _,rfl⟩
  ·have r9:(a'.tmps[9]?).getD undef=.agg #[.int .i64 x,.int .i64 z]:=(eval_get a' 9).symm.trans (hd 1 9 (by omega) (by kernel_rfl) (by kernel_rfl))
   refine yields_enter 267 #[.agg #[.int .i64 x,.int .i64 z]] (by go_simp) ((KC.out w').mono ?_)
   rintro e w'' ⟨g,he,h1,h2,h3⟩
   exact⟨_,he,h3,g,rfl,h1,h2⟩
  ·have r2:(a'.tmps[2]?).getD undef=.pointer (some ⟨w.heap.size,0,none⟩):=(eval_get a' 2).symm.trans (hr 2 (by kernel_rfl))
   exact yields_value (.func (.func 268) #[] #[.pointer (some ⟨w.heap.size,0,none⟩)]) (by go_simp) ⟨New.refl _,rfl⟩
 intro vs w1 nn hv
 have e0:vs 0=.agg #[.int .i64 x,.int .i64 z]:=hv 0 (by omega)
 obtain⟨g,e2,hg1,hg2⟩:∃ g,vs 2=.slice (some ⟨g,0,none⟩) 4 4∧RowAt La.enc 2 w1 g 0 (cornL x z)∧Typ w1 g 312:=hv 2 (by omega)
 have e3:vs 3=.func (.func 268) #[] #[.pointer (some ⟨w.heap.size,0,none⟩)]:=hv 3 (by omega)
 have hT1:TAt w1 w.heap.size T:=fun i hi=>nn.keep (HT0 i hi)
 have GA1:=Lib.hid (GA.out g w.heap.size w1 hg1 hg2 hT1 (HY0.keep nn))
 have n1:New w w1:=n0.trans nn
 have HY0':=HY0.keep nn
 have HY1':=HY1.keep nn
 replace k0:=nn.keep k0
 replace k1:=nn.keep k1
 simp only[List.take_succ_cons,List.take_zero,List.drop_succ_cons,List.drop_zero,putL,Act.put,List.setIfInBounds_toArray,List.set_cons_zero,List.set_cons_succ,Nat.reduceAdd,Nat.zero_add]
 rw[e0,e2,e3]
 have HN1:=Lib.hid n1
 have HZ:Hid (∀ wr v l,Gat w1 w1.heap.size wr v l→Com w1 w.heap.size (w.heap.size+1) T x z wr v l):=Lib.hid (fun wr v l h=>⟨h,HY0',HY1',hT1,k0,k1⟩)
 clear hv e0 e2 e3 hg1 hg2 hT1 HT0 HY0 HY1 HY0' HY1' k0 k1 nn n0 KC GA n1
 go_wp2_with fail
 refine GA1.out.mono ?_
 rintro e V ⟨v,rfl,hG⟩
 have HC:=Lib.hid (HZ.out _ _ _ hG)
 clear hG GA1 HZ
 rw[List.nil_append]at HC
 have hlen:(gat x z (aboveO T) (cornL x z)).length≤4:=gat_len x z (aboveO T) (cornL x z)
 obtain⟨l0,hl0⟩:∃ l0,l0=gat x z (aboveO T) (cornL x z):=⟨_,rfl⟩
 rw[←hl0]at HC hlen
 have HL0:=Lib.hid hl0
 clear hl0
 go_wp2_with fail
 refine wp_loop_rounds 4 ?_
 rw[rounds_succ]
 go_upto_region 5 with fail
 obtain⟨c0,c1,c2,c3,c4,c5,c6,c7,c8,c9⟩:=HC.out.tri.cells
 have zt:w.heap.size<V.heap.size:=World.block_lt_of_cell? _ _ c0
 go_cut [7] (fun s7 Z=>∃ b:Nat,s7=.pointer (some ⟨b,0,none⟩)∧New V Z∧Z.cell? ⟨b,0,none⟩=some (.int .i64 T.x0)∧Z.cell? ⟨b,1,none⟩=some (.int .i64 T.y0)∧Z.cell? ⟨b,2,none⟩=some (.int .i64 T.z0)∧Z.cell? ⟨b,3,none⟩=some (.int .i64 T.x1)∧Z.cell? ⟨b,4,none⟩=some (.int .i64 T.y1)∧Z.cell? ⟨b,5,none⟩=some (.int .i64 T.z1))
 case first =>
  go_region
  all_goals
   go_wp2_with fail
   go_meet
   exact⟨_,rfl,by exact nw,by go_simp,by go_simp,by go_simp,by go_simp,by go_simp,by go_simp⟩
 case rest =>
  obtain⟨sb,rfl,nZ,p0,p1,p2,p3,p4,p5⟩:=hcut
  clear c0 c1 c2 c3 c4 c5 c6 c7 c8 c9 zt
  rename World=>X
  replace HC:=Lib.hid (HC.out.new nZ)
  clear nZ
  obtain⟨k0,k1⟩:=HC.out.col
  go_upto_region 6 with fail
  refine wp_region_loose 6 (k_r6V x z (side T 0) v) (by kernel_rfl) (by kernel_rfl) k_r6V_keep ?_ ?_
  ·intro i o hi ho a' w' nn hr hd
   rcases(show i=0∨i=1∨i=2∨i=3∨i=4∨i=5 by omega)with rfl|rfl|rfl|rfl|rfl|rfl <;> obtain rfl:=Option.some.inj ho
   ·have r5:(a'.tmps[5]?).getD undef=v:=(eval_get a' 5).symm.trans (hr 5 (by kernel_rfl))
    exact yields_value v (by go_simp) ⟨New.refl _,rfl⟩
   ·have r3:(a'.tmps[3]?).getD undef=.pointer (some ⟨w.heap.size+1,0,none⟩):=(eval_get a' 3).symm.trans (hr 3 (by kernel_rfl))
    have x0:=nn.keep k0
    have x1:=nn.keep k1
    exact yields_value (.agg #[.int .i64 x,.int .i64 z]) (by go_simp) ⟨New.refl _,rfl⟩
   ·have r3:(a'.tmps[3]?).getD undef=.pointer (some ⟨w.heap.size+1,0,none⟩):=(eval_get a' 3).symm.trans (hr 3 (by kernel_rfl))
    have x0:=nn.keep k0
    have x1:=nn.keep k1
    exact yields_value (.agg #[.int .i64 x,.int .i64 z]) (by go_simp) ⟨New.refl _,rfl⟩
   ·have r29:(a'.tmps[29]?).getD undef=.agg #[.int .i64 x,.int .i64 z]:=(eval_get a' 29).symm.trans (hd 2 29 (by omega) (by kernel_rfl) (by kernel_rfl))
    refine yields_enter 271 #[.agg #[.int .i64 x,.int .i64 z]] (by go_simp) ((KL.out w').mono ?_)
    rintro e w'' ⟨g,he,h1,h2,h3⟩
    exact⟨_,he,h3,g,rfl,h1,h2⟩
   ·have r7:(a'.tmps[7]?).getD undef=.pointer (some ⟨sb,0,none⟩):=(eval_get a' 7).symm.trans (hr 7 (by kernel_rfl))
    have x0:=nn.keep p0
    have x1:=nn.keep p1
    have x2:=nn.keep p2
    have x3:=nn.keep p3
    have x4:=nn.keep p4
    have x5:=nn.keep p5
    exact yields_value (.agg #[.int .i64 T.x0,.int .i64 T.y0,.int .i64 T.z0,.int .i64 T.x1,.int .i64 T.y1,.int .i64 T.z1]) (by go_simp) ⟨New.refl _,rfl⟩
   ·have r31:(a'.tmps[31]?).getD undef=.agg #[.int .i64 T.x0,.int .i64 T.y0,.int .i64 T.z0,.int .i64 T.x1,.int .i64 T.y1,.int .i64 T.z1]:=(eval_get a' 31).symm.trans (hd 4 31 (by omega) (by kernel_rfl) (by kernel_rfl))
    exact yields_value (.func (.func 272) #[.agg #[.int .i64 T.x0,.int .i64 T.y0,.int .i64 T.z0,.int .i64 T.x1,.int .i64 T.y1,.int .i64 T.z1]] #[]) (by go_simp) ⟨New.refl _,rfl⟩
  intro vs Y nn hv
  have e0:vs 0=v:=hv 0 (by omega)
  have e1:vs 1=.agg #[.int .i64 x,.int .i64 z]:=hv 1 (by omega)
  obtain⟨g0,e3,hg1,hg2⟩:∃ g,vs 3=.slice (some ⟨g,0,none⟩) 4 4∧RowAt Ln.enc 3 Y g 0 (lineL x z)∧Typ Y g 340:=hv 3 (by omega)
  have e5:vs 5=.func (.func 272) #[.agg #[.int .i64 T.x0,.int .i64 T.y0,.int .i64 T.z0,.int .i64 T.x1,.int .i64 T.y1,.int .i64 T.z1]] #[]:=hv 5 (by omega)
  replace HC:=Lib.hid (HC.out.new nn)
  have GB1:=Lib.hid (GB.out 0 v l0 g0 w1.heap.size Y (HC.out.g.ex.size) (by omega) HC.out.g.own hg1 hg2)
  simp only[side]at GB1
  simp only[List.take_succ_cons,List.take_zero,List.drop_succ_cons,List.drop_zero,putL,Act.put,List.setIfInBounds_toArray,List.set_cons_zero,List.set_cons_succ,Nat.reduceAdd,Nat.zero_add]
  rw[e0,e1,e3,e5]
  clear hv e0 e1 e3 e5 hg1 hg2 k0 k1 nn p0 p1 p2 p3 p4 p5
  go_wp2_with fail
  refine GB1.out.mono ?_
  rintro e V1 ⟨v1,rfl,hG⟩
  replace HC:=Lib.hid (HC.out.more hG)
  clear hG GB1
  obtain⟨l1,hl1⟩:∃ m,m=l0++gat x z (crossO (side T 0)) (lineL x z):=⟨_,rfl⟩
  have hlen1:l1.length≤8:=by rw[hl1,List.length_append];have:(gat x z (crossO (side T 0)) (lineL x z)).length≤4:=gat_len x z _ (lineL x z);omega
  change Hid (Com w1 _ _ T x z V1 v1 (l0++gat x z (crossO (side T 0)) (lineL x z)))at HC
  rw[←hl1]at HC
  have HL1:=Lib.hid hl1
  clear hl1
  go_wp2_with fail
  rw[rounds_succ]
  go_upto_region 5 with fail
  obtain⟨c0,c1,c2,c3,c4,c5,c6,c7,c8,c9⟩:=HC.out.tri.cells
  have zt:w.heap.size<V1.heap.size:=World.block_lt_of_cell? _ _ c0
  go_cut [7] (fun s7 Z=>∃ b:Nat,s7=.pointer (some ⟨b,0,none⟩)∧New V1 Z∧Z.cell? ⟨b,0,none⟩=some (.int .i64 T.x1)∧Z.cell? ⟨b,1,none⟩=some (.int .i64 T.y1)∧Z.cell? ⟨b,2,none⟩=some (.int .i64 T.z1)∧Z.cell? ⟨b,3,none⟩=some (.int .i64 T.x2)∧Z.cell? ⟨b,4,none⟩=some (.int .i64 T.y2)∧Z.cell? ⟨b,5,none⟩=some (.int .i64 T.z2))
  case first =>
   go_region
   all_goals
    go_wp2_with fail
    go_meet
    exact⟨_,rfl,by exact nw,by go_simp,by go_simp,by go_simp,by go_simp,by go_simp,by go_simp⟩
  case rest =>
   obtain⟨sb,rfl,nZ,p0,p1,p2,p3,p4,p5⟩:=hcut
   clear c0 c1 c2 c3 c4 c5 c6 c7 c8 c9 zt
   rename World=>X
   replace HC:=Lib.hid (HC.out.new nZ)
   clear nZ
   obtain⟨k0,k1⟩:=HC.out.col
   go_upto_region 6 with fail
   refine wp_region_loose 6 (k_r6V x z (side T 1) v1) (by kernel_rfl) (by kernel_rfl) k_r6V_keep ?_ ?_
   ·intro i o hi ho a' w' nn hr hd
    rcases(show i=0∨i=1∨i=2∨i=3∨i=4∨i=5 by omega)with rfl|rfl|rfl|rfl|rfl|rfl <;> obtain rfl:=Option.some.inj ho
    ·have r5:(a'.tmps[5]?).getD undef=v1:=(eval_get a' 5).symm.trans (hr 5 (by kernel_rfl))
     exact yields_value v1 (by go_simp) ⟨New.refl _,rfl⟩
    ·have r3:(a'.tmps[3]?).getD undef=.pointer (some ⟨w.heap.size+1,0,none⟩):=(eval_get a' 3).symm.trans (hr 3 (by kernel_rfl))
     have x0:=nn.keep k0
     have x1:=nn.keep k1
     exact yields_value (.agg #[.int .i64 x,.int .i64 z]) (by go_simp) ⟨New.refl _,rfl⟩
    ·have r3:(a'.tmps[3]?).getD undef=.pointer (some ⟨w.heap.size+1,0,none⟩):=(eval_get a' 3).symm.trans (hr 3 (by kernel_rfl))
     have x0:=nn.keep k0
     have x1:=nn.keep k1
     exact yields_value (.agg #[.int .i64 x,.int .i64 z]) (by go_simp) ⟨New.refl _,rfl⟩
    ·have r29:(a'.tmps[29]?).getD undef=.agg #[.int .i64 x,.int .i64 z]:=(eval_get a' 29).symm.trans (hd 2 29 (by omega) (by kernel_rfl) (by kernel_rfl))
     refine yields_enter 271 #[.agg #[.int .i64 x,.int .i64 z]] (by go_simp) ((KL.out w').mono ?_)
     rintro e w'' ⟨g,he,h1,h2,h3⟩
     exact⟨_,he,h3,g,rfl,h1,h2⟩
    ·have r7:(a'.tmps[7]?).getD undef=.pointer (some ⟨sb,0,none⟩):=(eval_get a' 7).symm.trans (hr 7 (by kernel_rfl))
     have x0:=nn.keep p0
     have x1:=nn.keep p1
     have x2:=nn.keep p2
     have x3:=nn.keep p3
     have x4:=nn.keep p4
     have x5:=nn.keep p5
     exact yields_value (.agg #[.int .i64 T.x1,.int .i64 T.y1,.int .i64 T.z1,.int .i64 T.x2,.int .i64 T.y2,.int .i64 T.z2]) (by go_simp) ⟨New.refl _,rfl⟩
    ·have r31:(a'.tmps[31]?).getD undef=.agg #[.int .i64 T.x1,.int .i64 T.y1,.int .i64 T.z1,.int .i64 T.x2,.int .i64 T.y2,.int .i64 T.z2]:=(eval_get a' 31).symm.trans (hd 4 31 (by omega) (by kernel_rfl) (by kernel_rfl))
     exact yields_value (.func (.func 272) #[.agg #[.int .i64 T.x1,.int .i64 T.y1,.int .i64 T.z1,.int .i64 T.x2,.int .i64 T.y2,.int .i64 T.z2]] #[]) (by go_simp) ⟨New.refl _,rfl⟩
   intro vs Y nn hv
   have e0:vs 0=v1:=hv 0 (by omega)
   have e1:vs 1=.agg #[.int .i64 x,.int .i64 z]:=hv 1 (by omega)
   obtain⟨g1,e3,hg1,hg2⟩:∃ g,vs 3=.slice (some ⟨g,0,none⟩) 4 4∧RowAt Ln.enc 3 Y g 0 (lineL x z)∧Typ Y g 340:=hv 3 (by omega)
   have e5:vs 5=.func (.func 272) #[.agg #[.int .i64 T.x1,.int .i64 T.y1,.int .i64 T.z1,.int .i64 T.x2,.int .i64 T.y2,.int .i64 T.z2]] #[]:=hv 5 (by omega)
   replace HC:=Lib.hid (HC.out.new nn)
   have GB1:=Lib.hid (GB.out 1 v1 l1 g1 w1.heap.size Y (HC.out.g.ex.size) (by omega) HC.out.g.own hg1 hg2)
   simp only[side]at GB1
   simp only[List.take_succ_cons,List.take_zero,List.drop_succ_cons,List.drop_zero,putL,Act.put,List.setIfInBounds_toArray,List.set_cons_zero,List.set_cons_succ,Nat.reduceAdd,Nat.zero_add]
   rw[e0,e1,e3,e5]
   clear hv e0 e1 e3 e5 hg1 hg2 k0 k1 nn p0 p1 p2 p3 p4 p5
   go_wp2_with fail
   refine GB1.out.mono ?_
   rintro e V2 ⟨v2,rfl,hG⟩
   replace HC:=Lib.hid (HC.out.more hG)
   clear hG GB1
   obtain⟨l2,hl2⟩:∃ m,m=l1++gat x z (crossO (side T 1)) (lineL x z):=⟨_,rfl⟩
   have hlen2:l2.length≤12:=by rw[hl2,List.length_append];have:(gat x z (crossO (side T 1)) (lineL x z)).length≤4:=gat_len x z _ (lineL x z);omega
   change Hid (Com w1 _ _ T x z V2 v2 (l1++gat x z (crossO (side T 1)) (lineL x z)))at HC
   rw[←hl2]at HC
   have HL2:=Lib.hid hl2
   clear hl2
   go_wp2_with fail
   rw[rounds_succ]
   go_upto_region 5 with fail
   obtain⟨c0,c1,c2,c3,c4,c5,c6,c7,c8,c9⟩:=HC.out.tri.cells
   have zt:w.heap.size<V2.heap.size:=World.block_lt_of_cell? _ _ c0
   go_cut [7] (fun s7 Z=>∃ b:Nat,s7=.pointer (some ⟨b,0,none⟩)∧New V2 Z∧Z.cell? ⟨b,0,none⟩=some (.int .i64 T.x2)∧Z.cell? ⟨b,1,none⟩=some (.int .i64 T.y2)∧Z.cell? ⟨b,2,none⟩=some (.int .i64 T.z2)∧Z.cell? ⟨b,3,none⟩=some (.int .i64 T.x0)∧Z.cell? ⟨b,4,none⟩=some (.int .i64 T.y0)∧Z.cell? ⟨b,5,none⟩=some (.int .i64 T.z0))
   case first =>
    go_region
    all_goals
     go_wp2_with fail
     go_meet
     exact⟨_,rfl,by exact nw,by go_simp,by go_simp,by go_simp,by go_simp,by go_simp,by go_simp⟩
   case rest =>
    obtain⟨sb,rfl,nZ,p0,p1,p2,p3,p4,p5⟩:=hcut
    clear c0 c1 c2 c3 c4 c5 c6 c7 c8 c9 zt
    rename World=>X
    replace HC:=Lib.hid (HC.out.new nZ)
    clear nZ
    obtain⟨k0,k1⟩:=HC.out.col
    go_upto_region 6 with fail
    refine wp_region_loose 6 (k_r6V x z (side T 2) v2) (by kernel_rfl) (by kernel_rfl) k_r6V_keep ?_ ?_
    ·intro i o hi ho a' w' nn hr hd
     rcases(show i=0∨i=1∨i=2∨i=3∨i=4∨i=5 by omega)with rfl|rfl|rfl|rfl|rfl|rfl <;> obtain rfl:=Option.some.inj ho
     ·have r5:(a'.tmps[5]?).getD undef=v2:=(eval_get a' 5).symm.trans (hr 5 (by kernel_rfl))
      exact yields_value v2 (by go_simp) ⟨New.refl _,rfl⟩
     ·have r3:(a'.tmps[3]?).getD undef=.pointer (some ⟨w.heap.size+1,0,none⟩):=(eval_get a' 3).symm.trans (hr 3 (by kernel_rfl))
      have x0:=nn.keep k0
      have x1:=nn.keep k1
      exact yields_value (.agg #[.int .i64 x,.int .i64 z]) (by go_simp) ⟨New.refl _,rfl⟩
     ·have r3:(a'.tmps[3]?).getD undef=.pointer (some ⟨w.heap.size+1,0,none⟩):=(eval_get a' 3).symm.trans (hr 3 (by kernel_rfl))
      have x0:=nn.keep k0
      have x1:=nn.keep k1
      exact yields_value (.agg #[.int .i64 x,.int .i64 z]) (by go_simp) ⟨New.refl _,rfl⟩
     ·have r29:(a'.tmps[29]?).getD undef=.agg #[.int .i64 x,.int .i64 z]:=(eval_get a' 29).symm.trans (hd 2 29 (by omega) (by kernel_rfl) (by kernel_rfl))
      refine yields_enter 271 #[.agg #[.int .i64 x,.int .i64 z]] (by go_simp) ((KL.out w').mono ?_)
      rintro e w'' ⟨g,he,h1,h2,h3⟩
      exact⟨_,he,h3,g,rfl,h1,h2⟩
     ·have r7:(a'.tmps[7]?).getD undef=.pointer (some ⟨sb,0,none⟩):=(eval_get a' 7).symm.trans (hr 7 (by kernel_rfl))
      have x0:=nn.keep p0
      have x1:=nn.keep p1
      have x2:=nn.keep p2
      have x3:=nn.keep p3
      have x4:=nn.keep p4
      have x5:=nn.keep p5
      exact yields_value (.agg #[.int .i64 T.x2,.int .i64 T.y2,.int .i64 T.z2,.int .i64 T.x0,.int .i64 T.y0,.int .i64 T.z0]) (by go_simp) ⟨New.refl _,rfl⟩
     ·have r31:(a'.tmps[31]?).getD undef=.agg #[.int .i64 T.x2,.int .i64 T.y2,.int .i64 T.z2,.int .i64 T.x0,.int .i64 T.y0,.int .i64 T.z0]:=(eval_get a' 31).symm.trans (hd 4 31 (by omega) (by kernel_rfl) (by kernel_rfl))
      exact yields_value (.func (.func 272) #[.agg #[.int .i64 T.x2,.int .i64 T.y2,.int .i64 T.z2,.int .i64 T.x0,.int .i64 T.y0,.int .i64 T.z0]] #[]) (by go_simp) ⟨New.refl _,rfl⟩
    intro vs Y nn hv
    have e0:vs 0=v2:=hv 0 (by omega)
    have e1:vs 1=.agg #[.int .i64 x,.int .i64 z]:=hv 1 (by omega)
    obtain⟨g2,e3,hg1,hg2⟩:∃ g,vs 3=.slice (some ⟨g,0,none⟩) 4 4∧RowAt Ln.enc 3 Y g 0 (lineL x z)∧Typ Y g 340:=hv 3 (by omega)
    have e5:vs 5=.func (.func 272) #[.agg #[.int .i64 T.x2,.int .i64 T.y2,.int .i64 T.z2,.int .i64 T.x0,.int .i64 T.y0,.int .i64 T.z0]] #[]:=hv 5 (by omega)
    replace HC:=Lib.hid (HC.out.new nn)
    have GB1:=Lib.hid (GB.out 2 v2 l2 g2 w1.heap.size Y (HC.out.g.ex.size) (by omega) HC.out.g.own hg1 hg2)
    simp only[side]at GB1
    simp only[List.take_succ_cons,List.take_zero,List.drop_succ_cons,List.drop_zero,putL,Act.put,List.setIfInBounds_toArray,List.set_cons_zero,List.set_cons_succ,Nat.reduceAdd,Nat.zero_add]
    rw[e0,e1,e3,e5]
    clear hv e0 e1 e3 e5 hg1 hg2 k0 k1 nn p0 p1 p2 p3 p4 p5
    go_wp2_with fail
    refine GB1.out.mono ?_
    rintro e V3 ⟨v3,rfl,hG⟩
    replace HC:=Lib.hid (HC.out.more hG)
    clear hG GB1
    obtain⟨l3,hl3⟩:∃ m,m=l2++gat x z (crossO (side T 2)) (lineL x z):=⟨_,rfl⟩
    have hlen3:l3.length≤16:=by rw[hl3,List.length_append];have:(gat x z (crossO (side T 2)) (lineL x z)).length≤4:=gat_len x z _ (lineL x z);omega
    change Hid (Com w1 _ _ T x z V3 v3 (l2++gat x z (crossO (side T 2)) (lineL x z)))at HC
    rw[←hl3]at HC
    have HL3:=Lib.hid hl3
    clear hl3
    go_wp2_with fail
    rw[rounds_succ]
    go_wp2_with fail
    go_ret
    have e:l3=comL T x z:=by rw[HL3.out,HL2.out,HL1.out,HL0.out];rfl
    rw[←e]
    exact⟨_,rfl,own_mono HC.out.g.own HN1.out.size,HC.out.g.past w HN1.out HN1.out.size⟩
end Go.Proofs.YtmhghnbgllaihaaGreatDoor
