import Derived.Test.YtmhghnbgllaihaaGreatDoorBinsJP1Z1
import Derived.Test.YtmhghnbgllaihaaGreatDoorSoGP1Z1
import Derived.Test.YtmhghnbgllaihaaGreatDoorStoBP1Z1
import Derived.Test.YtmhghnbgllaihaaGreatDoorLkGP1Z1
import Derived.Test.YtmhghnbgllaihaaGreatDoorOgIP1Z1
import Derived.Test.YtmhghnbgllaihaaGreatDoorWholeMP1Z1
import Derived.Test.YtmhghnbgllaihaaGreatDoorSoLSP1Z1

namespace Go.Proofs.YtmhghnbgllaihaaGreatDoor
open Go.RowKit
set_option linter.unusedVariables false
set_option maxRecDepth 100000
def boxE (C:CfgR) (X:BoxR):Int:=if C.err≠0 then 20 else if X.may C=true then 0 else 2
def boxesL (C:CfgR) (X:BoxR):List Int:=if boxE C X=0 then tilesL C.cl C.cb C.ht C.ri C.ru C.wd C.dp X.x0 X.z0 X.x1 X.z1 else []
theorem one_listB (C:CfgR) (X:BoxR):BoxR.listB C [X]=X.may C:=by
  unfold BoxR.listB
  have h:(List.range [X].length)=[0]:=rfl
  rw[h,List.all_cons,List.all_nil,BoxR.okAt_zero C [X] (by simp)]
  simp
def boxV1 (b:Nat) (X:BoxR):SoupV:=⟨[],[X],[],none,some ⟨b,0,none⟩,none,0,1,0⟩
theorem one_err (C:CfgR) (X:BoxR) (b:Nat):(boxV1 b X).err C=boxE C X:=by
  unfold SoupV.err boxE
  have e1:TriR.listB C (boxV1 b X).ts=true:=rfl
  have e2:BoxR.listB C (boxV1 b X).bs=X.may C:=one_listB C X
  have e3:HopR.listB C (boxV1 b X).hs=true:=rfl
  rw[e1,e2,e3]
  simp
theorem one_ok (X:BoxR) {b:Nat} {W:World} (h:CellsAt W b 0 X.enc):(boxV1 b X).ok W :=
  ⟨Sl.nil,⟨some ⟨b,0,none⟩,1,rfl,Nat.le_refl _,by decide,fun e=>(by cases e),fun _=>⟨b,0,rfl,fun j hj=>by
    obtain rfl:j=0:=by have:j<1:=hj;omega
    rw[Nat.zero_mul];exact h⟩⟩,Sl.nil⟩
set_option maxHeartbeats 4000000 in
theorem bBoxes_any (C:CfgR) (X:BoxR) (w:World) (hl:Nowhere w) :
    Calls Tryz.prog 137 #[.agg #[.int .i64 C.cl,.int .i64 C.cb,.int .i64 C.ht,.int .i64 C.ri,.int .i64 C.ru,.int .i64 C.wd,.int .i64 C.dp],.agg #[.int .i64 X.i,.int .i64 X.x0,.int .i64 X.z0,.int .i64 X.x1,.int .i64 X.z1,.int .i64 X.y0,.int .i64 X.y1,.int .i64 X.ar]] w (ListPost (boxE C X) (boxesL C X) w):=by
  have KC:=Lib.hid (fun b W h=>s_check C (boxV1 b X) W h)
  simp only[one_err]at KC
  unfold boxesL
  have HX:=Lib.hid (fun b W h=>one_ok (b:=b) (W:=W) X h)
  generalize boxE C X=c at *
  by_cases h0:c=0
  rotate_left
  · rw[if_neg h0]
    have hne:(c != 0)=true:=by simpa using h0
    clear h0
    go_enter Tryz.func137,Tryz.ntmps137
    go_wp2_with fail
    obtain⟨W,hW⟩:∃ W,W=((w.alloc (.cells C.enc.toArray 23)).alloc (.cells X.enc.toArray 66)).alloc (.cells X.enc.toArray 66):=⟨_,rfl⟩
    have hn:New w W:=by subst hW;exact nw
    have hx:CellsAt W (w.heap.size+1+1) 0 X.enc:=by
      subst hW
      have:=cells_new ((w.alloc (.cells C.enc.toArray 23)).alloc (.cells X.enc.toArray 66)) X.enc.toArray 66
      simpa using this
    simp only[CfgR.enc,BoxR.enc]at hW
    rw[←hW]
    clear hW
    refine(KC.out _ _ (HX.out _ _ hx)).mono ?_
    rintro e w1 ⟨rfl,n1⟩
    replace hn:=hn.trans n1
    go_wp2_with fail
    go_ret2
    exact⟨_,rfl,Sl.nil,hn⟩
  · subst h0
    rw[if_pos rfl]
    go_enter Tryz.func137,Tryz.ntmps137
    go_wp2_with fail
    obtain⟨W,hW⟩:∃ W,W=((w.alloc (.cells C.enc.toArray 23)).alloc (.cells X.enc.toArray 66)).alloc (.cells X.enc.toArray 66):=⟨_,rfl⟩
    have hn:New w W:=by subst hW;exact nw
    have hx:CellsAt W (w.heap.size+1+1) 0 X.enc:=by
      subst hW
      have:=cells_new ((w.alloc (.cells C.enc.toArray 23)).alloc (.cells X.enc.toArray 66)) X.enc.toArray 66
      simpa using this
    simp only[CfgR.enc,BoxR.enc]at hW
    ((have c0:W.cell? ⟨w.heap.size,0,none⟩=some (.int .i64 C.cl):=(by subst hW;go_simp));(have c1:W.cell? ⟨w.heap.size,1,none⟩=some (.int .i64 C.cb):=(by subst hW;go_simp));(have c2:W.cell? ⟨w.heap.size,2,none⟩=some (.int .i64 C.ht):=(by subst hW;go_simp));(have c3:W.cell? ⟨w.heap.size,3,none⟩=some (.int .i64 C.ri):=(by subst hW;go_simp));(have c4:W.cell? ⟨w.heap.size,4,none⟩=some (.int .i64 C.ru):=(by subst hW;go_simp));(have c5:W.cell? ⟨w.heap.size,5,none⟩=some (.int .i64 C.wd):=(by subst hW;go_simp));(have c6:W.cell? ⟨w.heap.size,6,none⟩=some (.int .i64 C.dp):=(by subst hW;go_simp)))
    have d1:W.cell? ⟨w.heap.size+1,1,none⟩=some (.int .i64 X.x0):=by subst hW;go_simp
    have d2:W.cell? ⟨w.heap.size+1,2,none⟩=some (.int .i64 X.z0):=by subst hW;go_simp
    have d3:W.cell? ⟨w.heap.size+1,3,none⟩=some (.int .i64 X.x1):=by subst hW;go_simp
    have d4:W.cell? ⟨w.heap.size+1,4,none⟩=some (.int .i64 X.z1):=by subst hW;go_simp
    rw[←hW]
    clear hW
    refine(KC.out _ _ (HX.out _ _ hx)).mono ?_
    rintro e w1 ⟨rfl,n1⟩
    ((replace c0:=New.keep n1 c0);(replace c1:=New.keep n1 c1);(replace c2:=New.keep n1 c2);(replace c3:=New.keep n1 c3);(replace c4:=New.keep n1 c4);(replace c5:=New.keep n1 c5);(replace c6:=New.keep n1 c6))
    replace d1:=New.keep n1 d1
    replace d2:=New.keep n1 d2
    replace d3:=New.keep n1 d3
    replace d4:=New.keep n1 d4
    replace hn:=hn.trans n1
    clear n1 hx HX KC
    go_wp2_with fail
    refine(bEach_any C.cl C.cb C.ht C.ri C.ru C.wd C.dp X.x0 X.z0 X.x1 X.z1 w1).mono ?_
    rintro e w3 ⟨Bc,rfl,hE,-,-,n3⟩
    replace hn:=hn.trans n3
    clear c0 c1 c2 c3 c4 c5 c6 d1 d2 d3 d4
    unfold seqV
    go_wp2_with fail
    refine(bList_any C.cl C.cb C.ht C.ri C.ru C.wd C.dp X.x0 X.z0 X.x1 X.z1 Bc w3 hE (hl.new hn)).mono ?_
    rintro e w4 ⟨v,rfl,hrow,n4⟩
    go_wp2_with fail
    go_ret2
    exact⟨_,rfl,own_sl iE_len hrow,hn.trans n4⟩
end Go.Proofs.YtmhghnbgllaihaaGreatDoor

namespace Go.Proofs.YtmhghnbgllaihaaGreatDoor
open Go.RowKit
set_option linter.unusedVariables false
structure Sp where
  (c k:Nat)
instance:Inhabited Sp:=⟨⟨0,0⟩⟩
def Sp.eqB (a b:Sp):Bool:=(a.c:Int)==(b.c:Int)&&(a.k:Int)==(b.k:Int)
theorem Sp.eqB_iff (a b:Sp):a.eqB b=true↔a=b:=by
  obtain⟨a0,a1⟩:=a
  obtain⟨b0,b1⟩:=b
  simp only[Sp.eqB,Bool.and_eq_true,beq_iff_eq,Sp.mk.injEq]
  omega
instance:DecidableEq Sp:=fun a b=>decidable_of_iff _ (Sp.eqB_iff a b)
def spO (o:Option Sp):Sp:=o.getD ⟨0,0⟩
def Sp.enc (s:Sp):List Value:=#[.int .i64 ((s.c:Nat):Int),.int .i64 ((s.k:Nat):Int)].toList
theorem Sp.enc_len (s:Sp):s.enc.length=2:=rfl
theorem Sp.enc_one (s:Sp):∀ u∈s.enc,u.oneCell'=true:=by
  intro u hu
  simp[Sp.enc]at hu
  rcases hu with rfl|rfl <;> rfl
theorem Sp.cells {w:World} {b off:Nat} {l:List Sp} (H:RowAt Sp.enc 2 w b off l) (j:Nat) (h:j<l.length) :
    w.cell? ⟨b,off+j*2,none⟩=some (.int .i64 ((l[j].c:Nat):Int))∧w.cell? ⟨b,off+j*2+1,none⟩=some (.int .i64 ((l[j].k:Nat):Int)) :=
  ⟨H j h 0 (by rw[Sp.enc_len];omega),H j h 1 (by rw[Sp.enc_len];omega)⟩
def lkD (x:Lnk) (d:Int):Int:=if d=0 then x.a else if d=1 then x.b else if d=2 then x.c else x.d
def colM (M:List (List Lnk)) (c:Nat):List Lnk:=(M[c]?).getD []
def SpIn (M:List (List Lnk)) (s:Sp):Prop:=s.c<M.length∧s.k<(colM M s.c).length
theorem colM_at {M:List (List Lnk)} {c:Nat} (h:c<M.length):colM M c=M[c]:=by unfold colM;rw[List.getElem?_eq_getElem h];rfl
structure Net where
  W:Nat
  M:List (List Lnk)
  go:Sp→Int→Option Sp
  len:M.length≤4096
  col:∀ c,(colM M c).length≤8
  wle:W≤64
  dir:∀ s d t,go s d=some t→okD d=true
  is:∀ s (h:SpIn M s) d,okD d=true→lkD ((colM M s.c)[s.k]'h.2) d=match go s d with
    | some t=>((t.k:Nat):Int)
    | none => -1
  lead:∀ s,SpIn M s→∀ d t,go s d=some t→SpIn M t∧((t.c:Nat):Int)=s.c+dxD d+dzD d*W
  sym:SymP go (SpIn M)
theorem Net.small (N:Net) {s:Sp} (h:SpIn N.M s):s.c<4096∧s.k<8:=⟨Nat.lt_of_lt_of_le h.1 N.len,Nat.lt_of_lt_of_le h.2 (N.col s.c)⟩
structure GnAt (wd:Int) (v:Value) (W:World) (B:Nat):Prop where
  c0:W.cell? ⟨B,0,none⟩=some (.int .i64 wd)
  c1:W.cell? ⟨B,1,none⟩=some v
theorem GnAt.new {wd:Int} {v:Value} {W W':World} {B:Nat} (h:GnAt wd v W B) (q:New W W'):GnAt wd v W' B:=⟨q.keep h.c0,q.keep h.c1⟩
structure SpAt (s:Sp) (W:World) (B:Nat):Prop where
  c0:W.cell? ⟨B,0,none⟩=some (.int .i64 ((s.c:Nat):Int))
  c1:W.cell? ⟨B,1,none⟩=some (.int .i64 ((s.k:Nat):Int))
theorem SpAt.new {s:Sp} {W W':World} {B:Nat} (h:SpAt s W B) (q:New W W'):SpAt s W' B:=⟨q.keep h.c0,q.keep h.c1⟩
structure Res2 (W:World) (B:Nat):Prop where
  c0:W.cell? ⟨B,0,none⟩=some (.int .i64 0)
  c1:W.cell? ⟨B,1,none⟩=some (.int .i64 0)
  f0:W.frozen? ⟨B,0,none⟩=false
  f1:W.frozen? ⟨B,1,none⟩=false
theorem Res2.new {W W':World} {B:Nat} (h:Res2 W B) (q:New W W'):Res2 W' B:=⟨q.keep h.c0,q.keep h.c1,q.keepF h.c0 h.f0,q.keepF h.c1 h.f1⟩
end Go.Proofs.YtmhghnbgllaihaaGreatDoor

namespace Go.Proofs.YtmhghnbgllaihaaGreatDoor
open Go.RowKit
set_option linter.unusedVariables false
section
variable {α:Type} {enc:α→List Value} {k:Nat}
structure RowsOK (enc:α→List Value) (k:Nat) (tG:TypeId) (base:Nat) (W:World) (v:Value) (us:List Value) (L:List (List α)):Prop where
  len:us.length=L.length
  own:W.ownsRow base tG 1 v us.length us
  each:∀ j (h:j<L.length),∃ u,us[j]? = some u∧Sl enc k W u L[j]∧(0<L[j].length→∀ g,u.ownBlock=some g→v.ownBlock≠some g)
theorem slk_other {w w':World} {row:Option Nat} {u:Value} {l:List α} (h:Sl enc k w u l) (hg:w.grownBy w' row) (hne:0<l.length→∀ g,u.ownBlock=some g→row≠some g):Sl enc k w' u l:=by
  obtain⟨a,c,rfl,h1,h2,h3,h4⟩:=h
  refine⟨a,c,rfl,h1,h2,h3,fun h0=>?_⟩
  obtain⟨b,off,rfl,hr⟩:=h4 h0
  refine⟨b,off,rfl,fun j hj i hi=>?_⟩
  have hc:=hr j hj i hi
  exact hg.cell hc (fun e=>hne h0 b (by simp[Value.ownBlock]) e.symm)
theorem slk_lt (hk:∀ a,(enc a).length=k) (hk0:0<k) {w:World} {u:Value} {l:List α} (h:Sl enc k w u l) (h0:0<l.length) {g:Nat} (e:u.ownBlock=some g):g<w.heap.size:=by
  obtain⟨a,c,rfl,h1,h2,h3,h4⟩:=h
  obtain⟨b,off,rfl,hr⟩:=h4 h0
  obtain rfl:b=g:=by simpa [Value.ownBlock]using e
  exact World.block_lt_of_cell? _ _ (hr 0 h0 0 (by rw[hk];exact hk0))
variable {tG:TypeId} {base:Nat} {W W1:World} {v v':Value} {us:List Value} {L:List (List α)}
theorem RowsOK.nil:RowsOK enc k tG base W (.slice none 0 0) [] []:=⟨rfl,World.ownsRow_nil _ _ _ _,fun j h=>absurd h (by simp)⟩
theorem RowsOK.new (h:RowsOK enc k tG base W v us L) (n:New W W1):RowsOK enc k tG base W1 v us L:=⟨h.len,own_new h.own n,fun j hj=>by obtain⟨u,e,hs,hn⟩:=h.each j hj;exact⟨u,e,hs.keep n,hn⟩⟩
theorem RowsOK.push (hk:∀ a,(enc a).length=k) (hk0:0<k) (h:RowsOK enc k tG base W v us L) {u:Value} {l:List α} (hs:Sl enc k W u l) (hn:0<l.length→∀ g,u.ownBlock=some g→v.ownBlock≠some g) (hown:W1.ownsRow base tG 1 v' (us.length+1) (us++[u])) (hg:W.grownBy W1 v.ownBlock) (hat:v'.ownBlock=v.ownBlock∨v'.ownBlock=some W.heap.size) :
    RowsOK enc k tG base W1 v' (us++[u]) (L++[l]):=by
  have one:∀ (x:Value) (m:List α),Sl enc k W x m→(0<m.length→∀ g,x.ownBlock=some g→v.ownBlock≠some g)→Sl enc k W1 x m∧(0<m.length→∀ g,x.ownBlock=some g→v'.ownBlock≠some g):=fun x m hx hxn =>
    ⟨slk_other hx hg hxn,fun h0 g e=>by
      rcases hat with q|q
      · rw[q];exact hxn h0 g e
      · rw[q]
        have:=slk_lt hk hk0 hx h0 e
        intro e2
        injection e2 with e2
        omega⟩
  refine⟨by simp[h.len],by simpa using hown,fun j hj=>?_⟩
  by_cases hjl:j<L.length
  · obtain⟨x,e,hx,hxn⟩:=h.each j hjl
    have e2:(L++[l])[j]=L[j]:=List.getElem_append_left hjl
    rw[e2]
    exact⟨x,by rw[List.getElem?_append_left (by rw[h.len];exact hjl)];exact e,one x _ hx hxn⟩
  · have hjl':j=L.length:=by simp at hj;omega
    subst hjl'
    have e2:(L++[l])[L.length]=l:=by simp
    rw[e2]
    exact⟨u,by rw[List.getElem?_append_right (by rw[h.len];exact Nat.le_refl _),h.len];simp,one u _ hs hn⟩
theorem RowsOK.put (hk:∀ a,(enc a).length=k) (hk0:0<k) (h:RowsOK enc k tG base W v us L) {p:Addr} (hp:p.block<base) (hb:∀ j (hj:j<L.length),0<L[j].length→∀ u,us[j]? = some u→u.ownBlock≠some p.block) (x:Value):RowsOK enc k tG base (W.setCell p x) v us L:=by
  refine⟨h.len,ownsRow_setCell_below h.own hp x,fun j hj=>?_⟩
  obtain⟨u,e,hs,hn⟩:=h.each j hj
  refine⟨u,e,?_,hn⟩
  obtain⟨a,c,rfl,h1,h2,h3,h4⟩:=hs
  refine⟨a,c,rfl,h1,h2,h3,fun h0=>?_⟩
  obtain⟨b,off,rfl,hr⟩:=h4 h0
  have hne:b≠p.block:=fun q=>hb j hj h0 _ e (by simp[Value.ownBlock,q])
  refine⟨b,off,rfl,fun i hi q hq=>?_⟩
  rw[World.cell?_of_block (a:=⟨b,off+i*k+q,none⟩) (Below.heap_setCell _ _ _ _ hne)]
  exact hr i hi q hq
theorem RowsOK.rows (h:RowsOK enc k tG base W v us L):RowsK enc k W v L :=
  ⟨us,h.len,own_sl (enc:=oneV) (k:=1) (l:=us) (fun _=>rfl) (by rw[oneV_flat];exact h.own),fun j hj=>by obtain⟨u,e,hs,_⟩:=h.each j hj;exact⟨u,e,hs⟩⟩
end
end Go.Proofs.YtmhghnbgllaihaaGreatDoor
