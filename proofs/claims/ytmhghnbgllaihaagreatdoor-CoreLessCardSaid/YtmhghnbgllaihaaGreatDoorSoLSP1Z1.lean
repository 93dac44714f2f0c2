import Derived.Test.YtmhghnbgllaihaaGreatDoorWholeMP1Z1
import Derived.OwnWalk
import Derived.OneCell
import Derived.Lib.AppendZerosOnto
import Derived.Deep.LoopGhost

namespace Go.Proofs.YtmhghnbgllaihaaGreatDoor
open Go.ChangeShapes Go.WideShapes Go.RowKit Go.Deep
set_option linter.unusedVariables false
structure TriR where
  (i x0 y0 z0 x1 y1 z1 x2 y2 z2:Int)
structure BoxR where
  (i x0 z0 x1 z1 y0 y1 ar:Int)
structure HopR where
  (i fx fz fy tx tz ty:Int)
  bo:Bool
  (ar co:Int)
instance:Inhabited TriR:=⟨⟨0,0,0,0,0,0,0,0,0,0⟩⟩
instance:Inhabited BoxR:=⟨⟨0,0,0,0,0,0,0,0⟩⟩
instance:Inhabited HopR:=⟨⟨0,0,0,0,0,0,0,false,0,0⟩⟩
def BoxR.zero:BoxR:=⟨0,0,0,0,0,0,0,0⟩
def TriR.enc (x:TriR):List Value:=#[.int .i64 x.i,.int .i64 x.x0,.int .i64 x.y0,.int .i64 x.z0,.int .i64 x.x1,.int .i64 x.y1,.int .i64 x.z1,.int .i64 x.x2,.int .i64 x.y2,.int .i64 x.z2].toList
theorem TriR.enc_len (x:TriR):x.enc.length=10:=rfl
theorem TriR.cells {w:World} {b off:Nat} {l:List TriR} (H:RowAt TriR.enc 10 w b off l) (j:Nat) (h:j<l.length) :
    w.cell? ⟨b,off+j*10,none⟩=some (.int .i64 l[j].i)∧w.cell? ⟨b,off+j*10+1,none⟩=some (.int .i64 l[j].x0)∧w.cell? ⟨b,off+j*10+2,none⟩=some (.int .i64 l[j].y0)∧w.cell? ⟨b,off+j*10+3,none⟩=some (.int .i64 l[j].z0)∧w.cell? ⟨b,off+j*10+4,none⟩=some (.int .i64 l[j].x1)∧w.cell? ⟨b,off+j*10+5,none⟩=some (.int .i64 l[j].y1)∧w.cell? ⟨b,off+j*10+6,none⟩=some (.int .i64 l[j].z1)∧w.cell? ⟨b,off+j*10+7,none⟩=some (.int .i64 l[j].x2)∧w.cell? ⟨b,off+j*10+8,none⟩=some (.int .i64 l[j].y2)∧w.cell? ⟨b,off+j*10+9,none⟩=some (.int .i64 l[j].z2) :=
  ⟨H j h 0 (by rw[TriR.enc_len];omega),H j h 1 (by rw[TriR.enc_len];omega),H j h 2 (by rw[TriR.enc_len];omega),H j h 3 (by rw[TriR.enc_len];omega),H j h 4 (by rw[TriR.enc_len];omega),H j h 5 (by rw[TriR.enc_len];omega),H j h 6 (by rw[TriR.enc_len];omega),H j h 7 (by rw[TriR.enc_len];omega),H j h 8 (by rw[TriR.enc_len];omega),H j h 9 (by rw[TriR.enc_len];omega)⟩
def BoxR.enc (x:BoxR):List Value:=#[.int .i64 x.i,.int .i64 x.x0,.int .i64 x.z0,.int .i64 x.x1,.int .i64 x.z1,.int .i64 x.y0,.int .i64 x.y1,.int .i64 x.ar].toList
theorem BoxR.enc_len (x:BoxR):x.enc.length=8:=rfl
theorem BoxR.enc_one (x:BoxR):∀ u∈x.enc,u.oneCell'=true:=by
  intro u hu
  simp[BoxR.enc]at hu
  rcases hu with rfl|rfl|rfl|rfl|rfl|rfl|rfl|rfl <;> rfl
theorem BoxR.cells {w:World} {b off:Nat} {l:List BoxR} (H:RowAt BoxR.enc 8 w b off l) (j:Nat) (h:j<l.length) :
    w.cell? ⟨b,off+j*8,none⟩=some (.int .i64 l[j].i)∧w.cell? ⟨b,off+j*8+1,none⟩=some (.int .i64 l[j].x0)∧w.cell? ⟨b,off+j*8+2,none⟩=some (.int .i64 l[j].z0)∧w.cell? ⟨b,off+j*8+3,none⟩=some (.int .i64 l[j].x1)∧w.cell? ⟨b,off+j*8+4,none⟩=some (.int .i64 l[j].z1)∧w.cell? ⟨b,off+j*8+5,none⟩=some (.int .i64 l[j].y0)∧w.cell? ⟨b,off+j*8+6,none⟩=some (.int .i64 l[j].y1)∧w.cell? ⟨b,off+j*8+7,none⟩=some (.int .i64 l[j].ar) :=
  ⟨H j h 0 (by rw[BoxR.enc_len];omega),H j h 1 (by rw[BoxR.enc_len];omega),H j h 2 (by rw[BoxR.enc_len];omega),H j h 3 (by rw[BoxR.enc_len];omega),H j h 4 (by rw[BoxR.enc_len];omega),H j h 5 (by rw[BoxR.enc_len];omega),H j h 6 (by rw[BoxR.enc_len];omega),H j h 7 (by rw[BoxR.enc_len];omega)⟩
def HopR.enc (x:HopR):List Value:=#[.int .i64 x.i,.int .i64 x.fx,.int .i64 x.fz,.int .i64 x.fy,.int .i64 x.tx,.int .i64 x.tz,.int .i64 x.ty,.bool x.bo,.int .i64 x.ar,.int .i64 x.co].toList
theorem HopR.enc_len (x:HopR):x.enc.length=10:=rfl
theorem HopR.cells {w:World} {b off:Nat} {l:List HopR} (H:RowAt HopR.enc 10 w b off l) (j:Nat) (h:j<l.length) :
    w.cell? ⟨b,off+j*10,none⟩=some (.int .i64 l[j].i)∧w.cell? ⟨b,off+j*10+1,none⟩=some (.int .i64 l[j].fx)∧w.cell? ⟨b,off+j*10+2,none⟩=some (.int .i64 l[j].fz)∧w.cell? ⟨b,off+j*10+3,none⟩=some (.int .i64 l[j].fy)∧w.cell? ⟨b,off+j*10+4,none⟩=some (.int .i64 l[j].tx)∧w.cell? ⟨b,off+j*10+5,none⟩=some (.int .i64 l[j].tz)∧w.cell? ⟨b,off+j*10+6,none⟩=some (.int .i64 l[j].ty)∧w.cell? ⟨b,off+j*10+7,none⟩=some (.bool l[j].bo)∧w.cell? ⟨b,off+j*10+8,none⟩=some (.int .i64 l[j].ar)∧w.cell? ⟨b,off+j*10+9,none⟩=some (.int .i64 l[j].co) :=
  ⟨H j h 0 (by rw[HopR.enc_len];omega),H j h 1 (by rw[HopR.enc_len];omega),H j h 2 (by rw[HopR.enc_len];omega),H j h 3 (by rw[HopR.enc_len];omega),H j h 4 (by rw[HopR.enc_len];omega),H j h 5 (by rw[HopR.enc_len];omega),H j h 6 (by rw[HopR.enc_len];omega),H j h 7 (by rw[HopR.enc_len];omega),H j h 8 (by rw[HopR.enc_len];omega),H j h 9 (by rw[HopR.enc_len];omega)⟩
structure SoupV where
  (ts:List TriR) (bs:List BoxR) (hs:List HopR)
  (a0 a1 a2:Option Addr) (c0 c1 c2:Nat)
structure SoupV.ok (S:SoupV) (w:World):Prop where
  t:Sl TriR.enc 10 w (.slice S.a0 S.ts.length S.c0) S.ts
  b:Sl BoxR.enc 8 w (.slice S.a1 S.bs.length S.c1) S.bs
  h:Sl HopR.enc 10 w (.slice S.a2 S.hs.length S.c2) S.hs
theorem SoupV.ok.keep {S:SoupV} {w w':World} (h:S.ok w) (n:New w w'):S.ok w':=⟨h.t.keep n,h.b.keep n,h.h.keep n⟩
theorem Sl.row {α:Type} {enc:α→List Value} {k:Nat} {w:World} {at0:Option Addr} {n c:Nat} {l:List α} (h:Sl enc k w (.slice at0 n c) l):n=l.length∧l.length≤c∧c≤maxLen∧(at0=none→c=0)∧RowIn enc k w at0 l:=by
  obtain⟨a,c',e,h1,h2,h3,h4⟩:=h
  injection e with e1 e2 e3
  subst e1 e2 e3
  exact⟨rfl,h1,h2,h3,h4⟩
end Go.Proofs.YtmhghnbgllaihaaGreatDoor

namespace Go.Proofs.YtmhghnbgllaihaaGreatDoor
open Go.RowKit
set_option linter.unusedVariables false
theorem newGrown {a w w':World} {row:Option Nat} (h:New a w) (hg:w.grownBy w' row) (hr:∀ k,row=some k→a.heap.size≤k):New a w':=Below.grown h hg h.size hr
theorem own_new {w w':World} {base size:Nat} {e:TypeId} {v:Value} {n:Nat} {xs:List Value} (h:w.ownsRow base e size v n xs) (hn:New w w'):w'.ownsRow base e size v n xs:=by
  obtain⟨h1,h2⟩:=h
  refine⟨h1,h2.imp id ?_⟩
  rintro⟨g,cap,cur,rfl,hb,hg,r⟩
  exact⟨g,cap,cur,rfl,hb,new_block' hn hg,r⟩
where
  new_block' {a w:World} (h:New a w) {b:Nat} {o:Obj} (hb:a.heap[b]? = some o):w.heap[b]? = some o:=by
    rw[h.block b (by rcases Nat.lt_or_ge b a.heap.size with q|q;exact q;rw[Array.getElem?_eq_none q]at hb;cases hb)];exact hb
theorem own_block {w:World} {base size:Nat} {e:TypeId} {v:Value} {n:Nat} {xs:List Value} (h:w.ownsRow base e size v n xs):∀ k,v.ownBlock=some k→base≤k:=by
  rintro k hk
  rcases h.2 with ⟨rfl,_⟩|⟨g,cap,cur,rfl,hb,_⟩
  · cases hk
  · have e1:g=k:=by simpa [Value.ownBlock]using hk
    omega
section
variable {α:Type}
theorem flatMap_len {enc:α→List Value} {k:Nat} (hk:∀ a,(enc a).length=k):∀ l:List α,(l.flatMap enc).length=l.length*k
  | []=>by simp
  | a::l=>by rw[List.flatMap_cons,List.length_append,flatMap_len hk l,hk,List.length_cons,Nat.add_mul];omega
theorem flatMap_get {enc:α→List Value} {k:Nat} (hk:∀ a,(enc a).length=k):∀ (l:List α) (j:Nat) (h:j<l.length) (i:Nat),i<k→(l.flatMap enc)[j*k+i]? = (enc l[j])[i]?
  | a::l,0,_,i,hi=>by
    rw[List.flatMap_cons,Nat.zero_mul,Nat.zero_add,List.getElem?_append_left (by rw[hk];exact hi)]
    rfl
  | a::l,j+1,h,i,hi=>by
    rw[List.flatMap_cons,List.getElem?_append_right (by rw[hk,Nat.add_mul];omega),hk,show(j+1)*k+i - k=j*k+i by rw[Nat.add_mul];omega]
    exact flatMap_get hk l j (by simpa using h) i hi
theorem own_sl {enc:α→List Value} {k:Nat} (hk:∀ a,(enc a).length=k) {w:World} {base:Nat} {e:TypeId} {v:Value} {l:List α} (h:w.ownsRow base e k v l.length (l.flatMap enc)):Sl enc k w v l:=by
  rcases h.2 with ⟨rfl,h0⟩|⟨g,cap,cur,rfl,hb,hg,hc,hm,_⟩
  · obtain rfl:=List.eq_nil_of_length_eq_zero h0
    exact Sl.nil
  · refine⟨some ⟨g,0,none⟩,cap,rfl,hc,hm,fun h=>(by cases h),fun _=>⟨g,0,rfl,fun j hj i hi=>?_⟩⟩
    have hik:i<k:=by rw[←hk l[j]];exact hi
    have hlt:j*k+i<l.length*k:=by
      have:=Nat.mul_le_mul_right k (show j+1≤l.length from hj)
      rw[Nat.add_mul]at this
      omega
    have a:=World.ownsRow.cellAt h (j*k+i) (by omega)
    rw[flatMap_get hk l j hj i hik]at a
    rw[Nat.zero_add,a,List.getElem?_eq_getElem hi]
structure Part (α:Type) where
  a:Option Addr
  l:List α
  c:Nat
def PartsAt (enc:α→List Value) (k:Nat) (w:World) (b:Nat) (ps:List (Part α)):Prop:=∀ j (h:j<ps.length),w.cell? ⟨b,j,none⟩=some (.slice ps[j].a ps[j].l.length ps[j].c)∧Sl enc k w (.slice ps[j].a ps[j].l.length ps[j].c) ps[j].l
theorem PartsAt.keep {enc:α→List Value} {k:Nat} {w w':World} {b:Nat} {ps:List (Part α)} (h:PartsAt enc k w b ps) (hn:New w w'):PartsAt enc k w' b ps:=fun j hj=>⟨hn.keep (h j hj).1,(h j hj).2.keep hn⟩
def cat (ps:List (Part α)) (i:Nat):List α:=(ps.take i).flatMap (·.l)
theorem cat_succ (ps:List (Part α)) (i:Nat) (h:i<ps.length):cat ps (i+1)=cat ps i++ps[i].l:=by
  unfold cat
  rw[List.take_succ_eq_append_getElem h,List.flatMap_append]
  simp
theorem cat_all (ps:List (Part α)):cat ps ps.length=ps.flatMap (·.l):=by unfold cat;rw[List.take_length]
theorem cat_le (ps:List (Part α)):∀ i,(cat ps i).length≤(ps.flatMap (·.l)).length:=fun i=>by
  unfold cat
  conv=>rhs;rw[←List.take_append_drop i ps,List.flatMap_append,List.length_append]
  omega
theorem sl_news {enc:α→List Value} {k:Nat} (hk:∀ a,(enc a).length=k) {w:World} {ad:Addr} {c:Nat} {l:List α} (h:Sl enc k w (.slice (some ad) l.length c) l):∀ j u,(l.flatMap enc)[j]? = some u→w.cell? (ad.add j)=some u:=by
  intro j u hu
  have hj:j<l.length*k:=by
    have:=(List.getElem?_eq_some_iff.1 hu).1
    rwa [flatMap_len hk]at this
  have h0:0<l.length:=by
    rcases Nat.eq_zero_or_pos l.length with q|q
    · rw[q,Nat.zero_mul]at hj;omega
    · exact q
  obtain⟨b,off,e,hA⟩:=h.row.2.2.2.2 h0
  injection e with e
  subst e
  have hk0:0<k:=by
    rcases Nat.eq_zero_or_pos k with q|q
    · rw[q,Nat.mul_zero]at hj;omega
    · exact q
  have hq:j / k<l.length:=Nat.div_lt_of_lt_mul (by rw[Nat.mul_comm];exact hj)
  have hr:j % k<k:=Nat.mod_lt _ hk0
  have e1:j=j / k*k+j % k:=by rw[Nat.mul_comm];exact(Nat.div_add_mod j k).symm
  have h1:=flatMap_get hk l (j / k) hq (j % k) hr
  rw[←e1,hu]at h1
  have h2:=hA (j / k) hq (j % k) (by rw[hk];exact hr)
  rw[Addr.add_lit,show off+j=off+j / k*k+j % k by omega,h2,h1,List.getElem?_eq_getElem]
end
end Go.Proofs.YtmhghnbgllaihaaGreatDoor

namespace Go.Proofs.YtmhghnbgllaihaaGreatDoor
open Go.RowKit
set_option linter.unusedVariables false
theorem sn_info:(Tryz.prog.info? 180).map (fun i=>(i.zero,i.size,i.bytes))=some (some (.agg #[.int .i64 Sn.zero.lo,.int .i64 Sn.zero.hi,.bool Sn.zero.wk]),3,24):=by kernel_rfl
def sn_Grown (n:Nat) (w:World) (e:Ending) (w':World):Prop:=∃ v,e=.returned v∧w'.ownsRow w.heap.size 180 3 v 0 []∧New w w'
set_option maxHeartbeats 2000000 in
theorem sn_grow (n:Nat) (hn:n≤1000) (w:World):Calls Tryz.prog 233 #[.slice none 0 0,.int .i64 n] w (sn_Grown n w):=by
  have h1:¬ ((n:Int)<0):=by omega
  rcases Nat.eq_zero_or_pos n with rfl|h0
  · go_enter Tryz.func233,Tryz.ntmps233
    go_wp2_with fail
    go_ret
    exact⟨_,rfl,World.ownsRow_nil _ _ _ _,New.refl _⟩
  · obtain⟨i,hi,hz0,hz1,hz2⟩:=info_parts sn_info
    have hr:∀ ty,(Builtin.append_ #[147,3] ty #[.slice none 0 0,.int .i64 (n:Int)]).run Tryz.prog w=_:=fun ty =>
      Lib.run_append_nil_zeros w 147 3 ty 180 i _ .i64 .i64 Tryz.underlying147 Tryz.underlying3 hi hz0 n h0 (by rw[hz1];omega) (by omega) (by rw[hz2];omega)
    have hge:n≤grownCap w n 0 180:=grownCap_ge w _ _ _
    have hle:grownCap w n 0 180≤maxLen:=grownCap_le_maxLen w n 0 180 (by unfold maxLen;omega)
    obtain⟨G,hG⟩:∃ G,G=grownCap w n 0 180:=⟨_,rfl⟩
    rw[←hG]at hr hge hle
    have HLE:=Lib.hid hle
    unfold maxLen at hle
    have h2:(0:Int)<(n:Int):=by omega
    clear hG
    go_enter Tryz.func233,Tryz.ntmps233
    go_wp2_with (at_builtin;refine Lib.wpList_append_run _ rfl _ _ _ _ rfl _ _ rfl rfl _ _ (hr _) ?_)
    go_ret
    refine⟨_,rfl,⟨by simp,Or.inr ⟨w.heap.size,G,_,rfl,Nat.le_refl _,heap_new w.drew _,Nat.zero_le _,HLE.out,?_,by simp⟩⟩,(New.refl w).drew.alloc _⟩
    rw[Array.size_append,size_zeroCells,size_zeroCells]
    show n*3+(G - n)*3=G*3
    omega
theorem sn_some {snr:Option Addr} (h:¬ snr=none):∃ a,snr=some a:=by
  cases snr with
  | none=>exact absurd rfl h
  | some a=>exact⟨a,rfl⟩
set_option maxHeartbeats 4000000 in
set_option maxRecDepth 100000 in
theorem sn_concat (B c:Nat) (ps:List (Part Sn)) (hps:ps.length≤10) (htot:(ps.flatMap (·.l)).length≤1000) (w:World) (H:PartsAt Sn.enc 3 w B ps) :
    Calls Tryz.prog 199 #[.slice (some ⟨B,0,none⟩) ps.length c] w fun e w'=>∃ v,e=.returned v∧w'.ownsRow w.heap.size 180 3 v (ps.flatMap (·.l)).length ((ps.flatMap (·.l)).flatMap Sn.enc)∧New w w':=by
  obtain⟨i0,hi,hz0,hz1,hz2⟩:=info_parts sn_info
  have HH:=Lib.hid H
  clear H
  go_enter Tryz.func199,Tryz.ntmps199
  go_wp2_with fail
  go_loopg [3,11] ps.length (fun k s t wr=>∃ i:Nat,t=.int .i64 i∧i+k=ps.length∧s=.int .i64 (cat ps i).length∧wr=w)
  case atStart=>exact⟨0,by simp,by omega,by simp[cat],rfl⟩
  case round =>
    obtain⟨i,rfl,hik,rfl,hw⟩:=hrel
    obtain rfl:w=wr:=hw.symm
    by_cases hlt:i<ps.length
    · have c0:=(HH.out i hlt).1
      have hcs:=cat_succ ps i hlt
      have hle:=cat_le ps (i+1)
      rw[hcs,List.length_append]at hle
      have HCS:=Lib.hid hcs
      have hd:decide ((cat ps i).length+ps[i].l.length<(0:Int))=false:=by simp;omega
      clear hcs
      go_wp2_with fail
      go_roundg (gk - 1)
      case measure=>omega
      case rel=>exact⟨i+1,by go_num,by omega,by rw[HCS.out,List.length_append];go_num,rfl⟩
    · obtain rfl:i=ps.length:=by omega
      have HC:=Lib.hid (cat_all ps)
      have hg:=Lib.hid (sn_grow (cat ps ps.length).length (by rw[HC.out];exact htot) w)
      generalize (cat ps ps.length).length=N at *
      go_wp2_with fail
      refine hg.out.mono ?_
      rintro e w1 ⟨v,rfl,hown,n1⟩
      have OW:=Lib.hid hown
      clear hown hg
      go_wp2_with fail
      clear hik hlt
      have HP:=Lib.hid (HH.out.keep n1)
      go_loopg [6,27] ps.length (fun k s t wr=>∃ i:Nat,t=.int .i64 i∧i+k=ps.length∧wr.ownsRow w.heap.size 180 3 s (cat ps i).length ((cat ps i).flatMap Sn.enc)∧New w wr)
      case atStart=>exact⟨0,by simp,by omega,by simpa [cat]using OW.out,n1⟩
      case round =>
        clear OW n1
        obtain⟨i,rfl,hik,hown,hn⟩:=hrel
        have OW:=Lib.hid hown
        clear hown
        by_cases hlt:i<ps.length
        · have hp:=HH.out.keep hn i hlt
          have c0:=hp.1
          have hcs:=cat_succ ps i hlt
          have hle:=cat_le ps (i+1)
          rw[hcs,List.length_append]at hle
          have HCS:=Lib.hid hcs
          have HS:=Lib.hid hp.2
          have HB:=hn.size
          clear hcs hp
          by_cases hnone:ps[i].a=none
          · have hrow:=HS.out.row
            have hc0:=hrow.2.2.2.1 hnone
            have hl0:ps[i].l=[]:=List.eq_nil_of_length_eq_zero (by omega)
            rw[hnone,hc0,hl0]at c0
            simp only[List.length_nil]at c0
            have HL:=Lib.hid hl0
            clear hrow hc0 hl0 hnone
            go_wp2_with (at_builtin;refine Lib.wpList_append_run _ rfl _ _ _ _ rfl _ _ rfl rfl _ _ (run_append_owned_none (P:=Tryz.prog) wr w.heap.size 147 _ 180 i0 3 Tryz.underlying147 hi _ _ _ OW.out) ?_)
            go_roundg (gk - 1)
            case measure=>omega
            case rel=>exact⟨i+1,by go_num,by omega,by rw[HCS.out,HL.out,List.append_nil];exact OW.out,hn⟩
          · obtain⟨ad,had⟩:=sn_some hnone
            rw[had]at c0 HS
            clear hnone had
            go_wp2_with (at_builtin;refine wpList_append_own _ rfl _ _ 147 rfl w.heap.size 180 i0 (.agg #[.int .i64 Sn.zero.lo,.int .i64 Sn.zero.hi,.bool Sn.zero.wk]) 3 24 Tryz.underlying147 hi hz0 hz1 hz2 rfl (by decide) _ _ _ rfl OW.out ad _ _ (ps[i].l.flatMap Sn.enc) rfl (flatMap_len Sn.enc_len _) (sl_news Sn.enc_len HS.out) (fun u hu=>by obtain⟨x,_,hx⟩:=List.mem_flatMap.1 hu;exact Sn.enc_one x u hx) (by unfold maxLen;omega) (by omega) HB ?_;intro v' w2 hown' hgrow _)
            have hn2:New w w2:=newGrown hn hgrow (own_block OW.out)
            have OW2:=Lib.hid hown'
            clear hown' hgrow OW c0
            go_roundg (gk - 1)
            case measure=>omega
            case rel=>exact⟨i+1,by go_num,by omega,by rw[HCS.out,List.length_append,List.flatMap_append];exact OW2.out,hn2⟩
        · obtain rfl:i=ps.length:=by omega
          go_wp2_with fail
          go_ret
          exact⟨_,rfl,by have:=OW.out;rwa [HC.out]at this,hn⟩
end Go.Proofs.YtmhghnbgllaihaaGreatDoor
