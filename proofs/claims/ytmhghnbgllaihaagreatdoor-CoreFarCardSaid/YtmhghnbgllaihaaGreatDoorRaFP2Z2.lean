import Derived.Test.YtmhghnbgllaihaaGreatDoorRaEP2Z2
set_option linter.unusedVariables false
set_option maxHeartbeats 16000000
set_option maxRecDepth 100000

namespace Go.Proofs.YtmhghnbgllaihaaGreatDoor
open Go.RowKit Go.Sort
theorem e_build (L:Nat→List Sn) (b:Bx) (hb:b.ok) (n0 G Gb:Nat) (hl:∀ k,k<b.n→(L k).length≤1000) (hf:∀ k,k<b.n→FitS (L k)) (W:World) (hx:Boxed W Gb 142 (.slice (some ⟨G,0,none⟩) b.n b.n)) (hG:Gth 147 180 W n0 G b.n L) :
  Calls Tryz.prog 158 #[.agg #[.int .i64 b.x,.int .i64 b.z,.int .i64 b.w,.int .i64 b.d],.func (.func 159) #[] #[.pointer (some ⟨Gb,0,none⟩)]] W fun e w' =>
   ∃ v,e=.returned (.tuple #[v,.int .i64 (bldE L b.n)])∧RowsV w' v (bldR L b.n)∧New W w':=by
 obtain⟨i0,hi,hz0,hz1,hz2⟩:=info_parts rows_info
 have hn:=Bx.n_le hb
 obtain⟨h1,h2,h3,h4,-,-,-,-⟩:=hb
 have KD:=Lib.hid (fun k (hk:k<b.n) W' (n:New W W')=>d_column L n0 G Gb b.n k hk hn (hl k hk) (hf k hk) W' (n.blk hx) (hG.new n))
 clear hl hf hx hG
 obtain⟨z,hz⟩:∃ z,z=bldE L b.n:=⟨_,rfl⟩
 obtain⟨R,hR⟩:∃ R,R=bldR L b.n:=⟨_,rfl⟩
 rw[←hz,←hR]
 have HZ:=Lib.hid (And.intro hz hR)
 clear hz hR
 obtain⟨wn,hw⟩:∃ wn:Nat,b.w=wn:=⟨b.w.toNat,by omega⟩
 obtain⟨dn,hd⟩:∃ dn:Nat,b.d=dn:=⟨b.d.toNat,by omega⟩
 have hbn:b.n=dn*wn:=by
  unfold Bx.n
  rw[hw,hd,←Int.natCast_mul,Int.toNat_natCast,Nat.mul_comm]
 rw[hbn]at KD HZ hn
 obtain⟨bx,bz,bw,bd⟩:=b
 dsimp only at hw hd h1 h2 h3 h4 ⊢
 subst hw hd
 clear hbn
 go_enter Tryz.func158,Tryz.ntmps158
 go_wp2_with fail
 go_step3
 go_wp2_with fail
 go_step3
 go_wp2_with fail
 generalize hW:World.alloc _ _=W1
 have nW:New W W1:=by subst hW;exact nw
 have hB:W1.heap[W.heap.size]? = some (.cells (boxA ⟨bx,bz,wn,dn⟩) 191 (0,0)):=by subst hW;exact World.alloc_heap_new W _
 clear hW
 have HB:=Lib.hid (And.intro nW hB)
 clear nW hB
 go_loopg [6,7,13] dn (fun k l6 e7 s wr=>∃ (j:Nat) (us:List Value),s=.int .i64 j∧j+k=dn∧e7=.int .i64 0∧Hid (RowsO 147 W1.heap.size wr l6 us (rowsF L (j*wn)))∧Hid (New W1 wr)∧Hid (∀ k',k'<j*wn→fE (L k')=0))
 case atStart=>exact⟨0,[],by simp,by omega,rfl,Lib.hid (by rw[Nat.zero_mul];exact RowsO.nil),Lib.hid (New.refl _),Lib.hid (fun k' h=>by rw[Nat.zero_mul]at h;omega)⟩
 case round =>
  obtain⟨j,us,rfl,hjk,rfl,HR,HN,HE⟩:=hrel
  obtain⟨b0,b1,b2,b3⟩:=box_cs (HN.out.blk HB.out.2)
  by_cases hj:j<dn
  ·go_wp2_with fail
   clear b0 b1 b2 b3
   go_loopg [6,7,18] wn (fun k l6 e7 s wr2=>∃ (i:Nat) (us:List Value),s=.int .i64 i∧i+k=wn∧e7=.int .i64 0∧Hid (RowsO 147 W1.heap.size wr2 l6 us (rowsF L (j*wn+i)))∧Hid (New W1 wr2)∧Hid (∀ k',k'<j*wn+i→fE (L k')=0))
   case atStart=>exact⟨0,us,by simp,by omega,rfl,HR,HN,HE⟩
   case round =>
    clear HR HN HE us
    obtain⟨i,us,rfl,hik,rfl,HR,HN,HE⟩:=hrel
    obtain⟨b0,b1,b2,b3⟩:=box_cs (HN.out.blk HB.out.2)
    by_cases hiw:i<wn
    ·have hm:j*wn+i<dn*wn:=by
      have h5:(j+1)*wn≤dn*wn:=Nat.mul_le_mul_right _ (by omega)
      rw[Nat.add_mul,Nat.one_mul]at h5
      omega
     have hp:((j:Int)*(wn:Int))=((j*wn:Nat):Int):=by rw[Int.natCast_mul]
     have w1:IntKind.i64.wrap ((j:Int)*(wn:Int))=(j:Int)*(wn:Int):=IntWalk.i64_in _ (by rw[hp];omega)
     have w2:IntKind.i64.wrap ((j:Int)*(wn:Int)+(i:Int))=(j:Int)*(wn:Int)+(i:Int):=IntWalk.i64_in _ (by rw[hp];omega)
     have KC:=fun W' (n:New W1 W')=>KD.out (j*wn+i) hm W' (HB.out.1.trans n)
     simp only[Int.natCast_add,Int.natCast_mul]at KC
     have hsz1:=HN.out.size
     have HM:=Lib.hid hm
     clear hm hp
     rcases fE_two (L (j*wn+i))with he|he
     ·rw[he]at KC
      replace KC:=Lib.hid KC
      have HE':Hid (∀ k',k'<j*wn+(i+1)→fE (L k')=0):=Lib.hid (fun k' hk'=>by
       by_cases h:k'<j*wn+i
       ·exact HE.out k' h
       ·obtain rfl:k'=j*wn+i:=by omega
        exact he)
      clear he
      go_wp2_with fail
      refine(KC.out _ HN.out).mono ?_
      rintro e w3 ⟨v,rfl,hs,hfr,n3⟩
      have HS:=Lib.hid hs
      obtain⟨va,vc,rfl,-⟩:=hs
      have HF:=Lib.hid (And.intro hfr n3)
      have hsz3:=n3.size
      clear hfr n3
      have HRn:=Lib.hid (HR.out.new (HF.out.2.trans ((New.refl w3).alloc (.cells #[.slice va (fR (L (j*wn+i))).length vc] 147))))
      have hul:us.length=j*wn+i:=by rw[HR.out.len,rowsF_len]
      have hM:=HM.out
      go_wp2_with (at_builtin;refine wpList_append_own_at _ rfl _ _ 142 rfl W1.heap.size 147 i0 (.slice none 0 0) 1 24 Tryz.underlying142 hi hz0 hz1 hz2 rfl (by decide) _ _ _ rfl HRn.out.own ⟨w3.heap.size,0,none⟩ 1 1 [.slice va (fR (L (j*wn+i))).length vc] rfl rfl (cell_one_new _ _ _) (by intro u hu;rw[List.mem_singleton]at hu;subst hu;rfl) (by unfold maxLen;omega) (by omega) (by simp;omega) ?_;intro v' w4 hown' hgrow _ hat)
      go_roundg (gk - 1)
      case measure=>omega
      case rel =>
       refine⟨i+1,us++[.slice va (fR (L (j*wn+i))).length vc],by go_num,by omega,rfl,Lib.hid ?_,Lib.hid ?_,HE'⟩
       ·rw[←Nat.add_assoc,rowsF_succ]
        refine HRn.out.push (HS.out.keep ((New.refl w3).alloc _)) (fun _ g hg hv=>?_) hown' hgrow hat
        have q1:=HF.out.1 g hg
        have q2:=(HR.out.own.lt g hv).2
        omega
       ·refine newGrown (HN.out.trans (HF.out.2.trans ((New.refl w3).alloc _))) hgrow (fun k hk=>(HR.out.own.lt k hk).1)
     ·rw[he]at KC
      replace KC:=Lib.hid KC
      have HA:Hid (z=51∧R=[]):=Lib.hid (by
       have h:=anyE_true (L:=L) HM.out (by rw[he];decide)
       rw[HZ.out.1,HZ.out.2]
       unfold bldE bldR
       rw[h]
       exact⟨rfl,rfl⟩)
      clear he
      go_wp2_with fail
      refine(KC.out _ HN.out).mono ?_
      rintro e w3 ⟨v,rfl,hs,hfr,n3⟩
      obtain⟨va,vc,rfl,-⟩:=hs
      have HF:=Lib.hid (HB.out.1.trans (HN.out.trans n3))
      clear hfr n3
      go_wp2_with fail
      simp only[Exit.noGoto_ret]
      obtain⟨hA1,hA2⟩:=HA.out
      clear HA
      subst hA1 hA2
      refine bodyPost_ret (v:=.tuple #[.slice none 0 0,.int .i64 51]) (by simp[results,Tryz.results158,go_sem, *]) rfl ?_
      exact⟨_,rfl,RowsV.nil,HF.out⟩
    ·obtain rfl:i=wn:=by omega
     go_wp2_with fail
     go_roundg (dn - j - 1)
     case measure=>omega
     case rel =>
      have e:(j+1)*i=j*i+i:=by rw[Nat.add_mul,Nat.one_mul]
      refine⟨j+1,us,by go_num,by omega,rfl,?_,HN,?_⟩
      ·rw[e];exact HR
      ·rw[e];exact HE
  ·obtain rfl:j=dn:=by omega
   have HA:Hid (z=0∧R=rowsF L (j*wn)):=Lib.hid (by
    have h:=anyE_false HE.out
    rw[HZ.out.1,HZ.out.2]
    unfold bldE bldR
    rw[h]
    exact⟨rfl,rfl⟩)
   go_wp2_with fail
   obtain⟨hA1,hA2⟩:=HA.out
   clear HA
   subst hA1 hA2
   refine bodyPost_ret (v:=.tuple #[u6,.int .i64 0]) (by simp[results,Tryz.results158,go_sem, *]) rfl ?_
   exact⟨_,rfl,HR.out.rows,HB.out.1.trans HN.out⟩
end Go.Proofs.YtmhghnbgllaihaaGreatDoor
