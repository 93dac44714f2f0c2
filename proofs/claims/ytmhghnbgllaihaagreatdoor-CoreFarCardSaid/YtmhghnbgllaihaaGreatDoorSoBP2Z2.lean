import Derived.Test.YtmhghnbgllaihaaGreatDoorSoXFP2Z2
import Derived.Deep.LoopGhost
import Derived.Shelf.Abstract
set_option linter.unusedVariables false
set_option maxHeartbeats 16000000

namespace Go.Proofs.YtmhghnbgllaihaaGreatDoor
open Go.RowKit
theorem retBo {a b:Bool} (h:a=b):Ending.returned (.bool a)=.returned (.bool b):=by rw[h]
theorem l_nan (x:Int) (w:World):Calls Tryz.prog 185 #[.int .i64 x] w fun e w'=>e=.returned (.bool false)∧w=w':=by
 go_enter Tryz.func185,Tryz.ntmps185
 go_wp2
 go_ret
 exact⟨rfl,rfl⟩
theorem l_less (x y:Int) (w:World):Calls Tryz.prog 146 #[.int .i64 x,.int .i64 y] w fun e w'=>e=.returned (.bool (decide (x<y)))∧w=w':=by
 go_enter Tryz.func146,Tryz.ntmps146
 go_wp2_with (go_at_call 185;refine(l_nan _ _).mono ?_;rintro e w' ⟨rfl,rfl⟩)
 all_goals
  go_ret
  exact⟨rfl,rfl⟩
def cmpI (x y:Int):Int:=if x<y then -1 else if y<x then 1 else 0
theorem l_cmp (x y:Int) (w:World):Calls Tryz.prog 202 #[.int .i64 x,.int .i64 y] w fun e w'=>e=.returned (.int .i64 (cmpI x y))∧w=w':=by
 unfold cmpI
 by_cases h:x<y
 ·rw[if_pos h]
  go_enter Tryz.func202,Tryz.ntmps202
  go_wp2_with (go_at_call 185;refine(l_nan _ _).mono ?_;rintro e w' ⟨rfl,rfl⟩)
  go_ret
  exact⟨rfl,rfl⟩
 ·rw[if_neg h]
  by_cases h':y<x
  ·rw[if_pos h']
   go_enter Tryz.func202,Tryz.ntmps202
   go_wp2_with (go_at_call 185;refine(l_nan _ _).mono ?_;rintro e w' ⟨rfl,rfl⟩)
   go_ret
   exact⟨rfl,rfl⟩
  ·rw[if_neg h']
   go_enter Tryz.func202,Tryz.ntmps202
   go_wp2_with (go_at_call 185;refine(l_nan _ _).mono ?_;rintro e w' ⟨rfl,rfl⟩)
   go_ret
   exact⟨rfl,rfl⟩
def ordB:List Int→Bool
 | a::b::l=>decide (a≤b)&&ordB (b::l)
 | _=>true
theorem ordB_drop:∀ (l:List Int) (j:Nat),ordB l=true→ordB (l.drop j)=true
 | l,0,h=>h
 | [],_+1,_=>rfl
 | [a],j+1,_=>by simp[ordB]
 | a::b::l,j+1,h=>by
  simp only[ordB,Bool.and_eq_true]at h
  exact ordB_drop (b::l) j h.2
theorem ordB_step (l:List Int) (j:Nat) (h:j+1<l.length):ordB (l.drop j)=(decide (l[j]≤l[j+1])&&ordB (l.drop (j+1))):=by
 rw[List.drop_eq_getElem_cons (show j<l.length by omega),List.drop_eq_getElem_cons h]
 rfl
def IntsAt (w:World) (b:Nat) (l:List Int):Prop:=∀ j (h:j<l.length),w.cell? ⟨b,j,none⟩=some (.int .i64 l[j])
theorem l_sorted (b c:Nat) (l:List Int) (hl:l.length≤100) (h0:0<l.length) (w:World) (H:IntsAt w b l) :
  Calls Tryz.prog 120 #[.slice (some ⟨b,0,none⟩) l.length c] w fun e w'=>e=.returned (.bool (ordB l))∧New w w':=by
 go_enter Tryz.func120,Tryz.ntmps120
 go_wp2_with fail
 go_loopg [3] l.length (fun k s wr=>∃ i:Nat,s=.int .i64 i∧i<l.length∧i≤k∧ordB (l.drop i)=true∧New w wr)
 case atStart =>
  refine⟨l.length - 1,by congr 1;omega,by omega,by omega,?_,New.refl _⟩
  rw[List.drop_eq_getElem_cons (by omega),show l.length - 1+1=l.length by omega,List.drop_length]
  rfl
 case round =>
  obtain⟨i,rfl,hi,hik,hord,hn⟩:=hrel
  have HO:=Lib.hid hord
  clear hord
  cases i with
  | zero =>
   go_wp2_with fail
   go_ret
   exact⟨retBo HO.out.symm,hn⟩
  | succ i =>
   have c0:=hn.keep (H i (by omega))
   have c1:=hn.keep (H (i+1) hi)
   have hst:=ordB_step l i hi
   rw[HO.out,Bool.and_true]at hst
   have HS:=Lib.hid hst
   clear hst
   cases hlt:decide (l[i+1]<l[i])
   ·have HL:=Lib.hid hlt
    have hc:=Lib.hid (fun W=>by have q:=l_less l[i+1] l[i] W;rw[hlt]at q;exact q:∀ W,Calls Tryz.prog 146 #[.int .i64 l[i+1],.int .i64 l[i]] W fun e w'=>e=.returned (.bool false)∧W=w')
    clear hlt
    go_wp2_with fail
    (refine wp_region_hat (by kernel_rfl) (by kernel_rfl) ?_;intro hatc hatf;(repeat(go_big_quiet_step ((go_at_call 146;exact Calls.hat_same (hc.out _)))));refine wpQuiet_nil ?_;rintro _ ⟨x,rfl⟩)
    go_wp2_with fail
    go_roundg (gk - 1)
    case measure=>omega
    case rel =>
     refine⟨i,by first|rfl|go_num,by omega,by omega,?_,hn.hat x⟩
     rw[HS.out]
     have:=HL.out
     simp at this ⊢
     first|done|omega
   ·have HL:=Lib.hid hlt
    have hc:=Lib.hid (fun W=>by have q:=l_less l[i+1] l[i] W;rw[hlt]at q;exact q:∀ W,Calls Tryz.prog 146 #[.int .i64 l[i+1],.int .i64 l[i]] W fun e w'=>e=.returned (.bool true)∧W=w')
    clear hlt
    go_wp2_with fail
    (refine wp_region_hat (by kernel_rfl) (by kernel_rfl) ?_;intro hatc hatf;(repeat(go_big_quiet_step ((go_at_call 146;exact Calls.hat_same (hc.out _)))));refine wpQuiet_nil ?_;rintro _ ⟨x,rfl⟩)
    go_wp2_with fail
    go_ret
    refine⟨retBo ?_,hn.hat x⟩
    cases ho:ordB l with
    | false=>rfl
    | true =>
     have h1:=ordB_drop l i ho
     rw[HS.out]at h1
     have:=HL.out
     simp at this h1
     first|done|omega
theorem l_inOrder (b c:Nat) (l:List Int) (hl:l.length≤100) (h0:0<l.length) (w:World) (H:IntsAt w b l) :
  Calls Tryz.prog 86 #[.slice (some ⟨b,0,none⟩) l.length c] w fun e w'=>e=.returned (.bool (ordB l))∧New w w':=by
 have hc:=Lib.hid (l_sorted b c l hl h0 w H)
 go_enter Tryz.func86,Tryz.ntmps86
 go_wp2_with fail
 refine hc.out.mono ?_
 rintro e w1 ⟨rfl,n1⟩
 go_wp2_with fail
 go_ret
 exact⟨rfl,n1⟩
structure Fn where
 g:Nat
 bnd:Array Value
 b:Bool
def FnAt (w:World) (b:Nat) (l:List Fn):Prop:=∀ j (h:j<l.length),w.cell? ⟨b,j,none⟩=some (.func (.func l[j].g) #[] l[j].bnd)
structure Good (w0:World) (f:Fn):Prop where
 eg:∀ args w,(callFunc f.g args).run Tryz.prog w=.ok (.enter f.g args) w
 run:∀ W,New w0 W→Calls Tryz.prog f.g f.bnd W fun e w'=>e=.returned (.bool f.b)∧New W w'
theorem l_not (w0:World) (f:Fn) (hf:Good w0 f) (w:World) (hn:New w0 w) :
  Calls Tryz.prog 100 #[.func (.func f.g) #[] f.bnd] w fun e w'=>e=.returned (.bool (!f.b))∧New w w':=by
 have hc:=Lib.hid (hf.run w hn)
 obtain⟨g,bnd,b⟩:=f
 have eg:=hf.eg
 clear hf
 simp only at hc eg ⊢
 go_enter Tryz.func100,Tryz.ntmps100
 go_wp2_with (go_at_fn g;refine hc.out.mono ?_;rintro e w1 ⟨rfl,n1⟩)
 go_ret
 exact⟨rfl,n1⟩
def FnPost (l:List Fn) (w:World) (e:Ending) (w':World):Prop:=∃ i:Int,l.all (·.b)=decide (i<0)∧e=.returned (.int .i64 i)∧New w w'
theorem l_index (w0:World) (b c:Nat) (l:List Fn) (hl:l.length≤100) (hg:∀ j (h:j<l.length),Good w0 l[j]) (w:World) (hn0:New w0 w) (H:FnAt w b l) :
  Calls Tryz.prog 121 #[.slice (some ⟨b,0,none⟩) l.length c,.func (.func 100) #[] #[]] w (FnPost l w):=by
 go_enter Tryz.func121,Tryz.ntmps121
 go_wp2_with fail
 go_loopg [8] l.length (fun k s wr=>∃ i:Nat,s=.int .i64 i∧i+k=l.length∧(l.take i).all (·.b)=true∧New w wr)
 case atStart=>exact⟨0,by simp,by omega,by simp,New.refl _⟩
 case round =>
  obtain⟨i,rfl,hik,hall,hn⟩:=hrel
  have HA:=Lib.hid hall
  clear hall
  by_cases hlt:i<l.length
  ·have c0:=hn.keep (H i hlt)
   have hgi:=hg i hlt
   have hcc:=Lib.hid (l_not w0 l[i] hgi wr (hn0.trans hn))
   have hta:=List.take_succ_eq_append_getElem hlt
   have HT:=Lib.hid hta
   clear hta hgi
   cases hb:l[i].b
   ·rw[hb]at hcc
    have HB:=Lib.hid hb
    clear hb
    go_wp2_with (go_at_call 100;refine hcc.out.mono ?_;rintro e w1 ⟨rfl,n1⟩)
    go_ret
    refine⟨i,?_,rfl,hn.trans n1⟩
    rw[decide_eq_false (by omega)]
    rw[List.all_eq_false]
    exact⟨l[i],List.getElem_mem hlt,by rw[HB.out];simp⟩
   ·rw[hb]at hcc
    have HB:=Lib.hid hb
    clear hb
    go_wp2_with (go_at_call 100;refine hcc.out.mono ?_;rintro e w1 ⟨rfl,n1⟩)
    go_roundg (gk - 1)
    case measure=>omega
    case rel=>exact⟨i+1,by go_num,by omega,by rw[HT.out,List.all_append,HA.out];simp[HB.out],hn.trans n1⟩
  ·go_wp2_with fail
   go_ret
   refine⟨-1,?_,rfl,hn⟩
   have:=HA.out
   rw[List.take_of_length_le (by omega)]at this
   rw[this];rfl
theorem l_contains (w0:World) (b c:Nat) (l:List Fn) (hl:l.length≤100) (hg:∀ j (h:j<l.length),Good w0 l[j]) (w:World) (hn0:New w0 w) (H:FnAt w b l) :
  Calls Tryz.prog 99 #[.slice (some ⟨b,0,none⟩) l.length c,.func (.func 100) #[] #[]] w fun e w'=>e=.returned (.bool (!l.all (·.b)))∧New w w':=by
 have hc:=Lib.hid (l_index w0 b c l hl hg w hn0 H)
 obtain⟨v,hv⟩:∃ v,v=l.all (·.b):=⟨_,rfl⟩
 rw[←hv]
 have HV:=Lib.hid hv
 clear hv
 go_enter Tryz.func99,Tryz.ntmps99
 go_wp2_with fail
 refine hc.out.mono ?_
 rintro e w1 ⟨i,hi,rfl,n1⟩
 have HI:=Lib.hid hi
 clear hi
 go_wp2_with fail
 go_ret
 refine⟨retBo ?_,n1⟩
 rw[HV.out,HI.out]
 by_cases h:i<0
 ·simp[h]
 ·simp[h];omega
theorem l_all (w0:World) (b c:Nat) (l:List Fn) (hl:l.length≤100) (hg:∀ j (h:j<l.length),Good w0 l[j]) (w:World) (hn0:New w0 w) (H:FnAt w b l) :
  Calls Tryz.prog 59 #[.slice (some ⟨b,0,none⟩) l.length c] w fun e w'=>e=.returned (.bool (l.all (·.b)))∧New w w':=by
 have hc:=Lib.hid (l_contains w0 b c l hl hg w hn0 H)
 obtain⟨v,hv⟩:∃ v,v=l.all (·.b):=⟨_,rfl⟩
 rw[←hv]at hc ⊢
 clear hv
 go_enter Tryz.func59,Tryz.ntmps59
 go_wp2_with fail
 refine hc.out.mono ?_
 rintro e w1 ⟨rfl,n1⟩
 go_wp2_with fail
 go_ret
 exact⟨retBo (by simp),n1⟩
end Go.Proofs.YtmhghnbgllaihaaGreatDoor
