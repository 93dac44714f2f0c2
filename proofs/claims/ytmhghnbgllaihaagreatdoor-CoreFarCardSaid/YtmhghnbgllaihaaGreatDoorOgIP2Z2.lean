import Derived.Test.YtmhghnbgllaihaaGreatDoorSoYP2Z2
import Derived.Test.YtmhghnbgllaihaaGreatDoorSoLSP2Z2
import Derived.Test.YtmhghnbgllaihaaGreatDoorSoXFP2Z2
import Derived.Deep.LoopGhost
import Derived.Deep.DeepCutAuto
set_option linter.unusedVariables false
set_option maxHeartbeats 16000000
set_option maxRecDepth 100000

namespace Go.Proofs.YtmhghnbgllaihaaGreatDoor
open Go.RowKit
def wiB (n lo hi:Int):Bool:=decide (lo≤n)&&decide (n≤hi)
theorem wiB_iff {n lo hi:Int}:wiB n lo hi=true↔lo≤n∧n≤hi:=by unfold wiB;simp
theorem wiB_not {n lo hi:Int}:wiB n lo hi=false↔¬ (lo≤n∧n≤hi):=by rw[←wiB_iff];simp
def leastAt (l:List Fl) (j:Nat):Int:=if j=0 then -2048 else ((l[j - 1]?).map (·.top)).getD 0
theorem leastAt_succ {l:List Fl} {j:Nat} (h:j<l.length):leastAt l (j+1)=l[j].top:=by unfold leastAt;simp[h]
def okF (lo:Int) (f:Fl):Bool:=wiB f.y lo 2048&&(wiB f.top (f.y+1) 1048576&&wiB f.area 0 7)
def okAt (l:List Fl) (j:Nat):Bool:=match l[j]? with
 | some f=>okF (leastAt l j) f
 | none=>true
theorem okAt_at {l:List Fl} {j:Nat} (h:j<l.length):okAt l j=okF (leastAt l j) l[j]:=by unfold okAt;rw[List.getElem?_eq_getElem h]
def riseB (l:List Fl):Bool:=decide (l.length≤8)&&(List.range l.length).all (okAt l)
theorem riseB_long {l:List Fl} (h:8<l.length):riseB l=false:=by unfold riseB;rw[decide_eq_false (by omega)];rfl
theorem riseB_bad {l:List Fl} {j:Nat} (h:j<l.length) (hb:okAt l j=false):riseB l=false:=by
 unfold riseB
 rw[Bool.and_eq_false_iff]
 right
 rw[List.all_eq_false]
 exact⟨j,List.mem_range.2 h,by rw[hb];simp⟩
theorem riseB_all {l:List Fl} (h8:l.length≤8) (h:∀ j,j<l.length→okAt l j=true):riseB l=true:=by
 unfold riseB
 rw[decide_eq_true h8,Bool.true_and,List.all_eq_true]
 exact fun j hj=>h j (List.mem_range.1 hj)
theorem leastAt_lo {l:List Fl}:∀ {i:Nat},i≤l.length→(∀ j,j<i→okAt l j=true) → -2048≤leastAt l i
 | 0,_,_=>by unfold leastAt;simp
 | i+1,hi,h=>by
  have h1:=leastAt_lo (show i≤l.length by omega) (fun j hj=>h j (by omega))
  have h2:=h i (by omega)
  rw[okAt_at (by omega)]at h2
  unfold okF at h2
  simp only[Bool.and_eq_true,wiB_iff]at h2
  rw[leastAt_succ (by omega)]
  omega
theorem riseB_len {l:List Fl} (h:riseB l=true):l.length≤8:=by
 unfold riseB at h
 simp only[Bool.and_eq_true,decide_eq_true_eq]at h
 exact h.1
theorem og_within (n lo hi:Int) (w:World):Calls Tryz.prog 168 #[.int .i64 n,.int .i64 lo,.int .i64 hi] w fun e w'=>e=.returned (.bool (wiB n lo hi))∧w=w':=by
 unfold wiB
 by_cases h:lo≤n
 ·rw[decide_eq_true h]
  go_enter Tryz.func168,Tryz.ntmps168
  go_wp2_with fail
  go_ret
  exact⟨rfl,rfl⟩
 ·rw[decide_eq_false h]
  go_enter Tryz.func168,Tryz.ntmps168
  go_wp2_with fail
  go_ret
  exact⟨rfl,rfl⟩
theorem og_rise (at0:Option Addr) (l:List Fl) (c:Nat) (hl:l.length≤maxLen) (w:World) (H:RowIn Fl.enc 3 w at0 l) :
  Calls Tryz.prog 169 #[.slice at0 l.length c] w fun e w'=>e=.returned (.bool (riseB l))∧New w w':=by
 have KW:=Lib.hid (fun n lo hi W=>og_within n lo hi W)
 have HH:=Lib.hid H
 unfold maxLen at hl
 clear H
 obtain⟨r,hr⟩:∃ r,r=riseB l:=⟨_,rfl⟩
 rw[←hr]
 have HR:=Lib.hid hr
 obtain⟨n,hn⟩:∃ n,n=l.length:=⟨_,rfl⟩
 rw[←hn]at hl ⊢
 have HN:=Lib.hid hn
 clear hn hr
 by_cases h8:8<n
 ·have HE:Hid (r=false):=Lib.hid (by rw[HR.out];exact riseB_long (by rw[←HN.out];exact h8))
  have hd:decide (8<n)=true:=decide_eq_true h8
  go_enter Tryz.func169,Tryz.ntmps169
  go_wp2_with fail
  go_ret
  exact⟨by rw[HE.out];rfl,New.refl _⟩
 have hd:decide (8<n)=false:=decide_eq_false h8
 go_enter Tryz.func169,Tryz.ntmps169
 go_wp2_with fail
 go_loopg [11,3] n (fun gk s11 s3 wr=>∃ (i:Nat) (lo:Int),s11=.int .i64 i∧s3=.int .i64 lo∧Hid (lo=leastAt l i)∧i≤n∧n - i≤gk∧Hid (∀ j,j<i→okAt l j=true)∧Hid (New w wr))
 case atStart=>exact⟨0,-2048,rfl,rfl,Lib.hid rfl,by omega,by omega,Lib.hid (fun j h=>by omega),Lib.hid (New.refl _)⟩
 case round =>
  obtain⟨i,lo,rfl,rfl,HLO,hi,hgk,HB,hnr⟩:=hrel
  by_cases hlt:i<n
  ·have hil:i<l.length:=by rw[←HN.out];exact hlt
   obtain⟨b0,off,rfl,hA⟩:=HH.out (by omega)
   obtain⟨c0,c1,c2⟩:=Fl.cells (hA.keep hnr.out) i hil
   have hok:=okAt_at hil
   rw[←HLO.out]at hok
   have hls:=leastAt_succ hil
   obtain⟨f,hf⟩:∃ f,f=l[i]:=⟨_,rfl⟩
   rw[←hf]at c0 c1 c2 hok hls
   have HLS:=Lib.hid hls
   have nr:=hnr.out
   clear hA hf hls hnr
   unfold okF at hok
   cases h1:wiB f.y lo 2048
   ·rw[h1]at hok
    have HE:Hid (r=false):=Lib.hid (by rw[HR.out];exact riseB_bad hil (by rw[hok];rfl))
    have K1:=fun W=>KW.out f.y lo 2048 W
    rw[h1]at K1
    clear hok h1
    go_wp2_with fail
    refine(K1 _).mono ?_
    rintro e w2 ⟨rfl,rfl⟩
    go_wp2_with fail
    go_ret
    exact⟨by rw[HE.out];rfl,by exact nw⟩
   ·rw[h1]at hok
    have K1:=fun W=>KW.out f.y lo 2048 W
    rw[h1]at K1
    have h1':=wiB_iff.1 h1
    have hlo : -2048≤lo:=by rw[HLO.out];exact leastAt_lo (by omega) HB.out
    have hw1:IntKind.i64.wrap (f.y+1)=f.y+1:=IntWalk.i64_in _ (by omega)
    clear h1
    rw[Bool.true_and]at hok
    cases h2:wiB f.top (f.y+1) 1048576
    ·rw[h2]at hok
     have HE:Hid (r=false):=Lib.hid (by rw[HR.out];exact riseB_bad hil (by rw[hok];rfl))
     have K2:=fun W=>KW.out f.top (f.y+1) 1048576 W
     rw[h2]at K2
     clear hok h2 h1' hlo
     go_wp2_with fail
     refine(K1 _).mono ?_
     rintro e w2 ⟨rfl,rfl⟩
     go_wp2_with fail
     refine(K2 _).mono ?_
     rintro e w2 ⟨rfl,rfl⟩
     go_wp2_with fail
     go_ret
     exact⟨by rw[HE.out];rfl,by exact nw⟩
    ·have K2:=fun W=>KW.out f.top (f.y+1) 1048576 W
     rw[h2]at K2
     rw[h2,Bool.true_and]at hok
     clear h2
     have K3:=fun W=>KW.out f.area 0 7 W
     cases h3:wiB f.area 0 7
     ·have HE:Hid (r=false):=Lib.hid (by rw[HR.out];exact riseB_bad hil (by rw[hok];exact h3))
      rw[h3]at K3
      clear hok h3 h1' hlo
      go_wp2_with fail
      refine(K1 _).mono ?_
      rintro e w2 ⟨rfl,rfl⟩
      go_wp2_with fail
      refine(K2 _).mono ?_
      rintro e w2 ⟨rfl,rfl⟩
      go_wp2_with fail
      refine(K3 _).mono ?_
      rintro e w2 ⟨rfl,rfl⟩
      go_wp2_with fail
      go_ret
      exact⟨by rw[HE.out];rfl,by exact nw⟩
     ·have hnx:Hid (∀ j,j<i+1→okAt l j=true):=Lib.hid (fun j hj=>by
       by_cases e:j<i
       ·exact HB.out j e
       ·obtain rfl:j=i:=by omega
        rw[hok];exact h3)
      rw[h3]at K3
      clear hok h3 h1' hlo
      go_wp2_with fail
      refine(K1 _).mono ?_
      rintro e w2 ⟨rfl,rfl⟩
      go_wp2_with fail
      refine(K2 _).mono ?_
      rintro e w2 ⟨rfl,rfl⟩
      go_wp2_with fail
      refine(K3 _).mono ?_
      rintro e w2 ⟨rfl,rfl⟩
      go_wp2_with fail
      go_roundg (n - (i+1))
      case measure=>omega
      case rel=>exact⟨i+1,f.top,by go_num,rfl,Lib.hid HLS.out.symm,by omega,by omega,hnx,Lib.hid (by exact nw)⟩
  ·obtain rfl:i=n:=by omega
   have HE:Hid (r=true):=Lib.hid (by rw[HR.out];exact riseB_all (by rw[←HN.out];omega) (by rw[←HN.out];exact HB.out))
   go_wp2_with fail
   go_ret
   exact⟨by rw[HE.out];rfl,hnr.out⟩
def placeB (G:Gd):Bool:=wiB G.x (-64) 64&&(wiB G.z (-64) 64&&(wiB G.w 0 64&&wiB G.d 0 64))
theorem placeB_iff {G:Gd}:placeB G=true↔(-64≤G.x∧G.x≤64)∧(-64≤G.z∧G.z≤64)∧(0≤G.w∧G.w≤64)∧0≤G.d∧G.d≤64:=by
 unfold placeB
 simp only[Bool.and_eq_true,wiB_iff]
def gdB (G:Gd):Bool:=placeB G&&(decide ((G.L.length:Int)=G.w*G.d)&&G.L.all riseB)
def gE (G:Gd):Int:=if gdB G=true then 0 else 2
theorem gE_two (G:Gd):gE G=0∨gE G=2:=by unfold gE;split <;> simp
theorem gE_zero {G:Gd}:gE G=0↔gdB G=true:=by
 unfold gE
 split
 ·rename_i h;simp[h]
 ·rename_i h;simp[h]
theorem gE_bad {G:Gd} (h:gdB G=false):gE G=2:=by unfold gE;simp[h]
theorem gd_place {G:Gd} (h:placeB G=false):gE G=2:=gE_bad (by unfold gdB;rw[h];rfl)
theorem gd_len {G:Gd} (h:¬ (G.L.length:Int)=G.w*G.d):gE G=2:=gE_bad (by unfold gdB;rw[decide_eq_false h];simp)
theorem gd_row {G:Gd} (j:Nat) (h:j<G.L.length) (hb:riseB G.L[j]=false):gE G=2:=gE_bad (by
 have:G.L.all riseB=false:=by
  rw[List.all_eq_false]
  exact⟨_,List.getElem_mem h,by rw[hb];simp⟩
 unfold gdB
 rw[this]
 simp)
theorem gd_fine {G:Gd} (h1:placeB G=true) (h2:(G.L.length:Int)=G.w*G.d) (h3:∀ j (h:j<G.L.length),riseB G.L[j]=true):gE G=0:=by
 rw[gE_zero]
 unfold gdB
 rw[h1,decide_eq_true h2]
 have:G.L.all riseB=true:=by
  rw[List.all_eq_true]
  intro l hl
  obtain⟨j,hj,rfl⟩:=List.getElem_of_mem hl
  exact h3 j hj
 rw[this]
 rfl
theorem gd_is {G:Gd} (h:gE G=0):placeB G=true∧(G.L.length:Int)=G.w*G.d∧∀ j (h:j<G.L.length),riseB G.L[j]=true:=by
 rw[gE_zero]at h
 unfold gdB at h
 simp only[Bool.and_eq_true,decide_eq_true_eq,List.all_eq_true]at h
 exact⟨h.1,h.2.1,fun j hj=>h.2.2 _ (List.getElem_mem hj)⟩
theorem mul_64 {a b:Int} (h1:0≤a) (h2:a≤64) (h3:0≤b) (h4:b≤64):0≤a*b∧a*b≤4096 :=
 ⟨Int.mul_nonneg h1 h3,by have:=Int.mul_le_mul h2 h4 h3 (by omega:(0:Int)≤64);omega⟩
theorem og_check (G:Gd) (w:World) (h:G.ok w):Calls Tryz.prog 136 #[.agg #[.int .i64 G.x,.int .i64 G.z,.int .i64 G.w,.int .i64 G.d,.slice G.ga G.L.length G.gc]] w fun e w'=>e=.returned (.int .i64 (gE G))∧New w w':=by
 have KW:=Lib.hid (fun n lo hi W=>og_within n lo hi W)
 have KR:=Lib.hid (fun a l c hl W H=>og_rise a l c hl W H)
 have HH:Hid (RowsK Fl.enc 3 w (.slice G.ga G.L.length G.gc) G.L):=Lib.hid h
 obtain⟨r,hr⟩:∃ r,r=gE G:=⟨_,rfl⟩
 rw[←hr]
 have HR:=Lib.hid hr
 obtain⟨n,hn⟩:∃ n,n=G.L.length:=⟨_,rfl⟩
 have hmx:n≤maxLen:=by
  obtain⟨us,h1,⟨a,c,e,h2,h3,-⟩,-⟩:=h
  omega
 unfold maxLen at hmx
 rw[←hn]at HH ⊢
 have HN:=Lib.hid hn
 clear hn hr h
 have K1:=fun W=>KW.out G.x (-64) 64 W
 have K2:=fun W=>KW.out G.z (-64) 64 W
 have K3:=fun W=>KW.out G.w 0 64 W
 have K4:=fun W=>KW.out G.d 0 64 W
 clear KW
 have hp:placeB G=(wiB G.x (-64) 64&&(wiB G.z (-64) 64&&(wiB G.w 0 64&&wiB G.d 0 64))):=rfl
 have HP:=Lib.hid (@placeB_iff G)
 obtain⟨x,hx⟩:∃ x,x=G.x:=⟨_,rfl⟩
 obtain⟨z,hz⟩:∃ x,x=G.z:=⟨_,rfl⟩
 obtain⟨wi,hwi⟩:∃ x,x=G.w:=⟨_,rfl⟩
 obtain⟨d,hdd⟩:∃ x,x=G.d:=⟨_,rfl⟩
 rw[←hx]at K1 hp HP ⊢
 rw[←hz]at K2 hp HP ⊢
 rw[←hwi]at K3 hp HP ⊢
 rw[←hdd]at K4 hp HP ⊢
 have HX:=Lib.hid (And.intro hwi hdd)
 obtain⟨ga,hga⟩:∃ q,q=G.ga:=⟨_,rfl⟩
 rw[←hga]at HH ⊢
 clear hga
 clear hx hz hwi hdd
 cases h1:wiB x (-64) 64
 ·have HE:Hid (r=2):=Lib.hid (by rw[HR.out];exact gd_place (by rw[hp,h1];rfl))
  rw[h1]at K1
  clear hp h1
  go_enter Tryz.func136,Tryz.ntmps136
  go_wp2_with fail
  refine(K1 _).mono ?_
  rintro e w2 ⟨rfl,rfl⟩
  go_wp2_with fail
  go_ret
  exact⟨by rw[HE.out];rfl,by exact nw⟩
 cases h2:wiB z (-64) 64
 ·have HE:Hid (r=2):=Lib.hid (by rw[HR.out];exact gd_place (by rw[hp,h1,h2];rfl))
  rw[h1]at K1
  rw[h2]at K2
  clear hp h1 h2
  go_enter Tryz.func136,Tryz.ntmps136
  go_wp2_with fail
  refine(K1 _).mono ?_
  rintro e w2 ⟨rfl,rfl⟩
  go_wp2_with fail
  refine(K2 _).mono ?_
  rintro e w2 ⟨rfl,rfl⟩
  go_wp2_with fail
  go_ret
  exact⟨by rw[HE.out];rfl,by exact nw⟩
 cases h3:wiB wi 0 64
 ·have HE:Hid (r=2):=Lib.hid (by rw[HR.out];exact gd_place (by rw[hp,h1,h2,h3];rfl))
  rw[h1]at K1
  rw[h2]at K2
  rw[h3]at K3
  clear hp h1 h2 h3
  go_enter Tryz.func136,Tryz.ntmps136
  go_wp2_with fail
  refine(K1 _).mono ?_
  rintro e w2 ⟨rfl,rfl⟩
  go_wp2_with fail
  refine(K2 _).mono ?_
  rintro e w2 ⟨rfl,rfl⟩
  go_wp2_with fail
  refine(K3 _).mono ?_
  rintro e w2 ⟨rfl,rfl⟩
  go_wp2_with fail
  go_ret
  exact⟨by rw[HE.out];rfl,by exact nw⟩
 cases h4:wiB d 0 64
 ·have HE:Hid (r=2):=Lib.hid (by rw[HR.out];exact gd_place (by rw[hp,h1,h2,h3,h4];rfl))
  rw[h1]at K1
  rw[h2]at K2
  rw[h3]at K3
  rw[h4]at K4
  clear hp h1 h2 h3 h4
  go_enter Tryz.func136,Tryz.ntmps136
  go_wp2_with fail
  refine(K1 _).mono ?_
  rintro e w2 ⟨rfl,rfl⟩
  go_wp2_with fail
  refine(K2 _).mono ?_
  rintro e w2 ⟨rfl,rfl⟩
  go_wp2_with fail
  refine(K3 _).mono ?_
  rintro e w2 ⟨rfl,rfl⟩
  go_wp2_with fail
  refine(K4 _).mono ?_
  rintro e w2 ⟨rfl,rfl⟩
  go_wp2_with fail
  go_ret
  exact⟨by rw[HE.out];rfl,by exact nw⟩
 have hpt:placeB G=true:=by rw[hp,h1,h2,h3,h4];rfl
 have hb:=HP.out.1 hpt
 have HPT:=Lib.hid hpt
 rw[h1]at K1
 rw[h2]at K2
 rw[h3]at K3
 rw[h4]at K4
 clear hp h1 h2 h3 h4 hpt
 have hm:=mul_64 hb.2.2.1.1 hb.2.2.1.2 hb.2.2.2.1 hb.2.2.2.2
 have hwm:IntKind.i64.wrap (wi*d)=wi*d:=IntWalk.i64_in _ (by omega)
 clear hb
 by_cases hln:(n:Int)=wi*d
 rotate_left
 ·have HE:Hid (r=2):=Lib.hid (by rw[HR.out];exact gd_len (by rw[←HN.out,←HX.out.1,←HX.out.2];exact hln))
  have hne:((n:Int) != wi*d)=true:=by rw[bne_iff_ne];exact hln
  clear hln
  go_enter Tryz.func136,Tryz.ntmps136
  go_wp2_with fail
  refine(K1 _).mono ?_
  rintro e w2 ⟨rfl,rfl⟩
  go_wp2_with fail
  refine(K2 _).mono ?_
  rintro e w2 ⟨rfl,rfl⟩
  go_wp2_with fail
  refine(K3 _).mono ?_
  rintro e w2 ⟨rfl,rfl⟩
  go_wp2_with fail
  refine(K4 _).mono ?_
  rintro e w2 ⟨rfl,rfl⟩
  go_wp2_with fail
  go_ret
  exact⟨by rw[HE.out];rfl,by exact nw⟩
 have hne:((n:Int) != wi*d)=false:=by rw[bne_eq_false_iff_eq];exact hln
 have HLN:Hid ((G.L.length:Int)=G.w*G.d):=Lib.hid (by rw[←HN.out,←HX.out.1,←HX.out.2];exact hln)
 have hn4:n≤4096:=by omega
 clear hln
 go_enter Tryz.func136,Tryz.ntmps136
 go_wp2_with fail
 refine(K1 _).mono ?_
 rintro e w2 ⟨rfl,rfl⟩
 go_wp2_with fail
 refine(K2 _).mono ?_
 rintro e w2 ⟨rfl,rfl⟩
 go_wp2_with fail
 refine(K3 _).mono ?_
 rintro e w2 ⟨rfl,rfl⟩
 go_wp2_with fail
 refine(K4 _).mono ?_
 rintro e w2 ⟨rfl,rfl⟩
 clear K1 K2 K3 K4
 go_wp2_with fail
 generalize hW:World.alloc _ _=W0
 have n0:Hid (New w W0):=Lib.hid (by subst hW;exact nw)
 clear hW
 go_loopg [40] n (fun gk s40 wr=>∃ i:Nat,s40=.int .i64 i∧i≤n∧n - i≤gk∧Hid (∀ j (h:j<G.L.length),j<i→riseB G.L[j]=true)∧Hid (New W0 wr))
 case atStart=>exact⟨0,rfl,by omega,by omega,Lib.hid (fun j _ h=>by omega),Lib.hid (New.refl _)⟩
 case round =>
  obtain⟨i,rfl,hi,hgk,HB,hnr⟩:=hrel
  by_cases hlt:i<n
  ·have hil:i<G.L.length:=by rw[←HN.out];exact hlt
   obtain⟨b,off,a,c,rfl,hc,hs⟩:=(HH.out.keep (n0.out.trans hnr.out)).at i hil
   have hlx:G.L[i].length≤maxLen:=by obtain⟨_,q1,q2,_⟩:=hs.row';omega
   have kr:=fun W (q:New wr W)=>KR.out a G.L[i] c hlx W ((hs.keep q).row'.2.2.2.2)
   obtain⟨m,hm2⟩:∃ m,m=G.L[i].length:=⟨_,rfl⟩
   rw[←hm2]at hc kr
   clear hs hm2 hlx
   cases hq:riseB G.L[i]
   ·have HE:Hid (r=2):=Lib.hid (by rw[HR.out];exact gd_row i hil hq)
    rw[hq]at kr
    have KK:=Lib.hid kr
    clear kr hq
    go_wp2_with fail
    refine(KK.out _ (New.refl _)).mono ?_
    rintro e w2 ⟨rfl,n2⟩
    have nn:=n0.out.trans (hnr.out.trans n2)
    go_wp2_with fail
    go_ret
    exact⟨by rw[HE.out];rfl,nn⟩
   ·have hnx:Hid (∀ j (h:j<G.L.length),j<i+1→riseB G.L[j]=true):=Lib.hid (fun j h hj=>by
     by_cases e:j<i
     ·exact HB.out j h e
     ·obtain rfl:j=i:=by omega
      exact hq)
    rw[hq]at kr
    have KK:=Lib.hid kr
    clear kr hq
    go_wp2_with fail
    refine(KK.out _ (New.refl _)).mono ?_
    rintro e w2 ⟨rfl,n2⟩
    have nn:=Lib.hid (hnr.out.trans n2)
    clear hc n2
    go_wp2_with fail
    go_roundg (n - (i+1))
    case measure=>omega
    case rel=>exact⟨i+1,by go_num,by omega,by omega,hnx,nn⟩
  ·obtain rfl:i=n:=by omega
   have HE:Hid (r=0):=Lib.hid (by rw[HR.out];exact gd_fine HPT.out HLN.out (fun j hj=>HB.out j hj (by rw[HN.out];exact hj)))
   go_wp2_with fail
   go_ret
   exact⟨by rw[HE.out];rfl,n0.out.trans hnr.out⟩
end Go.Proofs.YtmhghnbgllaihaaGreatDoor
