import Derived.Test.YtmhghnbgllaihaaGreatDoorClNP2Z2
import Derived.Test.YtmhghnbgllaihaaGreatDoorClGP2Z2
import Derived.Test.YtmhghnbgllaihaaGreatDoorSoYP2Z2
set_option linter.unusedVariables false
set_option maxHeartbeats 16000000
set_option maxRecDepth 100000

namespace Go.Proofs.YtmhghnbgllaihaaGreatDoor
open Go.RowKit Go.Sort Go.Shelf Go.Lib
theorem com_okc {T:TriR} (hk:okT T=true) {x z:Int} (hx : -1≤x∧x≤32) (hz : -1≤z∧z≤32) {c:Co} (h:c∈comL T x z):Okc c:=by
 unfold comL at h
 simp only[List.mem_append,mem_gat]at h
 rcases h with ((⟨b,hb,h,-⟩|⟨b,hb,h,-⟩)|⟨b,hb,h,-⟩)|⟨b,hb,h,-⟩
 ·exact above_okc hk hx hz hb h
 ·exact cross_okc hk hx hz 0 hb h
 ·exact cross_okc hk hx hz 1 hb h
 ·exact cross_okc hk hx hz 2 hb h
theorem com_len (T:TriR) (x z:Int):(comL T x z).length≤16:=by
 unfold comL
 simp only[List.length_append]
 have h0:(gat x z (aboveO T) (cornL x z)).length≤4:=gat_len x z _ (cornL x z)
 have h1:(gat x z (crossO (side T 0)) (lineL x z)).length≤4:=gat_len x z _ (lineL x z)
 have h2:(gat x z (crossO (side T 1)) (lineL x z)).length≤4:=gat_len x z _ (lineL x z)
 have h3:(gat x z (crossO (side T 2)) (lineL x z)).length≤4:=gat_len x z _ (lineL x z)
 omega
structure IsCor (T:TriR) (x z:Int) (R:List Co):Prop where
 rise:R.Pairwise ltC
 mem:∀ c,c∈R↔c∈comL T x z
def CorP (T:TriR) (x z:Int) (w:World) (e:Ending) (w':World):Prop:=∃ (v:Value) (R:List Co),e=.returned (.tuple #[v,.int .i64 0])∧Sl Co.enc 4 w' v R∧IsCor T x z R∧New w w'
theorem cor_few {T:TriR} {x z:Int} (h:(comL T x z).length<2):IsCor T x z (comL T x z):=by
 refine⟨?_,fun c=>Iff.rfl⟩
 match hl:comL T x z,h with
 | [],_=>exact List.Pairwise.nil
 | [a],_=>exact List.pairwise_singleton _ _
 | a::b::l,h=>exact absurd h (by simp)
theorem cor_many {T:TriR} (hk:okT T=true) {x z:Int} (hx : -1≤x∧x≤32) (hz : -1≤z∧z≤32) {m:List Co} (hp:m.Perm (comL T x z)) (hs:m.Pairwise (fun a b=>¬ ltC b a)):IsCor T x z (cmpU m m.length):=by
 refine⟨cmpU_rise (fun c hc=>(com_prim hk hx hz (hp.mem_iff.1 hc)).1.1) (fun a ha b hb e1 e2=>com_one hk (com_prim hk hx hz (hp.mem_iff.1 ha)) (com_prim hk hx hz (hp.mem_iff.1 hb)) e1 e2) hs _,fun c=>?_⟩
 rw[mem_cmpU,List.take_length]
 exact hp.mem_iff
theorem sl_of_row {w:World} {g cap:Nat} {l:List Co} (h:RowAt Co.enc 4 w g 0 l) (hc:l.length≤cap) (hm:cap≤maxLen):Sl Co.enc 4 w (.slice (some ⟨g,0,none⟩) l.length cap) l :=
 ⟨_,_,rfl,hc,hm,fun h=>(by cases h),fun _=>⟨g,0,rfl,h⟩⟩
def corE (T:TriR) (x z:Int):Int:=if okT T then (if colB x&&colB z then 0 else 2)else 40
theorem k_cor_bad (T:TriR) (x z:Int) (w:World) (h:corE T x z≠0) :
  Calls Tryz.prog 227 #[.agg #[.int .i64 T.i,.int .i64 T.x0,.int .i64 T.y0,.int .i64 T.z0,.int .i64 T.x1,.int .i64 T.y1,.int .i64 T.z1,.int .i64 T.x2,.int .i64 T.y2,.int .i64 T.z2],.int .i64 x,.int .i64 z] w fun e w'=>e=.returned (.tuple #[.slice none 0 0,.int .i64 (corE T x z)])∧New w w':=by
 have KC:=fun W=>k_check T W
 have KX:=fun W=>k_col x W
 have KZ:=fun W=>k_col z W
 unfold chkE at KC
 unfold corE at h ⊢
 cases hk:okT T
 ·rw[hk]at KC
  simp only[Bool.false_eq_true,if_false]at KC ⊢
  replace KC:=Lib.hid KC
  clear h hk KX KZ
  go_enter Tryz.func227,Tryz.ntmps227
  go_wp2_with fail
  refine(KC.out _).mono ?_
  rintro e W1 ⟨rfl,n1⟩
  have hn:New w W1:=New.trans (by exact nw) n1
  clear n1
  go_wp2_with fail
  refine bodyPost_ret (v:=.tuple #[.slice none 0 0,.int .i64 40]) (by simp[results,Tryz.results227,go_sem, *]) rfl ?_
  exact⟨rfl,hn⟩
 ·rw[hk]at KC h
  simp only[if_true]at KC h ⊢
  cases hx:colB x
  ·rw[hx]at KX
   simp only[Bool.false_and,Bool.false_eq_true,if_false]
   replace KC:=Lib.hid KC
   replace KX:=Lib.hid KX
   clear h hk KZ hx
   go_enter Tryz.func227,Tryz.ntmps227
   go_wp2_with fail
   refine(KC.out _).mono ?_
   rintro e W1 ⟨rfl,n1⟩
   have hn:New w W1:=New.trans (by exact nw) n1
   clear n1
   go_wp2_with fail
   refine(KX.out _).mono ?_
   rintro e W2 ⟨rfl,rfl⟩
   go_wp2_with fail
   refine bodyPost_ret (v:=.tuple #[.slice none 0 0,.int .i64 2]) (by simp[results,Tryz.results227,go_sem, *]) rfl ?_
   exact⟨rfl,hn⟩
  ·cases hz:colB z
   ·rw[hx]at KX
    rw[hz]at KZ
    simp only[Bool.and_false,Bool.false_eq_true,if_false]
    replace KC:=Lib.hid KC
    replace KX:=Lib.hid KX
    replace KZ:=Lib.hid KZ
    clear h hk hx hz
    go_enter Tryz.func227,Tryz.ntmps227
    go_wp2_with fail
    refine(KC.out _).mono ?_
    rintro e W1 ⟨rfl,n1⟩
    have hn:New w W1:=New.trans (by exact nw) n1
    clear n1
    go_wp2_with fail
    refine(KX.out _).mono ?_
    rintro e W2 ⟨rfl,rfl⟩
    go_wp2_with fail
    refine(KZ.out _).mono ?_
    rintro e W2 ⟨rfl,rfl⟩
    go_wp2_with fail
    refine bodyPost_ret (v:=.tuple #[.slice none 0 0,.int .i64 2]) (by simp[results,Tryz.results227,go_sem, *]) rfl ?_
    exact⟨rfl,hn⟩
   ·rw[hx,hz]at h
    exact absurd rfl h
theorem cor_zero {T:TriR} {x z:Int} (h:corE T x z=0):okT T=true∧colB x=true∧colB z=true∧(-1≤x∧x≤32)∧(-1≤z∧z≤32):=by
 unfold corE at h
 split at h
 ·split at h
  ·rename_i h1 h2
   simp only[Bool.and_eq_true]at h2
   have a:=h2.1
   have b:=h2.2
   unfold colB at a b
   rw[decide_eq_true_eq]at a b
   exact⟨h1,h2.1,h2.2,a,b⟩
  ·omega
 ·omega
theorem k_sort_none (p:Option Addr) (cap:Nat) (fv:Value) (w:World) :
  Calls Tryz.prog 248 #[.slice p 0 cap,fv] w fun e w'=>e=.returned (.tuple #[])∧w=w':=by
 have h:=AnyF.slices_SortFunc_none laysSortF p cap fv w
 change Calls Tryz.prog 248 _ _ _ at h
 exact h.mono fun _ _ ⟨he,hw⟩=>⟨he,hw.symm⟩
theorem k_cor (T:TriR) (x z:Int) (w:World) (h:corE T x z=0) :
  Calls Tryz.prog 227 #[.agg #[.int .i64 T.i,.int .i64 T.x0,.int .i64 T.y0,.int .i64 T.z0,.int .i64 T.x1,.int .i64 T.y1,.int .i64 T.z1,.int .i64 T.x2,.int .i64 T.y2,.int .i64 T.z2],.int .i64 x,.int .i64 z] w (CorP T x z w):=by
 obtain⟨hk,hcx,hcz,hx,hz⟩:=cor_zero h
 have KC:=fun W=>k_check T W
 have KX:=fun W=>k_col x W
 have KZ:=fun W=>k_col z W
 unfold chkE at KC
 rw[hk]at KC
 rw[hcx]at KX
 rw[hcz]at KZ
 simp only[if_true]at KC
 have KM:=Lib.hid (fun W=>k_common T hk x z W hx hz)
 have HO:=Lib.hid (fun c hc=>com_okc hk hx hz (c:=c) hc)
 have HF:=Lib.hid (cor_few (T:=T) (x:=x) (z:=z))
 have HM:=Lib.hid (fun m hp hs=>cor_many hk hx hz (m:=m) hp hs)
 have hlen:=com_len T x z
 replace KC:=Lib.hid KC
 replace KX:=Lib.hid KX
 replace KZ:=Lib.hid KZ
 clear h hk hcx hcz
 go_enter Tryz.func227,Tryz.ntmps227
 go_wp2_with fail
 refine(KC.out _).mono ?_
 rintro e W1 ⟨rfl,n1⟩
 have c0:W1.cell? ⟨w.heap.size,0,none⟩=some (.int .i64 T.i):=n1.keep (by go_simp)
 have c1:W1.cell? ⟨w.heap.size,1,none⟩=some (.int .i64 T.x0):=n1.keep (by go_simp)
 have c2:W1.cell? ⟨w.heap.size,2,none⟩=some (.int .i64 T.y0):=n1.keep (by go_simp)
 have c3:W1.cell? ⟨w.heap.size,3,none⟩=some (.int .i64 T.z0):=n1.keep (by go_simp)
 have c4:W1.cell? ⟨w.heap.size,4,none⟩=some (.int .i64 T.x1):=n1.keep (by go_simp)
 have c5:W1.cell? ⟨w.heap.size,5,none⟩=some (.int .i64 T.y1):=n1.keep (by go_simp)
 have c6:W1.cell? ⟨w.heap.size,6,none⟩=some (.int .i64 T.z1):=n1.keep (by go_simp)
 have c7:W1.cell? ⟨w.heap.size,7,none⟩=some (.int .i64 T.x2):=n1.keep (by go_simp)
 have c8:W1.cell? ⟨w.heap.size,8,none⟩=some (.int .i64 T.y2):=n1.keep (by go_simp)
 have c9:W1.cell? ⟨w.heap.size,9,none⟩=some (.int .i64 T.z2):=n1.keep (by go_simp)
 have hn:New w W1:=New.trans (by exact nw) n1
 clear n1 KC
 go_wp2_with fail
 refine(KX.out _).mono ?_
 rintro e W2 ⟨rfl,rfl⟩
 go_wp2_with fail
 refine(KZ.out _).mono ?_
 rintro e W2 ⟨rfl,rfl⟩
 clear KX KZ
 go_wp2_with fail
 refine(KM.out _).mono ?_
 rintro e W2 ⟨v,rfl,ho,n2⟩
 have hz1:=hn.size
 replace hn:=hn.trans n2
 clear n2 KM c0 c1 c2 c3 c4 c5 c6 c7 c8 c9
 have HW:=Lib.hid ho
 have HSL:=Lib.hid (own_sl Co.enc_len ho)
 rcases ho.2 with ⟨rfl,h0⟩|⟨g,cap,cur,rfl,hgb,hh,hc,hm,-,-⟩
 ·have HS2:Hid (Sl Co.enc 4 W2 (.slice none 0 0) (comL T x z)):=by simpa [h0]using HSL
  have HF2:=Lib.hid (HF.out (by omega))
  have hl2:(comL T x z).length<2:=by omega
  have HC2:=Lib.hid (k_compact_few (.slice none 0 0) _ W2 HS2.out hl2)
  clear h0 hlen ho hl2 HW HSL HM HF HO
  go_wp2_with fail
  refine(k_sort_none none 0 _ _).mono ?_
  rintro e W3 ⟨rfl,rfl⟩
  go_wp2_with fail
  refine HC2.out.mono ?_
  rintro e W3 ⟨rfl,rfl⟩
  go_wp2_with fail
  refine bodyPost_ret (v:=.tuple #[.slice none 0 0,.int .i64 0]) (by simp[results,Tryz.results227,go_sem, *]) rfl ?_
  exact⟨_,_,rfl,HS2.out,HF2.out,hn⟩
 ·by_cases h0:(comL T x z).length=0
  ·have HF2:=Lib.hid (HF.out (by omega))
   have HC2:=Lib.hid (k_compact_few _ _ W2 HSL.out (by omega))
   rw[h0]at HSL HC2 ⊢
   clear h0 hlen ho HW HM HF HO hh hc hm hgb
   go_wp2_with fail
   refine(k_sort_none _ cap _ _).mono ?_
   rintro e W3 ⟨rfl,rfl⟩
   go_wp2_with fail
   refine HC2.out.mono ?_
   rintro e W3 ⟨rfl,rfl⟩
   go_wp2_with fail
   refine bodyPost_ret (v:=.tuple #[.slice (some ⟨g,0,none⟩) 0 cap,.int .i64 0]) (by simp[results,Tryz.results227,go_sem]) rfl ?_
   exact⟨_,_,rfl,HSL.out,HF2.out,hn⟩
  ·have zg:g<W2.heap.size:=by
    rcases Nat.lt_or_ge g W2.heap.size with q|q
    ·exact q
    ·rw[Array.getElem?_eq_none q]at hh;cases hh
   have KS:=Lib.hid (k_sort g cap (comL T x z) HO.out (by omega) W2 (WRow.of_own HW.out) zg)
   obtain⟨n,hnl⟩:∃ n,n=(comL T x z).length:=⟨_,rfl⟩
   rw[←hnl]at KS hc h0 hlen ⊢
   have HNL:=Lib.hid hnl
   have zb:w.heap.size≤g:=by omega
   clear hnl ho HW HSL hh hgb
   unfold maxLen at hm
   go_wp2_with fail
   refine KS.out.mono ?_
   rintro e W3 ⟨rfl,m,hp,hs,hw,hu⟩
   have hml:m.length=n:=by rw[HNL.out];exact hp.length_eq
   have HN3:=Lib.hid (hu w hn zb)
   by_cases h2:n<2
   ·have HS3:Hid (Sl Co.enc 4 W3 (.slice (some ⟨g,0,none⟩) n cap) m):=Lib.hid (by rw[←hml];exact sl_of_row hw.row (by omega) (by unfold maxLen;omega))
    have HC2:=Lib.hid (k_compact_few _ _ W3 HS3.out (by omega))
    have HI:Hid (IsCor T x z m):=Lib.hid (by
     have e:m=comL T x z:=by
      have hl:(comL T x z).length=1:=by rw[←HNL.out];omega
      obtain⟨a,ha⟩:=List.length_eq_one_iff.1 hl
      rw[ha]at hp ⊢
      exact List.perm_singleton.1 hp
     rw[e];exact HF.out (by rw[←HNL.out];exact h2))
    clear hml hp hs hw hu HF HO HM KS HNL hn
    go_wp2_with fail
    refine HC2.out.mono ?_
    rintro e W4 ⟨rfl,rfl⟩
    go_wp2_with fail
    refine bodyPost_ret (v:=.tuple #[.slice (some ⟨g,0,none⟩) n cap,.int .i64 0]) (by simp[results,Tryz.results227,go_sem]) rfl ?_
    exact⟨_,_,rfl,HS3.out,HI.out,HN3.out⟩
   ·have KK:=k_compact g cap m W3 hw (by omega) (by omega) (by unfold maxLen;omega)
    rw[hml]at KK
    have HI:=Lib.hid (HM.out m hp hs)
    have HLN:Hid ((cmpU m n).length≤n):=Lib.hid (cmpU_len n)
    rw[hml]at HI
    replace KK:=Lib.hid KK
    clear hml hp hs hw hu HF HO HM KS HNL hn
    go_wp2_with fail
    refine KK.out.mono ?_
    rintro e W4 ⟨rfl,hr,hu⟩
    have HR:=Lib.hid hr
    have hn4:=hu w HN3.out zb
    have HSL:=Lib.hid (sl_of_row HR.out (by have:=HLN.out;omega) (by unfold maxLen;omega:cap≤maxLen))
    generalize (cmpU m n).length=q at *
    clear hr hu
    go_wp2_with fail
    refine bodyPost_ret (v:=.tuple #[.slice (some ⟨g,0,none⟩) q cap,.int .i64 0]) (by simp[results,Tryz.results227,go_sem]) rfl ?_
    exact⟨_,_,rfl,HSL.out,HI.out,hn4⟩
end Go.Proofs.YtmhghnbgllaihaaGreatDoor

namespace Go.Proofs.YtmhghnbgllaihaaGreatDoor
open Go.RowKit
def loF (l:List Co):Int:=l.foldl (fun a c=>min a (flC c)) 2048
def hiF (l:List Co):Int:=l.foldl (fun a c=>max a (clC c)) (-2048)
theorem loF_snoc (l:List Co) (c:Co):loF (l++[c])=min (loF l) (flC c):=by unfold loF;rw[List.foldl_append];rfl
theorem hiF_snoc (l:List Co) (c:Co):hiF (l++[c])=max (hiF l) (clC c):=by unfold hiF;rw[List.foldl_append];rfl
theorem minf_spec (f:Co→Int):∀ (l:List Co) (a:Int),l.foldl (fun a c=>min a (f c)) a≤a∧(∀ c∈l,l.foldl (fun a c=>min a (f c)) a≤f c)∧(l.foldl (fun a c=>min a (f c)) a=a∨∃ c∈l,l.foldl (fun a c=>min a (f c)) a=f c)
 | [],a=>⟨Int.le_refl _,fun c hc=>(by cases hc),.inl rfl⟩
 | b::l,a=>by
  obtain⟨h1,h2,h3⟩:=minf_spec f l (min a (f b))
  simp only[List.foldl_cons]
  refine⟨by omega,fun c hc=>?_,?_⟩
  ·rcases List.mem_cons.1 hc with rfl|hc
   ·omega
   ·exact h2 c hc
  ·rcases h3 with h3|⟨c,hc,h3⟩
   ·rcases(show min a (f b)=a∨min a (f b)=f b by omega)with q|q
    ·left;omega
    ·right;exact⟨b,List.mem_cons_self,by omega⟩
   ·right;exact⟨c,List.mem_cons_of_mem _ hc,h3⟩
theorem maxf_spec (f:Co→Int):∀ (l:List Co) (a:Int),a≤l.foldl (fun a c=>max a (f c)) a∧(∀ c∈l,f c≤l.foldl (fun a c=>max a (f c)) a)∧(l.foldl (fun a c=>max a (f c)) a=a∨∃ c∈l,l.foldl (fun a c=>max a (f c)) a=f c)
 | [],a=>⟨Int.le_refl _,fun c hc=>(by cases hc),.inl rfl⟩
 | b::l,a=>by
  obtain⟨h1,h2,h3⟩:=maxf_spec f l (max a (f b))
  simp only[List.foldl_cons]
  refine⟨by omega,fun c hc=>?_,?_⟩
  ·rcases List.mem_cons.1 hc with rfl|hc
   ·omega
   ·exact h2 c hc
  ·rcases h3 with h3|⟨c,hc,h3⟩
   ·rcases(show max a (f b)=a∨max a (f b)=f b by omega)with q|q
    ·left;omega
    ·right;exact⟨b,List.mem_cons_self,by omega⟩
   ·right;exact⟨c,List.mem_cons_of_mem _ hc,h3⟩
theorem loF_congr {l m:List Co} (h:∀ c,c∈l↔c∈m):loF l=loF m:=by
 obtain⟨a1,a2,a3⟩:=minf_spec flC l 2048
 obtain⟨b1,b2,b3⟩:=minf_spec flC m 2048
 unfold loF
 generalize l.foldl (fun a c=>min a (flC c)) 2048=p at *
 generalize m.foldl (fun a c=>min a (flC c)) 2048=q at *
 have k1:p≤q:=by
  rcases b3 with e|⟨c,hc,e⟩
  ·omega
  ·rw[e];exact a2 c ((h c).2 hc)
 have k2:q≤p:=by
  rcases a3 with e|⟨c,hc,e⟩
  ·omega
  ·rw[e];exact b2 c ((h c).1 hc)
 omega
theorem hiF_congr {l m:List Co} (h:∀ c,c∈l↔c∈m):hiF l=hiF m:=by
 obtain⟨a1,a2,a3⟩:=maxf_spec clC l (-2048)
 obtain⟨b1,b2,b3⟩:=maxf_spec clC m (-2048)
 unfold hiF
 generalize l.foldl (fun a c=>max a (clC c)) (-2048)=p at *
 generalize m.foldl (fun a c=>max a (clC c)) (-2048)=q at *
 have k1:q≤p:=by
  rcases b3 with e|⟨c,hc,e⟩
  ·omega
  ·rw[e];exact a2 c ((h c).2 hc)
 have k2:p≤q:=by
  rcases a3 with e|⟨c,hc,e⟩
  ·omega
  ·rw[e];exact b2 c ((h c).1 hc)
 omega
def ovB (T:TriR) (x z:Int):Bool:=corE T x z==0 && !(comL T x z).isEmpty
def ovLo (T:TriR) (x z:Int):Int:=if ovB T x z then loF (comL T x z)else 0
def ovHi (T:TriR) (x z:Int):Int:=if ovB T x z then hiF (comL T x z)else 0
theorem k_over (T:TriR) (x z:Int) (w:World) :
  Calls Tryz.prog 196 #[.agg #[.int .i64 T.i,.int .i64 T.x0,.int .i64 T.y0,.int .i64 T.z0,.int .i64 T.x1,.int .i64 T.y1,.int .i64 T.z1,.int .i64 T.x2,.int .i64 T.y2,.int .i64 T.z2],.int .i64 x,.int .i64 z] w fun e w'=>e=.returned (.tuple #[.int .i64 (ovLo T x z),.int .i64 (ovHi T x z),.bool (ovB T x z),.int .i64 (corE T x z)])∧New w w':=by
 by_cases hE:corE T x z=0
 rotate_left
 ·have KB:=fun W=>k_cor_bad T x z W hE
  have e:ovB T x z=false:=by unfold ovB;rw[beq_eq_false_iff_ne.2 hE];rfl
  have e1:ovLo T x z=0:=by unfold ovLo;rw[e];rfl
  have e2:ovHi T x z=0:=by unfold ovHi;rw[e];rfl
  rw[e,e1,e2]
  generalize corE T x z=er at *
  have hb:(er != 0)=true:=by rw[bne_iff_ne];exact hE
  replace KB:=Lib.hid KB
  clear e e1 e2 hE
  go_enter Tryz.func196,Tryz.ntmps196
  go_wp2_with fail
  refine(KB.out _).mono ?_
  rintro e W1 ⟨rfl,n1⟩
  have hn:New w W1:=New.trans (by exact nw) n1
  clear n1
  go_wp2_with fail
  refine bodyPost_ret (v:=.tuple #[.int .i64 0,.int .i64 0,.bool false,.int .i64 er]) (by simp[results,Tryz.results196,go_sem, *]) rfl ?_
  exact⟨rfl,hn⟩
 have KK:=Lib.hid (fun W=>k_cor T x z W hE)
 have HB:Hid (ovB T x z = !(comL T x z).isEmpty):=Lib.hid (by unfold ovB;rw[hE];rfl)
 obtain⟨lo,hlo⟩:∃ lo,lo=ovLo T x z:=⟨_,rfl⟩
 obtain⟨hi,hhi⟩:∃ hi,hi=ovHi T x z:=⟨_,rfl⟩
 rw[hE,←hlo,←hhi]
 have HLO:=Lib.hid hlo
 have HHI:=Lib.hid hhi
 clear hlo hhi hE
 go_enter Tryz.func196,Tryz.ntmps196
 go_wp2_with fail
 refine(KK.out _).mono ?_
 rintro e W1 ⟨v,R,rfl,hs,hc,n1⟩
 obtain⟨at0,cap,rfl,h1,h2,h3,h4⟩:=hs
 have hn:New w W1:=New.trans (by exact nw) n1
 clear n1 KK
 by_cases h0:R.length=0
 ·have hR:R=[]:=List.eq_nil_of_length_eq_zero h0
  subst hR
  have hem:comL T x z=[]:=List.eq_nil_iff_forall_not_mem.2 fun c hm=>by have:=(hc.mem c).2 hm;cases this
  have HB2:Hid (ovB T x z=false):=Lib.hid (by rw[HB.out,hem];rfl)
  have HL:Hid (lo=0∧hi=0):=Lib.hid ⟨by rw[HLO.out];unfold ovLo;rw[HB2.out];rfl,by rw[HHI.out];unfold ovHi;rw[HB2.out];rfl⟩
  clear hem hc h4 h0 HB HLO HHI
  go_wp2_with fail
  refine bodyPost_ret (v:=.tuple #[.int .i64 0,.int .i64 0,.bool false,.int .i64 0]) (by simp[results,Tryz.results196,go_sem]) rfl ?_
  exact⟨by rw[HL.out.1,HL.out.2,HB2.out],hn⟩
 ·have hem:(comL T x z).isEmpty=false:=by
   cases hq:comL T x z with
   | nil=>exfalso;apply h0;cases hr:R with
    | nil=>rfl
    | cons c m=>have:=(hc.mem c).1 (by rw[hr];exact List.mem_cons_self);rw[hq]at this;cases this
   | cons c m=>rfl
  have HB2:Hid (ovB T x z=true):=Lib.hid (by rw[HB.out,hem];rfl)
  have HL:Hid (lo=loF R∧hi=hiF R):=Lib.hid ⟨by rw[HLO.out];unfold ovLo;rw[HB2.out,if_pos rfl];exact(loF_congr hc.mem).symm,by rw[HHI.out];unfold ovHi;rw[HB2.out,if_pos rfl];exact(hiF_congr hc.mem).symm⟩
  obtain⟨b,off,rfl,hrow⟩:=h4 (by omega)
  have HR:=Lib.hid hrow
  obtain⟨n,hnl⟩:∃ n,n=R.length:=⟨_,rfl⟩
  rw[←hnl]at h0 h1 ⊢
  have HNL:=Lib.hid hnl
  have hne:((n:Int)==0)=false:=by rw[beq_eq_false_iff_ne];omega
  have HF:=Lib.hid (fun y d W=>k_floor y d W)
  have HCL:=Lib.hid (fun y d W=>k_ceil y d W)
  have KP:=Lib.hid (fun a b c d W=>k_parts a b c d W)
  have HN1:=Lib.hid hn
  unfold maxLen at h2
  clear hem hc hrow hnl HB HLO HHI h3 h4 hn
  go_wp2_with fail
  go_loopg [6,7,33] n (fun gk s6 s7 s33 wr=>∃ (j:Nat) (p q:Int),s6=.int .i64 p∧s7=.int .i64 q∧s33=.int .i64 j∧j≤n∧n - j≤gk∧Hid (p=loF (R.take j))∧Hid (q=hiF (R.take j))∧Hid (New W1 wr))
  case atStart=>exact⟨0,2048,-2048,rfl,rfl,rfl,by omega,by omega,Lib.hid rfl,Lib.hid rfl,Lib.hid (New.refl _)⟩
  case round =>
   obtain⟨j,p,q,rfl,rfl,rfl,hj,hgk,HP,HQ,HN⟩:=hrel
   by_cases hlt:j<n
   ·have hjl:j<R.length:=by rw[←HNL.out];exact hlt
    have hrow:=HR.out.keep HN.out
    have r0:=hrow j hjl 0 (by rw[Co.enc_len];omega)
    have r1:=hrow j hjl 1 (by rw[Co.enc_len];omega)
    have r2:=hrow j hjl 2 (by rw[Co.enc_len];omega)
    have r3:=hrow j hjl 3 (by rw[Co.enc_len];omega)
    simp only[Nat.add_zero]at r0
    change wr.cell? ⟨b,off+j*4,none⟩=some (.int .i64 R[j].x)at r0
    change wr.cell? ⟨b,off+j*4+1,none⟩=some (.int .i64 R[j].z)at r1
    change wr.cell? ⟨b,off+j*4+2,none⟩=some (.int .i64 R[j].y)at r2
    change wr.cell? ⟨b,off+j*4+3,none⟩=some (.int .i64 R[j].d)at r3
    have zb:b<wr.heap.size:=World.block_lt_of_cell? _ _ r0
    have HP2:Hid (min p (floorI R[j].y R[j].d)=loF (R.take (j+1))):=Lib.hid (by rw[List.take_succ_eq_append_getElem hjl,loF_snoc,←HP.out];rfl)
    have HQ2:Hid (max q (ceilI R[j].y R[j].d)=hiF (R.take (j+1))):=Lib.hid (by rw[List.take_succ_eq_append_getElem hjl,hiF_snoc,←HQ.out];rfl)
    have KF:=Lib.hid (fun W=>HF.out R[j].y R[j].d W)
    have KG:=Lib.hid (fun W=>HCL.out R[j].y R[j].d W)
    have KQ:=Lib.hid (fun W=>KP.out R[j].x R[j].z R[j].y R[j].d W)
    clear hrow HP HQ
    generalize R[j].x=cx at *
    generalize R[j].z=cz at *
    generalize R[j].y=cy at *
    generalize R[j].d=cd at *
    generalize floorI cy cd=fy at *
    generalize ceilI cy cd=gy at *
    go_wp2_with fail
    refine Calls.at (fun V hV=>?_)
    have n1:New wr V:=by subst hV;exact nw
    clear hV
    refine(KQ.out V).mono ?_
    rintro e W2 ⟨rfl,g2⟩
    replace n1:=n1.trans g2.1
    clear g2 r0 r1 r2 r3 KQ
    go_upto_region 9 with fail
    refine Code.at (fun W3 hW=>?_)
    have n3:New W2 W3:=by subst hW;exact nw
    have e0:W3.cell? ⟨W2.heap.size+1+1,0,none⟩=some (.int .i64 cy):=by subst hW;go_simp
    have e1:W3.cell? ⟨W2.heap.size+1+1,1,none⟩=some (.int .i64 cd):=by subst hW;go_simp
    clear hW
    have HN2:=Lib.hid ((HN.out.trans n1).trans n3)
    clear n1 n3 HN zb
    (refine wp_region_hat (by kernel_rfl) (by kernel_rfl) ?_;intro hatc hatf;(repeat(go_big_quiet_step ((first|(go_at_call 229;with_reducible exact Calls.hat (KF.out _))|(go_at_call 230;with_reducible exact Calls.hat (KG.out _))))));refine wpQuiet_nil ?_;rintro _ ⟨y,rfl⟩)
    have HN3:=Lib.hid (HN2.out.trans y.h)
    clear hatc hatf e0 e1 KF KG HN2
    generalize y.w=W4 at *
    clear y
    go_wp2_with fail
    go_roundg (n - (j+1))
    case measure=>omega
    case rel=>exact⟨j+1,_,_,rfl,rfl,by go_num,by omega,by omega,HP2,HQ2,HN3⟩
   ·have e:j=n:=by omega
    subst e
    have HP2:Hid (p=lo∧q=hi):=Lib.hid ⟨by rw[HL.out.1,HP.out,HNL.out,List.take_length],by rw[HL.out.2,HQ.out,HNL.out,List.take_length]⟩
    clear HP HQ HL
    go_wp2_with fail
    refine bodyPost_ret (v:=.tuple #[.int .i64 p,.int .i64 q,.bool true,.int .i64 0]) (by simp[results,Tryz.results196,go_sem]) rfl ?_
    exact⟨by rw[HP2.out.1,HP2.out.2,HB2.out],HN1.out.trans HN.out⟩
theorem k_columns (T:TriR) (w:World) :
  Calls Tryz.prog 194 #[.agg #[.int .i64 T.i,.int .i64 T.x0,.int .i64 T.y0,.int .i64 T.z0,.int .i64 T.x1,.int .i64 T.y1,.int .i64 T.z1,.int .i64 T.x2,.int .i64 T.y2,.int .i64 T.z2]] w fun e w'=>e=.returned (.tuple #[.int .i64 (if okT T then minI T.x0 T.x1 T.x2 - 1 else 0),.int .i64 (if okT T then minI T.z0 T.z1 T.z2 - 1 else 0),.int .i64 (if okT T then maxI T.x0 T.x1 T.x2 else 0),.int .i64 (if okT T then maxI T.z0 T.z1 T.z2 else 0),.int .i64 (chkE T)])∧New w w':=by
 have KC:=fun W=>k_check T W
 have KB:=Lib.hid (fun W=>t_bounds T.i T.x0 T.y0 T.z0 T.x1 T.y1 T.z1 T.x2 T.y2 T.z2 W)
 unfold chkE at KC ⊢
 cases hk:okT T
 ·rw[hk]at KC
  simp only[Bool.false_eq_true,if_false]at KC ⊢
  replace KC:=Lib.hid KC
  clear hk
  go_enter Tryz.func194,Tryz.ntmps194
  go_wp2_with fail
  refine(KC.out _).mono ?_
  rintro e W1 ⟨rfl,n1⟩
  have hn:New w W1:=New.trans (by exact nw) n1
  clear n1
  go_wp2_with fail
  refine bodyPost_ret (v:=.tuple #[.int .i64 0,.int .i64 0,.int .i64 0,.int .i64 0,.int .i64 40]) (by simp[results,Tryz.results194,go_sem, *]) rfl ?_
  exact⟨rfl,hn⟩
 ·rw[hk]at KC
  simp only[if_true]at KC ⊢
  have hs:=ok_in hk
  unfold StP StV at hs
  have b1:0≤minI T.x0 T.x1 T.x2∧minI T.x0 T.x1 T.x2≤32:=by unfold minI;omega
  have b2:0≤minI T.z0 T.z1 T.z2∧minI T.z0 T.z1 T.z2≤32:=by unfold minI;omega
  generalize minI T.x0 T.x1 T.x2=lx at *
  generalize minI T.z0 T.z1 T.z2=lz at *
  generalize maxI T.x0 T.x1 T.x2=gx at *
  generalize maxI T.z0 T.z1 T.z2=gz at *
  generalize minI T.y0 T.y1 T.y2=ly at *
  generalize maxI T.y0 T.y1 T.y2=gy at *
  have w1:IntKind.i64.wrap (lx - 1)=lx - 1:=IntWalk.i64_in _ (by omega)
  have w2:IntKind.i64.wrap (lz - 1)=lz - 1:=IntWalk.i64_in _ (by omega)
  replace KC:=Lib.hid KC
  clear hk hs
  go_enter Tryz.func194,Tryz.ntmps194
  go_wp2_with fail
  refine(KC.out _).mono ?_
  rintro e W1 ⟨rfl,n1⟩
  have c0:W1.cell? ⟨w.heap.size,0,none⟩=some (.int .i64 T.i):=n1.keep (by go_simp)
  have c1:W1.cell? ⟨w.heap.size,1,none⟩=some (.int .i64 T.x0):=n1.keep (by go_simp)
  have c2:W1.cell? ⟨w.heap.size,2,none⟩=some (.int .i64 T.y0):=n1.keep (by go_simp)
  have c3:W1.cell? ⟨w.heap.size,3,none⟩=some (.int .i64 T.z0):=n1.keep (by go_simp)
  have c4:W1.cell? ⟨w.heap.size,4,none⟩=some (.int .i64 T.x1):=n1.keep (by go_simp)
  have c5:W1.cell? ⟨w.heap.size,5,none⟩=some (.int .i64 T.y1):=n1.keep (by go_simp)
  have c6:W1.cell? ⟨w.heap.size,6,none⟩=some (.int .i64 T.z1):=n1.keep (by go_simp)
  have c7:W1.cell? ⟨w.heap.size,7,none⟩=some (.int .i64 T.x2):=n1.keep (by go_simp)
  have c8:W1.cell? ⟨w.heap.size,8,none⟩=some (.int .i64 T.y2):=n1.keep (by go_simp)
  have c9:W1.cell? ⟨w.heap.size,9,none⟩=some (.int .i64 T.z2):=n1.keep (by go_simp)
  have hn:New w W1:=New.trans (by exact nw) n1
  clear n1 KC
  go_wp2_with fail
  refine(KB.out _).mono ?_
  rintro e W2 ⟨rfl,n2⟩
  replace hn:=hn.trans n2
  clear n2 KB c0 c1 c2 c3 c4 c5 c6 c7 c8 c9
  have z2:=hn.size
  go_upto_region 5 with fail
  go_region
  all_goals
   go_wp2_with fail
   refine bodyPost_ret (v:=.tuple #[.int .i64 (lx - 1),.int .i64 (lz - 1),.int .i64 gx,.int .i64 gz,.int .i64 0]) (by simp[results,Tryz.results194,go_sem, *]) rfl ?_
   exact⟨rfl,by exact nw⟩
theorem tame_id {n:Int} (h : -1099511627776≤n∧n≤1099511627776):tameI n=n:=by unfold tameI clampI;omega
theorem fl_eq {c:Co} (h:Okc c):flC c=c.y / c.d:=by
 obtain⟨⟨d1,d2⟩,-,-,y1,y2⟩:=h
 unfold flC floorI
 rw[tame_id (by omega : -1099511627776≤c.d∧c.d≤1099511627776),tame_id (by omega : -1099511627776≤c.y∧c.y≤1099511627776),if_neg (by omega),Int.fdiv_eq_ediv_of_nonneg _ (by omega)]
theorem cl_eq {c:Co} (h:Okc c):clC c = -((-c.y) / c.d):=by
 obtain⟨⟨d1,d2⟩,-,-,y1,y2⟩:=h
 unfold clC ceilI floorI
 rw[tame_id (by omega : -1099511627776≤c.d∧c.d≤1099511627776),tame_id (by omega : -1099511627776≤c.y∧c.y≤1099511627776),tame_id (by omega : -1099511627776 ≤ -c.y ∧ -c.y≤1099511627776),if_neg (by omega),Int.fdiv_eq_ediv_of_nonneg _ (by omega)]
theorem fl_spec {c:Co} (h:Okc c):flC c*c.d≤c.y∧c.y<(flC c+1)*c.d:=by
 have hd:0<c.d:=by have:=h.1;omega
 rw[fl_eq h]
 have h1:=Int.mul_ediv_self_le (x:=c.y) (k:=c.d) (by omega)
 have h2:=Int.lt_mul_ediv_self_add (x:=c.y) (k:=c.d) hd
 rw[Int.mul_comm]at h1 h2
 rw[Int.add_mul]
 omega
theorem cl_spec {c:Co} (h:Okc c):c.y≤clC c*c.d∧(clC c - 1)*c.d<c.y:=by
 have hd:0<c.d:=by have:=h.1;omega
 rw[cl_eq h]
 have h1:=Int.mul_ediv_self_le (x := -c.y) (k:=c.d) (by omega)
 have h2:=Int.lt_mul_ediv_self_add (x := -c.y) (k:=c.d) hd
 rw[Int.mul_comm]at h1 h2
 rw[Int.sub_mul,Int.neg_mul]
 omega
theorem le_of_mul {a b d:Int} (hd:0<d) (h:a*d≤b*d):a≤b:=Int.le_of_mul_le_mul_right h hd
theorem fl_ge {c:Co} (h:Okc c) {m:Int} (k:m*c.d≤c.y):m≤flC c:=by
 have hd:0<c.d:=by have:=h.1;omega
 have h2:m*c.d<(flC c+1)*c.d:=Int.lt_of_le_of_lt k (fl_spec h).2
 have:=Int.lt_of_mul_lt_mul_right h2 (Int.le_of_lt hd)
 omega
theorem cl_le {c:Co} (h:Okc c) {m:Int} (k:c.y≤m*c.d):clC c≤m:=by
 have hd:0<c.d:=by have:=h.1;omega
 have h2:(clC c - 1)*c.d<m*c.d:=Int.lt_of_lt_of_le (cl_spec h).2 k
 have:=Int.lt_of_mul_lt_mul_right h2 (Int.le_of_lt hd)
 omega
theorem fl_cl {c:Co} (h:Okc c):flC c≤clC c:=by
 have hd:0<c.d:=by have:=h.1;omega
 exact le_of_mul hd (Int.le_trans (fl_spec h).1 (cl_spec h).1)
structure Fact (T:TriR) (x z:Int) (c:Co):Prop where
 ok:Okc c
 prim:Prim c
 cv:Cv T c
 hx:x*c.d≤c.x∧c.x≤(x+1)*c.d
 hz:z*c.d≤c.z∧c.z≤(z+1)*c.d
theorem fact {T:TriR} {x z:Int} (hE:corE T x z=0) {c:Co} (h:c∈comL T x z):Fact T x z c:=by
 obtain⟨hk,-,-,hx,hz⟩:=cor_zero hE
 have h1:=holdsB_iff.1 (mem_comL.1 h).1
 exact⟨com_okc hk hx hz h,(com_prim hk hx hz h).1,(com_prim hk hx hz h).2,h1.1,h1.2⟩
theorem ov_iff {T:TriR} {x z:Int}:ovB T x z=true↔corE T x z=0∧∃ c,c∈comL T x z:=by
 unfold ovB
 simp only[Bool.and_eq_true,beq_iff_eq,Bool.not_eq_true']
 refine and_congr Iff.rfl ?_
 cases comL T x z with
 | nil=>simp
 | cons a l=>simp
theorem ov_lo {T:TriR} {x z:Int} (h:ovB T x z=true):ovLo T x z=loF (comL T x z)∧ovHi T x z=hiF (comL T x z):=by
 unfold ovLo ovHi;rw[h];exact⟨rfl,rfl⟩
theorem ov_mem {T:TriR} {x z:Int} (h:ovB T x z=true) {c:Co} (hc:c∈comL T x z):ovLo T x z≤flC c∧clC c≤ovHi T x z:=by
 obtain⟨e1,e2⟩:=ov_lo h
 rw[e1,e2]
 exact⟨(minf_spec flC _ _).2.1 c hc,(maxf_spec clC _ _).2.1 c hc⟩
theorem ok_y {T:TriR} (hk:okT T=true):(-2048≤T.y0∧T.y0≤2048)∧(-2048≤T.y1∧T.y1≤2048)∧(-2048≤T.y2∧T.y2≤2048):=by
 have:=ok_in hk
 unfold StP StV at this
 omega
theorem ov_got {T:TriR} {x z:Int} (h:ovB T x z=true):(∃ c∈comL T x z,ovLo T x z=flC c)∧(∃ c∈comL T x z,ovHi T x z=clC c):=by
 obtain⟨e1,e2⟩:=ov_lo h
 obtain⟨hE,c,hc⟩:=ov_iff.1 h
 obtain⟨hk,-⟩:=cor_zero hE
 obtain⟨y0,y1,y2⟩:=ok_y hk
 have F:=fact hE hc
 have hy:=cv_y F.cv F.prim.1 y0 y1 y2
 have k1:=ov_mem h hc
 rw[e1,e2]at k1
 rw[e1,e2]
 constructor
 ·rcases(minf_spec flC (comL T x z) 2048).2.2 with q|⟨b,hb,q⟩
  ·refine⟨c,hc,?_⟩
   have hd:0<c.d:=F.prim.1
   have:flC c≤2048:=le_of_mul hd (Int.le_trans (fl_spec F.ok).1 hy.2)
   have e:loF (comL T x z)=2048:=q
   omega
  ·exact⟨b,hb,q⟩
 ·rcases(maxf_spec clC (comL T x z) (-2048)).2.2 with q|⟨b,hb,q⟩
  ·refine⟨c,hc,?_⟩
   have hd:0<c.d:=F.prim.1
   have : -2048≤clC c:=le_of_mul hd (Int.le_trans hy.1 (cl_spec F.ok).1)
   have e:hiF (comL T x z) = -2048:=q
   omega
  ·exact⟨b,hb,q⟩
theorem ov_between {T:TriR} {x z:Int} (h:ovB T x z=true):ovLo T x z≤ovHi T x z∧minI T.y0 T.y1 T.y2≤ovLo T x z∧ovHi T x z≤maxI T.y0 T.y1 T.y2 ∧
  (minI T.x0 T.x1 T.x2 - 1≤x∧x≤maxI T.x0 T.x1 T.x2)∧(minI T.z0 T.z1 T.z2 - 1≤z∧z≤maxI T.z0 T.z1 T.z2):=by
 obtain⟨hE,c,hc⟩:=ov_iff.1 h
 obtain⟨⟨a,ha,ea⟩,⟨b,hb,eb⟩⟩:=ov_got h
 have k1:=ov_mem h hc
 have F:=fact hE hc
 have k2:=fl_cl F.ok
 have mn:∀ p q r:Int,minI p q r≤p∧minI p q r≤q∧minI p q r≤r:=fun p q r=>by unfold minI;omega
 have mx:∀ p q r:Int,p≤maxI p q r∧q≤maxI p q r∧r≤maxI p q r:=fun p q r=>by unfold maxI;omega
 have y1:=mn T.y0 T.y1 T.y2
 have y2:=mx T.y0 T.y1 T.y2
 have x1:=mn T.x0 T.x1 T.x2
 have x2:=mx T.x0 T.x1 T.x2
 have z1:=mn T.z0 T.z1 T.z2
 have z2:=mx T.z0 T.z1 T.z2
 have Fa:=fact hE ha
 have Fb:=fact hE hb
 have hd:0<c.d:=F.prim.1
 have ya:=cv_y Fa.cv Fa.prim.1 ⟨y1.1,y2.1⟩ ⟨y1.2.1,y2.2.1⟩ ⟨y1.2.2,y2.2.2⟩
 have yb:=cv_y Fb.cv Fb.prim.1 ⟨y1.1,y2.1⟩ ⟨y1.2.1,y2.2.1⟩ ⟨y1.2.2,y2.2.2⟩
 have xc:=cv_x F.cv hd ⟨x1.1,x2.1⟩ ⟨x1.2.1,x2.2.1⟩ ⟨x1.2.2,x2.2.2⟩
 have zc:=cv_z F.cv hd ⟨z1.1,z2.1⟩ ⟨z1.2.1,z2.2.1⟩ ⟨z1.2.2,z2.2.2⟩
 refine⟨by omega,by rw[ea];exact fl_ge Fa.ok ya.1,by rw[eb];exact cl_le Fb.ok yb.2,⟨?_,?_⟩,?_,?_⟩
 ·have:=le_of_mul hd (Int.le_trans xc.1 F.hx.2);omega
 ·exact le_of_mul hd (Int.le_trans F.hx.1 xc.2)
 ·have:=le_of_mul hd (Int.le_trans zc.1 F.hz.2);omega
 ·exact le_of_mul hd (Int.le_trans F.hz.1 zc.2)
theorem ov_bd (T:TriR) (x z:Int):(-2048≤ovLo T x z∧ovLo T x z≤2048)∧(-2048≤ovHi T x z∧ovHi T x z≤2048):=by
 cases h:ovB T x z with
 | false=>unfold ovLo ovHi;rw[h];simp
 | true =>
  obtain⟨hE,-⟩:=ov_iff.1 h
  obtain⟨y0,y1,y2⟩:=ok_y (cor_zero hE).1
  have hb:=ov_between h
  have a : -2048≤minI T.y0 T.y1 T.y2:=by unfold minI;omega
  have b:maxI T.y0 T.y1 T.y2≤2048:=by unfold maxI;omega
  omega
def pcO (C:CfgR) (x z:Int) (T:TriR):Option Sn:=if ovB T x z then some ⟨ovLo T x z,ovHi T x z,walkT C T⟩else none
def inW (C:CfgR) (x z:Int):Bool:=decide (0≤x)&&decide (x<C.wd)&&decide (0≤z)&&decide (z<C.dp)
theorem inW_iff {C:CfgR} {x z:Int}:inW C x z=true↔(0≤x∧x<C.wd)∧(0≤z∧z<C.dp):=by
 unfold inW;simp only[Bool.and_eq_true,decide_eq_true_eq,and_assoc]
def colL (C:CfgR) (l:List TriR) (x z:Int):List Sn:=if inW C x z then l.filterMap (pcO C x z)else []
theorem pc_fit {C:CfgR} {x z:Int} {T:TriR} {p:Sn} (h:pcO C x z T=some p):(-2048≤p.lo∧p.lo≤p.hi∧p.hi≤2048)∧ovB T x z=true:=by
 unfold pcO at h
 split at h
 ·rename_i h1
  injection h with h
  subst h
  have:=(ov_between h1).1
  have:=ov_bd T x z
  exact⟨by dsimp only;omega,h1⟩
 ·cases h
theorem col_mem {C:CfgR} {l:List TriR} {x z:Int} {p:Sn}:p∈colL C l x z↔inW C x z=true∧∃ T∈l,pcO C x z T=some p:=by
 unfold colL
 split
 ·rename_i h;simp[h]
 ·rename_i h;simp[h]
theorem col_fit {C:CfgR} {l:List TriR} {x z:Int} {p:Sn} (h:p∈colL C l x z) : -2048≤p.lo∧p.lo≤p.hi∧p.hi≤2048:=by
 obtain⟨-,T,-,h1⟩:=col_mem.1 h
 exact(pc_fit h1).1
theorem col_len (C:CfgR) (l:List TriR) (x z:Int):(colL C l x z).length≤l.length:=by
 unfold colL
 split
 ·exact List.length_filterMap_le _ _
 ·simp
def colQ (C:CfgR) (l:List TriR) (x z:Int):List Sn:=mrg (colL C l x z)
theorem putS_in (l:List Sn):(mrg l).length≤l.length:=by
 have key:∀ (l R:List Sn),(l.foldl (fun R s=>putS s R false) R).length≤R.length+l.length:=by
  intro l
  induction l with
  | nil=>intro R;simp
  | cons s l ih =>
   intro R
   rw[List.foldl_cons]
   have:=ih (putS s R false)
   have:=putS_len s R false
   simp;omega
 have:=key l []
 unfold mrg
 simpa using this
theorem colQ_len (C:CfgR) (l:List TriR) (x z:Int):(colQ C l x z).length≤l.length:=Nat.le_trans (putS_in _) (col_len C l x z)
def fullB (C:CfgR) (l:List TriR) (x z:Int):Bool:=decide (8<(colQ C l x z).length)
def cE (C:CfgR) (l:List TriR) (x z:Int):Int:=if rchk C l≠0 then rchk C l else if fullB C l x z then 51 else 0
def cR (C:CfgR) (l:List TriR) (x z:Int):List Sn:=if cE C l x z=0 then colQ C l x z else []
def atQ (C:CfgR) (l:List TriR) (x z w:Int) (n:Nat):List Sn:=colQ C l (plX x w n) (plZ z w n)
def atF (C:CfgR) (l:List TriR) (x z w:Int) (n:Nat):Bool:=fullB C l (plX x w n) (plZ z w n)
def rowsL (C:CfgR) (l:List TriR) (x z w:Int) (n:Nat):List (List Sn):=(List.range n).map (atQ C l x z w)
def anyF (C:CfgR) (l:List TriR) (x z w:Int) (n:Nat):Bool:=(List.range n).any (atF C l x z w)
theorem rowsL_len (C:CfgR) (l:List TriR) (x z w:Int) (n:Nat):(rowsL C l x z w n).length=n:=by unfold rowsL;simp
def bE (C:CfgR) (l:List TriR) (x z w d:Int):Int:=if rchk C l≠0 then rchk C l else if !boxB x z w d then 2 else if anyF C l x z w (w*d).toNat then 51 else 0
def bR (C:CfgR) (l:List TriR) (x z w d:Int):List (List Sn):=if bE C l x z w d=0 then rowsL C l x z w (w*d).toNat else []
theorem b_no {C:CfgR} {l:List TriR} {x z w d:Int} (h:rchk C l≠0):bE C l x z w d=rchk C l∧bR C l x z w d=[]:=by
 have e:bE C l x z w d=rchk C l:=by unfold bE;rw[if_pos h]
 exact⟨e,by unfold bR;rw[e,if_neg h]⟩
theorem b_not {C:CfgR} {l:List TriR} {x z w d:Int} (h:rchk C l=0) (k:boxB x z w d=false):bE C l x z w d=2∧bR C l x z w d=[]:=by
 have e:bE C l x z w d=2:=by unfold bE;rw[if_neg (by simpa using h),k];rfl
 exact⟨e,by unfold bR;rw[e,if_neg (by decide)]⟩
theorem b_full {C:CfgR} {l:List TriR} {x z w d:Int} (h:rchk C l=0) (k:boxB x z w d=true) (f:anyF C l x z w (w*d).toNat=true):bE C l x z w d=51∧bR C l x z w d=[]:=by
 have e:bE C l x z w d=51:=by unfold bE;rw[if_neg (by simpa using h),k,f];rfl
 exact⟨e,by unfold bR;rw[e,if_neg (by decide)]⟩
theorem b_fine {C:CfgR} {l:List TriR} {x z w d:Int} (h:rchk C l=0) (k:boxB x z w d=true) (f:anyF C l x z w (w*d).toNat=false):bE C l x z w d=0∧bR C l x z w d=rowsL C l x z w (w*d).toNat:=by
 have e:bE C l x z w d=0:=by unfold bE;rw[if_neg (by simpa using h),k,f];rfl
 exact⟨e,by unfold bR;rw[e,if_pos rfl]⟩
abbrev El (N:Nat):={ p:Nat×Sn // p.1<N }
theorem flat_one {β:Type} (k i0:Nat) (f:Nat→List β) (h:∀ i,i<k→i≠i0→f i=[]):(List.range k).flatMap f=if i0<k then f i0 else []:=by
 induction k with
 | zero=>simp
 | succ k ih =>
  rw[List.range_succ,List.flatMap_append,ih (fun i hi=>h i (by omega))]
  simp only[List.flatMap_cons,List.flatMap_nil,List.append_nil]
  by_cases e:i0<k
  ·rw[if_pos e,if_pos (by omega),h k (by omega) (by omega),List.append_nil]
  ·rw[if_neg e,List.nil_append]
   by_cases e2:k=i0
   ·subst e2;rw[if_pos (by omega)]
   ·rw[if_neg (by omega),h k (by omega) e2]
theorem flat_succ {β:Type} (f:Nat→List β) (n:Nat):(List.range (n+1)).flatMap f=(List.range n).flatMap f++f n:=by
 rw[List.range_succ,List.flatMap_append];simp
def elL (C:CfgR) (T:TriR) (b:Bx) (x z:Int):List (El b.n):=if h:b.inside x z then ((pcO C x z T).map fun s=>(⟨((b.pl x z).toNat,s),(Bx.pl_lt h).2.2⟩:El b.n)).toList else []
theorem elL_none {C:CfgR} {T:TriR} {b:Bx} {x z:Int} (h:ovB T x z=false):elL C T b x z=[]:=by
 unfold elL
 have:pcO C x z T=none:=by unfold pcO;rw[h];rfl
 rw[this]
 split <;> rfl
theorem elL_some {C:CfgR} {T:TriR} {b:Bx} {x z:Int} (hb:b.inside x z) (h:ovB T x z=true):elL C T b x z=[⟨((b.pl x z).toNat,⟨ovLo T x z,ovHi T x z,walkT C T⟩),(Bx.pl_lt hb).2.2⟩]:=by
 unfold elL
 have:pcO C x z T=some ⟨ovLo T x z,ovHi T x z,walkT C T⟩:=by unfold pcO;rw[if_pos h]
 rw[dif_pos hb,this]
 rfl
def elRow (C:CfgR) (T:TriR) (b:Bx) (x0 z:Int) (k:Nat):List (El b.n):=(List.range k).flatMap fun(i:Nat)=>elL C T b (x0+(i:Int)) z
def elGrid (C:CfgR) (T:TriR) (b:Bx) (x0 z0:Int) (kx kz:Nat):List (El b.n):=(List.range kz).flatMap fun(j:Nat)=>elRow C T b x0 (z0+(j:Int)) kx
theorem elRow_succ (C:CfgR) (T:TriR) (b:Bx) (x0 z:Int) (k:Nat):elRow C T b x0 z (k+1)=elRow C T b x0 z k++elL C T b (x0+k) z:=flat_succ _ _
theorem elGrid_succ (C:CfgR) (T:TriR) (b:Bx) (x0 z0:Int) (kx kz:Nat):elGrid C T b x0 z0 kx (kz+1)=elGrid C T b x0 z0 kx kz++elRow C T b x0 (z0+kz) kx:=flat_succ _ _
theorem elL_len (C:CfgR) (T:TriR) (b:Bx) (x z:Int):(elL C T b x z).length≤1:=by
 unfold elL
 split
 ·cases pcO C x z T <;> simp
 ·simp
theorem flat_len {β:Type} (f:Nat→List β) (m:Nat) (h:∀ i,(f i).length≤m):∀ k,((List.range k).flatMap f).length≤k*m
 | 0=>by simp
 | k+1=>by rw[flat_succ,List.length_append,Nat.add_mul];have:=flat_len f m h k;have:=h k;omega
theorem elRow_len (C:CfgR) (T:TriR) (b:Bx) (x0 z:Int) (k:Nat):(elRow C T b x0 z k).length≤k:=by
 have:=flat_len (fun(i:Nat)=>elL C T b (x0+(i:Int)) z) 1 (fun i=>elL_len _ _ _ _ _) k
 unfold elRow;omega
theorem elGrid_len (C:CfgR) (T:TriR) (b:Bx) (x0 z0:Int) (kx kz:Nat):(elGrid C T b x0 z0 kx kz).length≤kz*kx:=flat_len _ _ (fun j=>elRow_len C T b x0 (z0+j) kx) kz
def gx0 (T:TriR) (b:Bx):Int:=max (max (minI T.x0 T.x1 T.x2 - 1) b.x) 0
def gz0 (T:TriR) (b:Bx):Int:=max (max (minI T.z0 T.z1 T.z2 - 1) b.z) 0
def gx1 (C:CfgR) (T:TriR) (b:Bx):Int:=min (min (maxI T.x0 T.x1 T.x2) (b.x+(b.w - 1))) (C.wd - 1)
def gz1 (C:CfgR) (T:TriR) (b:Bx):Int:=min (min (maxI T.z0 T.z1 T.z2) (b.z+(b.d - 1))) (C.dp - 1)
def gkx (C:CfgR) (T:TriR) (b:Bx):Nat:=(gx1 C T b+1 - gx0 T b).toNat
def gkz (C:CfgR) (T:TriR) (b:Bx):Nat:=(gz1 C T b+1 - gz0 T b).toNat
def elAll (C:CfgR) (T:TriR) (b:Bx):List (El b.n):=elGrid C T b (gx0 T b) (gz0 T b) (gkx C T b) (gkz C T b)
theorem el_mem {C:CfgR} {T:TriR} {b:Bx} {x z:Int} {e:El b.n}:e∈elL C T b x z↔b.inside x z∧e.1.1=(b.pl x z).toNat∧pcO C x z T=some e.1.2:=by
 unfold elL
 by_cases h:b.inside x z
 ·rw[dif_pos h]
  cases hp:pcO C x z T with
  | none=>simp
  | some s =>
   obtain⟨⟨e1,e2⟩,e3⟩:=e
   simp[h,eq_comm]
 ·rw[dif_neg h];simp[h]
theorem el_at {C:CfgR} {T:TriR} {b:Bx} (hb:b.ok) {n:Nat} (hn:n<b.n) :
  ((elAll C T b).filter (fun e=>e.1.1==n)).map (fun e=>e.1.2)=if inW C (plX b.x b.w n) (plZ b.z b.w n)then (pcO C (plX b.x b.w n) (plZ b.z b.w n) T).toList else []:=by
 obtain⟨hi,hp⟩:=Bx.pl_inside hb hn
 obtain⟨X,hX⟩:∃ X,X=plX b.x b.w n:=⟨_,rfl⟩
 obtain⟨Z,hZ⟩:∃ Z,Z=plZ b.z b.w n:=⟨_,rfl⟩
 rw[←hX,←hZ]at hi hp ⊢
 have one:∀ x z,(x≠X∨z≠Z)→((elL C T b x z).filter (fun e=>e.1.1==n))=[]:=by
  intro x z hne
  rw[List.filter_eq_nil_iff]
  intro e he hcon
  obtain⟨h1,h2,-⟩:=el_mem.1 he
  have h3:(b.pl x z).toNat=n:=by rw[←h2];simpa using hcon
  obtain⟨e1,e2⟩:=Bx.pl_at h1
  rw[h3]at e1 e2
  rw[hX,hZ,e1,e2]at hne
  rcases hne with k|k <;> exact k rfl
 have same:(elL C T b X Z).filter (fun e=>e.1.1==n)=elL C T b X Z:=by
  rw[List.filter_eq_self]
  intro e he
  obtain⟨-,h2,-⟩:=el_mem.1 he
  rw[h2,hp];simp
 have last:(elL C T b X Z).map (fun e=>e.1.2)=(pcO C X Z T).toList:=by
  unfold elL
  rw[dif_pos hi]
  cases pcO C X Z T <;> rfl
 have rows:∀ z,((elRow C T b (gx0 T b) z (gkx C T b)).filter (fun e=>e.1.1==n))=if z=Z∧gx0 T b≤X∧X≤gx1 C T b then elL C T b X Z else []:=by
  intro z
  unfold elRow
  rw[List.filter_flatMap]
  by_cases hz:z=Z
  ·subst hz
   by_cases hx:gx0 T b≤X
   ·rw[flat_one _ (X - gx0 T b).toNat _ (fun i _ hi'=>one (gx0 T b+(i:Int)) z (.inl (by omega)))]
    have e:gx0 T b+((X - gx0 T b).toNat:Int)=X:=by omega
    rw[e,same]
    by_cases hx2:X≤gx1 C T b
    ·rw[if_pos (by unfold gkx;omega),if_pos ⟨rfl,hx,hx2⟩]
    ·rw[if_neg (by unfold gkx;omega),if_neg (fun h=>hx2 h.2.2)]
   ·rw[if_neg (fun h=>hx h.2.1),flat_one _ (gkx C T b) _ (fun i _ _=>one (gx0 T b+(i:Int)) z (.inl (by omega))),if_neg (by omega)]
  ·rw[if_neg (fun h=>hz h.1),flat_one _ (gkx C T b) _ (fun i _ _=>one (gx0 T b+(i:Int)) z (.inr hz)),if_neg (by omega)]
 have all:((elAll C T b).filter (fun e=>e.1.1==n))=if (gz0 T b≤Z∧Z≤gz1 C T b)∧gx0 T b≤X∧X≤gx1 C T b then elL C T b X Z else []:=by
  unfold elAll elGrid
  rw[List.filter_flatMap]
  have e:(fun(j:Nat)=>(elRow C T b (gx0 T b) (gz0 T b+j) (gkx C T b)).filter (fun e=>e.1.1==n))=fun(j:Nat)=>if gz0 T b+j=Z∧gx0 T b≤X∧X≤gx1 C T b then elL C T b X Z else []:=by funext j;exact rows _
  rw[e]
  by_cases hz:gz0 T b≤Z
  ·rw[flat_one _ (Z - gz0 T b).toNat _ (fun j _ hj=>by rw[if_neg (fun h=>by omega)])]
   by_cases hz2:Z≤gz1 C T b
   ·rw[if_pos (by unfold gkz;omega)]
    have e:gz0 T b+((Z - gz0 T b).toNat:Int)=Z:=by omega
    rw[e]
    simp[hz,hz2]
   ·rw[if_neg (by unfold gkz;omega),if_neg (fun h=>hz2 h.1.2)]
  ·rw[if_neg (fun h=>hz h.1.1),flat_one _ (gkz C T b) _ (fun j _ _=>by rw[if_neg (fun h=>by omega)]),if_neg (by omega)]
 rw[all]
 by_cases ho:ovB T X Z=true
 ·obtain⟨-,-,-,hx,hz⟩:=ov_between ho
  obtain⟨⟨i1,i2⟩,i3,i4⟩:=hi
  by_cases hw:inW C X Z=true
  ·have hw':=inW_iff.1 hw
   rw[if_pos hw,if_pos (by unfold gz0 gz1 gx0 gx1;omega),last]
  ·rw[if_neg hw,if_neg (fun h=>hw (inW_iff.2 (by unfold gz0 gz1 gx0 gx1 at h;omega)))]
   rfl
 ·have ho':ovB T X Z=false:=by cases h:ovB T X Z;rfl;exact absurd h ho
  have hp':pcO C X Z T=none:=by unfold pcO;rw[ho'];rfl
  rw[elL_none ho',hp']
  split <;> split <;> rfl
theorem col_snoc {C:CfgR} {l:List TriR} {T:TriR} {x z:Int}:colL C (l++[T]) x z=colL C l x z++(if inW C x z then (pcO C x z T).toList else []):=by
 unfold colL
 split
 ·rw[List.filterMap_append]
  congr 1
 ·rfl
end Go.Proofs.YtmhghnbgllaihaaGreatDoor
