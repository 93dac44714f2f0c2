import Derived.Test.YtmhghnbgllaihaaGreatDoorRows
import Derived.Test.YtmhghnbgllaihaaGreatDoorCards
import Derived.Test.YtmhghnbgllaihaaGreatDoorTie
import Derived.LaidMore
import Derived.Stop.Joined
import Derived.SevenTiedAt
import Derived.WalkKit
import Derived.ProofKit
import Derived.OpenShut
import Derived.ShutString
import Derived.ChangeOld
import Derived.Below
import Derived.Carry
import Derived.Outline
import Derived.Deep.DeepCutAuto
import Derived.Deep.LoopGhost
import Derived.Test.YtmhghnbgllaihaaGreatDoorCrZP2Z2
import Derived.Test.YtmhghnbgllaihaaGreatDoorSoO2P2Z2
import Derived.Test.YtmhghnbgllaihaaGreatDoorSoXFP2Z2
set_option linter.unusedVariables false
set_option maxHeartbeats 16000000
set_option maxRecDepth 100000

/-
 Proved here: whatever the input,the call of footpath/footpathlaw15.CoreFar of the landed code returns true and leaves its arguments as they were. Conditions: none.
-/
namespace Go.Proofs.YtmhghnbgllaihaaGreatDoor.coreFar
open Go.ChangeShapes Go.WideShapes Go.ChangeAt Go.RowKit
theorem own:ownKnob Tryz.prog.godebug=none:=by kernel_rfl
theorem laidOut:laidOutB Tryz.prog=true:=by kernel_rfl
theorem walk (H:Type) (enc:TypeId×Value→H) (base:Nat) (w:World) (hl:Laid2 w) (v0:Value) (d0:DataW H) (p0:List MemPlace) (v1:Value) (d1:DataW H) (p1:List MemPlace) (v2:Value) (d2:DataW H) (p2:List MemPlace) (v3:Value) (d3:DataW H) (p3:List MemPlace) (v4:Value) (d4:DataW H) (p4:List MemPlace) (k0:Value.okWide Tryz.prog w .any base 23 v0) (h0:DataW.Trod enc Tryz.prog w 0 (fun _=>true) true 23 v0 d0 p0) (k1:Value.okWide Tryz.prog w .any base 28 v1) (h1:DataW.Trod enc Tryz.prog w 0 (fun _=>true) true 28 v1 d1 p1) (k2:Value.okWide Tryz.prog w .any base 3 v2) (h2:DataW.Trod enc Tryz.prog w 0 (fun _=>true) true 3 v2 d2 p2) (k3:Value.okWide Tryz.prog w .any base 3 v3) (h3:DataW.Trod enc Tryz.prog w 0 (fun _=>true) true 3 v3 d3 p3) (k4:Value.okWide Tryz.prog w .any base 3 v4) (h4:DataW.Trod enc Tryz.prog w 0 (fun _=>true) true 3 v4 d4 p4) :
  Calls Tryz.prog 6 #[v0,v1,v2,v3,v4] w fun e w'=>e=.returned (.bool true)∧Below w.heap.size w w':=by
 obtain⟨C,rfl⟩:=open_cfg13 k0 h0
 obtain⟨S,rfl,hS⟩:=open_soup k1 h1
 obtain⟨x2,rfl,-,-,-⟩:=open_int Tryz.underlying3 k2 h2
 obtain⟨x3,rfl,-,-,-⟩:=open_int Tryz.underlying3 k3 h3
 obtain⟨x4,rfl,-,-,-⟩:=open_int Tryz.underlying3 k4 h4
 clear h0 k0 h1 k1 h2 k2 h3 k3 h4 k4
 exact(l_coreFar C S x2 x3 x4 w hl.n hl.d hS).mono fun e w' ⟨he,hn⟩=>⟨he,hn⟩
theorem lifted (os:Os) (started:os.Started) (H:Type) (enc:TypeId×Value→H) :
  ReturnsInHanded {} Tryz.checked os 6 .any (fun w args=>(Rows.coreFarSpec.pre enc Tryz.prog Tryz.f6 Rows.coreFarRow.domain false w args∧laidMetH Tryz.prog Rows.coreFarRow.laid w)∧sizedMet enc Tryz.prog Tryz.f6 (OpenSpec.ofChange Rows.coreFarSpec) false w args) (Rows.coreFarSpec.post enc Tryz.prog Tryz.f6 false true false false):=by
 refine returnsInHanded_of_change_and (C:=Tryz.checked) (X:=fun w _=>laidMetH Tryz.prog Rows.coreFarRow.laid w) (fun _ _ _ hh h=>h.of_heap hh) own started (by kernel_rfl) Tryz.func6
  (ChangeSpec.witness_shaped (enc:=enc) (C:=Tryz.checked) (os:=os) (X:=fun w _=>laidMetH Tryz.prog Rows.coreFarRow.laid w) false (World.doorLaid Tryz.prog 400 os) #[.agg #[.int .i64 0,.int .i64 0,.int .i64 0,.int .i64 0,.int .i64 0,.int .i64 0,.int .i64 0],.agg #[.slice none 0 0,.slice none 0 0,.slice none 0 0],.int .i64 0,.int .i64 0,.int .i64 0] 8 rfl (World.shaped_of_RefB (by kernel_rfl) (by kernel_rfl)) (by kernel_rfl) (by kernel_rfl) (by kernel_rfl) (door_met_bo os _)) ?_
 intro W base args ds gs before hval0 hW hcnd _ hL _
 have hval:∀ (j:Nat) t v,Tryz.f6.params[j]? = some t→args[j]? = some v→Value.okWide Tryz.prog W .any base t v:=hval0
 have hW':=hW
 obtain⟨p,q,hA0,hV,rfl,hfz,hnd⟩:=hW
 have hA:DataW.TrodAll enc Tryz.prog W 0 (fun _=>true) true Tryz.f6.params.toList args.toList ds p:=hA0
 rw[Tryz.params6]at hA hval
 obtain⟨v0,vs0,d0,ds0,p0,q0,hargs,rfl,rfl,h0,r0⟩:=trodAll_cons hA
 obtain⟨v1,vs1,d1,ds1,p1,q1,rfl,rfl,rfl,h1,r1⟩:=trodAll_cons r0
 obtain⟨v2,vs2,d2,ds2,p2,q2,rfl,rfl,rfl,h2,r2⟩:=trodAll_cons r1
 obtain⟨v3,vs3,d3,ds3,p3,q3,rfl,rfl,rfl,h3,r3⟩:=trodAll_cons r2
 obtain⟨v4,vs4,d4,ds4,p4,q4,rfl,rfl,rfl,h4,r4⟩:=trodAll_cons r3
 obtain⟨rfl,rfl,rfl⟩:=trodAll_nil r4
 obtain rfl:args=#[v0,v1,v2,v3,v4]:=by cases args;simp_all
 obtain⟨rfl,rfl⟩:=trodVars_none hV
 have lt0:∀ x∈p0,x.block<W.heap.size:=by obtain⟨m,hm⟩:=h0;exact DataW.trod_lt m _ _ _ hm
 have lt1:∀ x∈p1,x.block<W.heap.size:=by obtain⟨m,hm⟩:=h1;exact DataW.trod_lt m _ _ _ hm
 have lt2:∀ x∈p2,x.block<W.heap.size:=by obtain⟨m,hm⟩:=h2;exact DataW.trod_lt m _ _ _ hm
 have lt3:∀ x∈p3,x.block<W.heap.size:=by obtain⟨m,hm⟩:=h3;exact DataW.trod_lt m _ _ _ hm
 have lt4:∀ x∈p4,x.block<W.heap.size:=by obtain⟨m,hm⟩:=h4;exact DataW.trod_lt m _ _ _ hm
 clear hA0
 refine(walk H enc base W (of_laid_bo hL) v0 d0 p0 v1 d1 p1 v2 d2 p2 v3 d3 p3 v4 d4 p4 (hval 0 23 v0 rfl rfl) h0 (hval 1 28 v1 rfl rfl) h1 (hval 2 3 v2 rfl rfl) h2 (hval 3 3 v3 rfl rfl) h3 (hval 4 3 v4 rfl rfl) h4).mono fun e W' ⟨he,bel⟩=>?_
 subst he
 exact⟨_,rfl,_,_,_,[],_,[],hW',trodAll_mk1 (shut_bool Tryz.underlying4 _),(trodAll_cons_mk (Below.trod laidOut (by kernel_rfl) (of_decide_eq_true (by kernel_rfl)) h0 bel lt0) (trodAll_cons_mk (Below.trod laidOut (by kernel_rfl) (of_decide_eq_true (by kernel_rfl)) h1 bel lt1) (trodAll_cons_mk (Below.trod laidOut (by kernel_rfl) (of_decide_eq_true (by kernel_rfl)) h2 bel lt2) (trodAll_cons_mk (Below.trod laidOut (by kernel_rfl) (of_decide_eq_true (by kernel_rfl)) h3 bel lt3) (trodAll_cons_mk (Below.trod laidOut (by kernel_rfl) (of_decide_eq_true (by kernel_rfl)) h4 bel lt4) trodAll_mk0))))),rfl,bel.frame _,fun h=>by cases h⟩
theorem clo:Tryz.prog.closure 6=[6,8,29,25,22,44,45,71,72,46,47,73,9,10,30,48,74,31,16,34,50,52,76,77,78,79,80,117,118,144,183,119,145,184,51,75,86,120,146,185,59,99,121,100,53,55,82,83,84,85,87,88,89,54,81,56,58,91,92,93,94,95,96,97,98,57,90,32,49,35,41,33,68,109,130,131,156,132,157,192,193,194,226,195,196,227,246,247,267,268,269,281,282,297,284,266,280,228,296,271,272,283,285,286,270,248,235,263,264,273,287,288,298,289,276,277,290,299,300,301,291,292,293,294,249,251,202,250,252,229,253,274,230,254,197,159,160,198,231,232,199,233,200,234,255,256,275,257,258,278,279,295,259,260,261,262,201,203,236,158,111,134,135,161,204,162,163,164,165,166,167,205,110,133,69,112,136,168,169,137,171,206,207,237,208,239,265,238,170,113,138,172,173,209,174,139,176,177,210,175,178,70,114,140,142,179,211,213,240,212,214,141,116,115,143,180,182,215,216,241,181,61,60,63,43,40,62,36,15,13,11,28,20,27]:=by kernel_rfl
theorem inp:Tryz.prog.inPlace 6=Rows.coreFarRow.inPlace:=by unfold Program.inPlace;rw[clo];kernel_rfl
theorem unf:Tryz.prog.unfollowed 6=Rows.coreFarRow.unfollowed:=by unfold Program.unfollowed;rw[clo];kernel_rfl
theorem rec_:Tryz.prog.recurses 6=Rows.coreFarRow.recurses:=by unfold Program.recurses;rw[unf];rfl
theorem nam:Tryz.prog.varsNamed 6=Rows.coreFarRow.named:=by unfold Program.varsNamed;rw[clo];kernel_rfl
theorem facts:joinedFacts Tryz.prog 6 Tryz.f6 Rows.coreFarSpec Rows.coreFarRow=true:=by unfold joinedFacts;rw[inp,unf,rec_,nam];kernel_rfl
theorem over:Rows.coreFarRow.holds Tryz.pinned (OpenSpec.ofChange Rows.coreFarSpec) :=
 OpenClaim.holds_of_wide 6 Tryz.f6 rfl rfl rfl rfl rfl rfl rfl ⟨rfl,rfl,rfl,rfl,rfl⟩ rfl rfl rfl rfl rfl (by kernel_rfl) Tryz.func6 facts
  (of_decide_eq_true (by kernel_rfl)) (by unfold Func.isWrapper;first|(rw[if_pos (by decide +kernel)];kernel_rfl)|(rw[if_neg (by decide +kernel)];exact⟨rfl,rfl⟩))
  (fun os started H enc _=>lifted os started H enc)
theorem proved:Rows.CoreFarCardSaid :=
 Claim7.holds_tied_plain_at .later [] [.data,.data] true Rows.coreFarCard.stood.harness false
  over (fun _ h=>by cases h) (by kernel_rfl) (fun _ h=>by cases h) coreFar_row_tie rfl ⟨rfl,rfl⟩ (by kernel_rfl) rfl
  (fun f fn hf hfn=>by
   obtain rfl:f=6:=Option.some.inj ((show Tryz.prog.funcNamed "footpath/footpathlaw15.CoreFar" = some 6 by kernel_rfl).symm.trans hf) |>.symm
   obtain rfl:fn=Tryz.f6:=(Option.some.inj (Tryz.func6.symm.trans hfn)).symm
   exact⟨by kernel_rfl,fun j t ht=>by
    rw[Tryz.params6]at ht
    have hm:t∈[23,28,3,3,3]:=by simpa using Array.mem_of_getElem? ht
    have hall:([23,28,3,3,3].all fun u => !Tryz.prog.wantsStandIn u)=true:=by kernel_rfl
    exact(show Tryz.prog.wantsStandIn t=false by simpa using List.all_eq_true.1 hall t hm)⟩)
  (by kernel_rfl)
#print axioms proved
end Go.Proofs.YtmhghnbgllaihaaGreatDoor.coreFar
