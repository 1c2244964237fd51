/- A field that nothing in the state names changes nothing. Its conditions: the three listed package variables hold what the text lays. -/
import Derived.Test.YtfbjofnaghjmeaaGreatDoorA0
import Derived.Test.YtfbjofnaghjmeaaGreatDoorRows
import Derived.Test.YtfbjofnaghjmeaaGreatDoorTie
import Derived.Test.YtfbjofnaghjmeaaGreatDoorCards
import Derived.Test.YtfbjofnaghjmeaaGreatDoorA46
import Derived.Test.YtfbjofnaghjmeaaGreatDoorA49
import Derived.Test.YtfbjofnaghjmeaaGreatDoorA41
import Derived.SevenTiedAt
import Derived.ChangeOld
import Derived.Below
import Derived.Stop.Joined
import Derived.WalkKit
import Derived.ProofKit
import Derived.OpenShut
import Derived.ShutString
import Derived.SizedLaws
namespace Go.Proofs.YtfbjofnaghjmeaaGreatDoor
set_option maxRecDepth 100000
namespace meanBlind
open Go.ChangeShapes Go.WideShapes Go.ChangeAt Go.RowKit
open Go.ChangeMaps (open_string shut_string)
set_option linter.unusedVariables false
theorem own:ownKnob Tryz.prog.godebug=none:=by kernel_rfl
theorem laidOut:laidOutB Tryz.prog=true:=by kernel_rfl
theorem walk (a0:StratM) (a1:ModM) (a2:Sx.Sn) (a3:Int) (a4:Int) (w:yW) (l0:StratL w a0) (l1:ModL w a1) (l2:∀ f,I64 (Sx.getN a2 f)) (w3:(Lit.int .u8 a3).wf=true) (w4:(Lit.int .i64 a4).wf=true) (ht:Tab w∧FTab w∧Ety w) :
  Calls zG 6 #[.agg a0.vals,.agg a1.vals,.agg (Sx.snA a2),zU a3,zI a4] w fun e w'=>e=.returned (.bool true)∧yD w w' :=
 blind_any a0 a1 a2 a3 a4 w l0 l1 l2 (bounds_u8 w3).1 (bounds_u8 w3).2 (bounds_i64 w4) ht.1 ht.2.1 ht.2.2
theorem lifted (os:Os) (started:os.Started) (H:Type) (enc:TypeId × Value→H) :
  ReturnsInHanded {} Tryz.checked os 6 .any (fun w args=>(Rows.meanBlindSpec.pre enc Tryz.prog Tryz.f6 [] false w args∧laidMetH Tryz.prog Rows.meanBlindRow.laid w)∧sizedMet enc Tryz.prog Tryz.f6 (OpenSpec.ofChange Rows.meanBlindSpec) false w args) (Rows.meanBlindSpec.post enc Tryz.prog Tryz.f6 false true false false):=by
 refine returnsInHanded_of_change_and (C:=Tryz.checked) (X:=fun w _=>laidMetH Tryz.prog Rows.meanBlindRow.laid w) (fun _ _ _ hh h=>h.of_heap hh) own started zK Tryz.func6
  (ChangeSpec.witness_shaped (enc:=enc) (C:=Tryz.checked) (os:=os) (X:=fun w _=>laidMetH Tryz.prog Rows.meanBlindRow.laid w) false (World.doorLaid Tryz.prog 400 os) #[.agg #[.string ByteArray.empty,.slice none 0 0,.slice none 0 0,.slice none 0 0],.agg zu,.agg zh,zU 0,zI 0] 8 rfl (World.shaped_of_RefB zK zK) zK zK zK (door_met os _)) ?_
 intro W base args ds gs before hval0 hW _ hsz0 hL _
 have hsz:(DataW.weightsEach Tryz.prog (Tryz.f6.params.toList ++ Rows.meanBlindSpec.plain.varTypes Tryz.prog) (ds ++ gs)).all (·≤reachBytes)=true:=hsz0
 have hval:∀ (j:Nat) t v,Tryz.f6.params[j]? = some t→args[j]? = some v→Value.okWide Tryz.prog W .any base t v:=hval0
 have hW':=hW
 obtain⟨p,q,hA0,hV,rfl,hfz,hnd⟩:=hW
 have hA:DataW.TrodAll enc Tryz.prog W 0 (fun _=>true) true Tryz.f6.params.toList args.toList ds p:=hA0
 rw [Tryz.params6] at hA hval
 obtain⟨v0,vs0,d0,ds0,p0,q0,hargs,rfl,rfl,h0,r0⟩:=trodAll_cons hA
 obtain⟨v1,vs1,d1,ds1,p1,q1,rfl,rfl,rfl,h1,r1⟩:=trodAll_cons r0
 obtain⟨v2,vs2,d2,ds2,p2,q2,rfl,rfl,rfl,h2,r2⟩:=trodAll_cons r1
 obtain⟨v3,vs3,d3,ds3,p3,q3,rfl,rfl,rfl,h3,r3⟩:=trodAll_cons r2
 obtain⟨v4,vs4,d4,ds4,p4,q4,rfl,rfl,rfl,h4,r4⟩:=trodAll_cons r3
 obtain⟨rfl,rfl,rfl⟩:=trodAll_nil r4
 obtain rfl:args=#[v0,v1,v2,v3,v4]:=by cases args; simp_all
 obtain⟨rfl,rfl⟩:=trodVars_none hV
 have k0:=h0
 have lt0:∀ x ∈ p0,x.block < W§:=by obtain⟨m,hm⟩:=k0; exact DataW.trod_lt m _ _ _ hm
 have k1:=h1
 have lt1:∀ x ∈ p1,x.block < W§:=by obtain⟨m,hm⟩:=k1; exact DataW.trod_lt m _ _ _ hm
 have k2:=h2
 have lt2:∀ x ∈ p2,x.block < W§:=by obtain⟨m,hm⟩:=k2; exact DataW.trod_lt m _ _ _ hm
 have k3:=h3
 have lt3:∀ x ∈ p3,x.block < W§:=by obtain⟨m,hm⟩:=k3; exact DataW.trod_lt m _ _ _ hm
 have k4:=h4
 have lt4:∀ x ∈ p4,x.block < W§:=by obtain⟨m,hm⟩:=k4; exact DataW.trod_lt m _ _ _ hm
 obtain⟨cs0,rfl,_⟩:=okWide_struct Tryz.underlying26 (hval 0 26 v0 rfl rfl)
 obtain⟨a0,rfl,l0⟩:∃ m:StratM,cs0=m.vals∧StratL W m:=by
  obtain⟨fuel,hf⟩:=h0
  exact strat_in hf (fun z hz=>by simpa using List.all_eq_true.1 hsz z (DataW.weights_mem_each (j:=0) (t:=26) (d:=d0) rfl rfl z hz))
 obtain⟨cs1,rfl,_⟩:=okWide_struct Tryz.underlying29 (hval 1 29 v1 rfl rfl)
 obtain⟨a1,rfl,l1⟩:∃ m:ModM,cs1=m.vals∧ModL W m:=by
  obtain⟨fuel,hf⟩:=h1
  exact mod_in hf (fun z hz=>by simpa using List.all_eq_true.1 hsz z (DataW.weights_mem_each (j:=1) (t:=29) (d:=d1) rfl rfl z hz))
 obtain⟨cs2,rfl,_⟩:=okWide_struct Tryz.underlying31 (hval 2 31 v2 rfl rfl)
 obtain⟨a2,rfl,l2⟩:∃ m:Sx.Sn,cs2=Sx.snA m∧∀ f,I64 (Sx.getN m f):=by
  obtain⟨fuel,hf⟩:=h2
  exact sn_in hf (fun z hz=>by simpa using List.all_eq_true.1 hsz z (DataW.weights_mem_each (j:=2) (t:=31) (d:=d2) rfl rfl z hz))
 obtain⟨a3,rfl,rfl,rfl,w3⟩:=open_int Tryz.underlying5 (hval 3 5 v3 rfl rfl) h3
 obtain⟨a4,rfl,rfl,rfl,w4⟩:=open_int Tryz.underlying2 (hval 4 2 v4 rfl rfl) h4
 clear hA0 hval0
 refine (walk a0 a1 a2 a3 a4 W l0 l1 l2 w3 w4 (tab_of_laid hL)).mono fun e W' ⟨he,bel⟩=>?_
 subst he
 exact⟨_,rfl,_,_,_,[],_,[],hW',trodAll_mk1 (shut_bool Tryz.underlying4 _),(trodAll_cons_mk (Below.trod laidOut zK (of_decide_eq_true zK) k0 bel lt0) (trodAll_cons_mk (Below.trod laidOut zK (of_decide_eq_true zK) k1 bel lt1) (trodAll_cons_mk (Below.trod laidOut zK (of_decide_eq_true zK) k2 bel lt2) (trodAll_cons_mk (Below.trod laidOut zK (of_decide_eq_true zK) k3 bel lt3) (trodAll_cons_mk (Below.trod laidOut zK (of_decide_eq_true zK) k4 bel lt4) trodAll_mk0))))),rfl,bel.frame _,fun h=>by cases h⟩
theorem over:Rows.meanBlindRow.holds Tryz.pinned (OpenSpec.ofChange Rows.meanBlindSpec) :=
 OpenClaim.holds_of_wide 6 Tryz.f6 rfl rfl rfl rfl rfl rfl rfl ⟨rfl,rfl,rfl,rfl,rfl⟩ rfl rfl rfl rfl rfl zK Tryz.func6 zK
  (of_decide_eq_true zK) (by unfold Func.isWrapper; first | (rw [if_pos (by decide +kernel)]; kernel_rfl) | (rw [if_neg (by decide +kernel)]; exact⟨rfl,rfl⟩))
  (fun os started H enc _=>lifted os started H enc)
theorem proved:Rows.MeanBlindCardSaid :=
 Claim7.holds_tied_plain_at .later [] [.handle,.data,.data] true Rows.meanBlindCard.stood.harness true
  over (fun _ h=>by cases h) zK (fun _ h=>by cases h) meanBlind_row_tie rfl ⟨rfl,rfl⟩ zK rfl
  (fun f fn hf hfn=>by
   obtain rfl:f=6:=Option.some.inj ((show Tryz.prog.funcNamed Rows.meanBlindRow.func=some 6 by kernel_rfl).symm.trans hf) |>.symm
   obtain rfl:fn=Tryz.f6:=(Option.some.inj (Tryz.func6.symm.trans hfn)).symm
   exact⟨by kernel_rfl,fun j t ht=>by
    rw [Tryz.params6] at ht
    rcases j with _ | j
    ·obtain rfl:t=26:=by simpa using ht.symm
     exact (show Tryz.prog.wantsStandIn 26=false by kernel_rfl)
    rcases j with _ | j
    ·obtain rfl:t=29:=by simpa using ht.symm
     exact (show Tryz.prog.wantsStandIn 29=false by kernel_rfl)
    rcases j with _ | j
    ·obtain rfl:t=31:=by simpa using ht.symm
     exact (show Tryz.prog.wantsStandIn 31=false by kernel_rfl)
    rcases j with _ | j
    ·obtain rfl:t=5:=by simpa using ht.symm
     exact (show Tryz.prog.wantsStandIn 5=false by kernel_rfl)
    rcases j with _ | j
    ·obtain rfl:t=2:=by simpa using ht.symm
     exact (show Tryz.prog.wantsStandIn 2=false by kernel_rfl)
    simp at ht⟩)
  zK
#print axioms proved
end meanBlind
end Go.Proofs.YtfbjofnaghjmeaaGreatDoor
