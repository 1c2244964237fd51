/- For any strategy and any expression: with all registers called otherwise (a z ahead), in the strategy and in the expression, the expression has the same type, or the same error at the same place, wherever no name is too long for that and none is made another thing of: the statement's function answers true. Condition: the listed variables (the table of words, the table of fields' types, errors' own type) hold what the program's own text lays there. -/
import Derived.Test.YtoogodlnnijikaaGreatDoorA0
import Derived.Test.YtoogodlnnijikaaGreatDoorRows
import Derived.Test.YtoogodlnnijikaaGreatDoorTie
import Derived.Test.YtoogodlnnijikaaGreatDoorCards
import Derived.Test.YtoogodlnnijikaaGreatDoorA31
import Derived.Test.YtoogodlnnijikaaGreatDoorA44
import Derived.Test.YtoogodlnnijikaaGreatDoorA45
import Derived.SevenTiedAt
import Derived.ChangeOld
import Derived.Below
import Derived.Stop.Joined
import Derived.WalkKit
import Derived.ProofKit
import Derived.OpenShut
import Derived.ShutString
import Derived.SizedLaws
namespace Go.Proofs.YtoogodlnnijikaaGreatDoor
set_option maxRecDepth 100000
namespace typesNames
open Go.ChangeShapes Go.WideShapes Go.ChangeAt Go.RowKit
open Go.ChangeMaps (open_string shut_string)
set_option linter.unusedVariables false
theorem own:ownKnob Tryz.prog.godebug=none:=by kernel_rfl
theorem laidOut:laidOutB Tryz.prog=true:=by kernel_rfl
theorem walk (a0:Qm) (a1:Nd) (w:yW) (l0:QD w a0) (l1:Lies w a1) (ht:Tab w∧FTab w∧Ety w) :
  Calls zG 6 #[.agg a0.vals,.agg a1.vals] w fun e w'=>e=.returned (.bool true)∧yD w w' :=
 names15 a0 a1 w l0 l1 ht.1 ht.2.1 ht.2.2
theorem lifted (os:Os) (started:os.Started) (H:Type) (enc:TypeId × Value→H) :
  ReturnsInHanded {} Tryz.checked os 6 .any (fun w args=>(Rows.typesNamesSpec.pre enc Tryz.prog Tryz.f6 [] false w args∧laidMetH Tryz.prog Rows.typesNamesRow.laid w)∧sizedMet enc Tryz.prog Tryz.f6 (OpenSpec.ofChange Rows.typesNamesSpec) false w args) (Rows.typesNamesSpec.post enc Tryz.prog Tryz.f6 false true false false):=by
 refine returnsInHanded_of_change_and (C:=Tryz.checked) (X:=fun w _=>laidMetH Tryz.prog Rows.typesNamesRow.laid w) (fun _ _ _ hh h=>h.of_heap hh) own started zK Tryz.func6
  (ChangeSpec.witness_shaped (enc:=enc) (C:=Tryz.checked) (os:=os) (X:=fun w _=>laidMetH Tryz.prog Rows.typesNamesRow.laid w) false (World.doorLaid Tryz.prog 400 os) #[.agg #[.string ByteArray.empty,.slice none 0 0,.slice none 0 0,.slice none 0 0],.agg #[zU 0,zU 0,zU 0,zI 0,zU 0,.string ByteArray.empty,.slice none 0 0,zI 0]] 8 rfl (World.shaped_of_RefB zK zK) zK zK zK (door_met os _)) ?_
 intro W base args ds gs before hval0 hW _ hsz0 hL _
 have hsz:(DataW.weightsEach Tryz.prog (Tryz.f6.params.toList ++ Rows.typesNamesSpec.plain.varTypes Tryz.prog) (ds ++ gs)).all (·≤reachBytes)=true:=hsz0
 have hval:∀ (j:Nat) t v,Tryz.f6.params[j]? = some t→args[j]? = some v→Value.okWide Tryz.prog W .any base t v:=hval0
 have hW':=hW
 obtain⟨p,q,hA0,hV,rfl,hfz,hnd⟩:=hW
 have hA:DataW.TrodAll enc Tryz.prog W 0 (fun _=>true) true Tryz.f6.params.toList args.toList ds p:=hA0
 rw [Tryz.params6] at hA hval
 obtain⟨v0,vs0,d0,ds0,p0,q0,hargs,rfl,rfl,h0,r0⟩:=trodAll_cons hA
 obtain⟨v1,vs1,d1,ds1,p1,q1,rfl,rfl,rfl,h1,r1⟩:=trodAll_cons r0
 obtain⟨rfl,rfl,rfl⟩:=trodAll_nil r1
 obtain rfl:args=#[v0,v1]:=by cases args; simp_all
 obtain⟨rfl,rfl⟩:=trodVars_none hV
 have k0:=h0
 have lt0:∀ x ∈ p0,x.block < W§:=by obtain⟨m,hm⟩:=k0; exact DataW.trod_lt m _ _ _ hm
 have k1:=h1
 have lt1:∀ x ∈ p1,x.block < W§:=by obtain⟨m,hm⟩:=k1; exact DataW.trod_lt m _ _ _ hm
 obtain⟨cs0,rfl,_⟩:=okWide_struct Tryz.underlying27 (hval 0 27 v0 rfl rfl)
 obtain⟨a0,rfl,l0⟩:∃ m:Qm,cs0=m.vals∧QD W m:=by
  obtain⟨fuel,hf⟩:=h0
  exact strat_in hf (fun z hz=>by simpa using List.all_eq_true.1 hsz z (DataW.weights_mem_each (j:=0) (t:=27) (d:=d0) rfl rfl z hz))
 obtain⟨cs1,rfl,_⟩:=okWide_struct Tryz.underlying48 (hval 1 48 v1 rfl rfl)
 obtain⟨a1,rfl,l1⟩:∃ m:Nd,cs1=m.vals∧Lies W m:=by
  obtain⟨fuel,hf⟩:=h1
  exact nd_in hf (fun z hz=>by simpa using List.all_eq_true.1 hsz z (DataW.weights_mem_each (j:=1) (t:=48) (d:=d1) rfl rfl z hz))
 clear hA0 hval0
 refine (walk a0 a1 W l0 l1 (tab_of_laid hL)).mono fun e W' ⟨he,bel⟩=>?_
 subst he
 exact⟨_,rfl,_,_,_,[],_,[],hW',trodAll_mk1 (shut_bool Tryz.underlying4 _),(trodAll_cons_mk (Below.trod laidOut zK (of_decide_eq_true zK) k0 bel lt0) (trodAll_cons_mk (Below.trod laidOut zK (of_decide_eq_true zK) k1 bel lt1) trodAll_mk0)),rfl,bel.frame _,fun h=>by cases h⟩
theorem over:Rows.typesNamesRow.holds Tryz.pinned (OpenSpec.ofChange Rows.typesNamesSpec) :=
 OpenClaim.holds_of_wide 6 Tryz.f6 rfl rfl rfl rfl rfl rfl rfl ⟨rfl,rfl,rfl,rfl,rfl⟩ rfl rfl rfl rfl rfl zK Tryz.func6 zK
  (of_decide_eq_true zK) (by unfold Func.isWrapper; first | (rw [if_pos (by decide +kernel)]; kernel_rfl) | (rw [if_neg (by decide +kernel)]; exact⟨rfl,rfl⟩))
  (fun os started H enc _=>lifted os started H enc)
theorem proved:Rows.TypesNamesCardSaid :=
 Claim7.holds_tied_plain_at .later [] [.handle,.data,.data] true Rows.typesNamesCard.stood.harness true
  over (fun _ h=>by cases h) zK (fun _ h=>by cases h) typesNames_row_tie rfl ⟨rfl,rfl⟩ zK rfl
  (fun f fn hf hfn=>by
   obtain rfl:f=6:=Option.some.inj ((show Tryz.prog.funcNamed Rows.typesNamesRow.func=some 6 by kernel_rfl).symm.trans hf) |>.symm
   obtain rfl:fn=Tryz.f6:=(Option.some.inj (Tryz.func6.symm.trans hfn)).symm
   exact⟨by kernel_rfl,fun j t ht=>by
    rw [Tryz.params6] at ht
    rcases j with _ | j
    ·obtain rfl:t=27:=by simpa using ht.symm
     exact (show Tryz.prog.wantsStandIn 27=false by kernel_rfl)
    rcases j with _ | j
    ·obtain rfl:t=48:=by simpa using ht.symm
     exact (show Tryz.prog.wantsStandIn 48=false by kernel_rfl)
    simp at ht⟩)
  zK
#print axioms proved
end typesNames
end Go.Proofs.YtoogodlnnijikaaGreatDoor
