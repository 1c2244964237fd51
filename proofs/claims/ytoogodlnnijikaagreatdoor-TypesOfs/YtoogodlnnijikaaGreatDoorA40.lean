/- For any strategy and any expression: types.Of has the type that the document says, or the number of the first thing that does not fit, at its place, with a nil error just where nothing is told, and leaves what was handed in, its room too, as it was: the statement's function is true in every world in which errors.errorType, lex.words and types.fieldTypes lie as the statement's row lists them; nothing that was there is written. -/
import Derived.Test.YtoogodlnnijikaaGreatDoorA0
import Derived.Test.YtoogodlnnijikaaGreatDoorRows
import Derived.Test.YtoogodlnnijikaaGreatDoorTie
import Derived.Test.YtoogodlnnijikaaGreatDoorCards
import Derived.Test.YtoogodlnnijikaaGreatDoorA19
import Derived.Test.YtoogodlnnijikaaGreatDoorA38
import Derived.Test.YtoogodlnnijikaaGreatDoorA39
import Derived.SevenTiedAt
import Derived.ChangeOld
import Derived.Below
import Derived.Stop.Joined
import Derived.WalkKit
import Derived.ProofKit
import Derived.OpenShut
import Derived.ShutString
import Derived.SizedLaws
namespace Go.Proofs.YtoogodlnnijikaaGreatDoor
namespace typesOfs
open Go.ChangeShapes Go.WideShapes Go.ChangeAt Go.RowKit
open Go.ChangeMaps (open_string shut_string)
set_option linter.unusedVariables false
theorem own:ownKnob Tryz.prog.godebug=none:=by kernel_rfl
theorem laidOut:laidOutB Tryz.prog=true:=by kernel_rfl
theorem walk (a0:StratM) (a1:Nd) (w:World) (l0:StratL w a0) (l1:Lies w a1) (ht:Tab w∧FTab w∧Ety w) :
  Calls zG 4 #[.agg a0.vals,.agg a1.vals] w fun e w'=>e=.returned (.bool true)∧Below w§ w w' :=
 ofs15 a0 a1 w l0 l1 ht.1 ht.2.1 ht.2.2
set_option maxRecDepth 100000 in
theorem lifted (os:Os) (started:os.Started) (H:Type) (enc:TypeId × Value→H) :
  ReturnsInHanded {} Tryz.checked os 4 .any (fun w args=>(Rows.typesOfsSpec.pre enc Tryz.prog Tryz.f4 [] false w args∧laidMetH Tryz.prog Rows.typesOfsRow.laid w)∧sizedMet enc Tryz.prog Tryz.f4 (OpenSpec.ofChange Rows.typesOfsSpec) false w args) (Rows.typesOfsSpec.post enc Tryz.prog Tryz.f4 false true false false):=by
 refine returnsInHanded_of_change_and (C:=Tryz.checked) (X:=fun w _=>laidMetH Tryz.prog Rows.typesOfsRow.laid w) (fun _ _ _ hh h=>h.of_heap hh) own started zK Tryz.func4
  (ChangeSpec.witness_shaped (enc:=enc) (C:=Tryz.checked) (os:=os) (X:=fun w _=>laidMetH Tryz.prog Rows.typesOfsRow.laid w) false (World.doorLaid Tryz.prog 400 os) #[.agg #[.string ByteArray.empty,.slice none 0 0,.slice none 0 0,.slice none 0 0],.agg #[zU 0,zU 0,zU 0,zI 0,zU 0,.string ByteArray.empty,.slice none 0 0,zI 0]] 8 rfl (World.shaped_of_RefB zK zK) zK zK zK (door_met os _)) ?_
 intro W base args ds gs before hval0 hW _ hsz0 hL _
 have hsz:(DataW.weightsEach Tryz.prog (Tryz.f4.params.toList ++ Rows.typesOfsSpec.plain.varTypes Tryz.prog) (ds ++ gs)).all (·≤reachBytes)=true:=hsz0
 have hval:∀ (j:Nat) t v,Tryz.f4.params[j]? = some t→args[j]? = some v→Value.okWide Tryz.prog W .any base t v:=hval0
 have hW':=hW
 obtain⟨p,q,hA0,hV,rfl,hfz,hnd⟩:=hW
 have hA:DataW.TrodAll enc Tryz.prog W 0 (fun _=>true) true Tryz.f4.params.toList args.toList ds p:=hA0
 rw [Tryz.params4] at hA hval
 obtain⟨v0,vs0,d0,ds0,p0,q0,hargs,rfl,rfl,h0,r0⟩:=trodAll_cons hA
 obtain⟨v1,vs1,d1,ds1,p1,q1,rfl,rfl,rfl,h1,r1⟩:=trodAll_cons r0
 obtain⟨rfl,rfl,rfl⟩:=trodAll_nil r1
 obtain rfl:args=#[v0,v1]:=by cases args; simp_all
 obtain⟨rfl,rfl⟩:=trodVars_none hV
 have k0:=h0
 have lt0:∀ x ∈ p0,x.block < W§:=by obtain⟨m,hm⟩:=k0; exact DataW.trod_lt m _ _ _ hm
 have k1:=h1
 have lt1:∀ x ∈ p1,x.block < W§:=by obtain⟨m,hm⟩:=k1; exact DataW.trod_lt m _ _ _ hm
 obtain⟨cs0,rfl,_⟩:=okWide_struct Tryz.underlying27 (hval 0 27 v0 rfl rfl)
 obtain⟨a0,rfl,l0⟩:∃ m:StratM,cs0=m.vals∧StratL W m:=by
  obtain⟨fuel,hf⟩:=h0
  exact strat_in hf (fun z hz=>by simpa using List.all_eq_true.1 hsz z (DataW.weights_mem_each (j:=0) (t:=27) (d:=d0) rfl rfl z hz))
 obtain⟨cs1,rfl,_⟩:=okWide_struct Tryz.underlying48 (hval 1 48 v1 rfl rfl)
 obtain⟨a1,rfl,l1⟩:∃ m:Nd,cs1=m.vals∧Lies W m:=by
  obtain⟨fuel,hf⟩:=h1
  exact nd_in hf (fun z hz=>by simpa using List.all_eq_true.1 hsz z (DataW.weights_mem_each (j:=1) (t:=48) (d:=d1) rfl rfl z hz))
 clear hA0 hval0
 refine (walk a0 a1 W l0 l1 (tab_of_laid hL)).mono fun e W' ⟨he,bel⟩=>?_
 subst he
 exact⟨_,rfl,_,_,_,[],_,[],hW',trodAll_mk1 (shut_bool Tryz.underlying4 _),(trodAll_cons_mk (Below.trod laidOut zK (of_decide_eq_true zK) k0 bel lt0) (trodAll_cons_mk (Below.trod laidOut zK (of_decide_eq_true zK) k1 bel lt1) trodAll_mk0)),rfl,bel.frame _,fun h=>by cases h⟩
theorem over:Rows.typesOfsRow.holds Tryz.pinned (OpenSpec.ofChange Rows.typesOfsSpec) :=
 OpenClaim.holds_of_wide 4 Tryz.f4 rfl rfl rfl rfl rfl rfl rfl ⟨rfl,rfl,rfl,rfl,rfl⟩ rfl rfl rfl rfl rfl zK Tryz.func4 zK
  (of_decide_eq_true zK) (by unfold Func.isWrapper; first | (rw [if_pos (by decide +kernel)]; kernel_rfl) | (rw [if_neg (by decide +kernel)]; exact⟨rfl,rfl⟩))
  (fun os started H enc _=>lifted os started H enc)
theorem proved:Rows.TypesOfsCardSaid :=
 Claim7.holds_tied_plain_at .later [] [.handle,.data,.data] true Rows.typesOfsCard.stood.harness true
  over (fun _ h=>by cases h) zK (fun _ h=>by cases h) typesOfs_row_tie rfl ⟨rfl,rfl⟩ zK rfl
  (fun f fn hf hfn=>by
   obtain rfl:f=4:=Option.some.inj ((show Tryz.prog.funcNamed Rows.typesOfsRow.func=some 4 by kernel_rfl).symm.trans hf) |>.symm
   obtain rfl:fn=Tryz.f4:=(Option.some.inj (Tryz.func4.symm.trans hfn)).symm
   exact⟨by kernel_rfl,fun j t ht=>by
    rw [Tryz.params4] at ht
    rcases j with _ | j
    ·obtain rfl:t=27:=by simpa using ht.symm
     exact (show Tryz.prog.wantsStandIn 27=false by kernel_rfl)
    rcases j with _ | j
    ·obtain rfl:t=48:=by simpa using ht.symm
     exact (show Tryz.prog.wantsStandIn 48=false by kernel_rfl)
    simp at ht⟩)
  zK
#print axioms proved
end typesOfs
end Go.Proofs.YtoogodlnnijikaaGreatDoor
