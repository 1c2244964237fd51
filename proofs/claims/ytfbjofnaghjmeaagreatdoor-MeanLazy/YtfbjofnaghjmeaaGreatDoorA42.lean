/- Whatever is handed in: 'and' and 'or' of two expressions are what the shorter way of reckoning says, and so is a test by its two branches;nothing is reckoned that need not be. Its conditions: the three listed package variables hold what the text lays. -/
import Derived.Test.YtfbjofnaghjmeaaGreatDoorTie
import Derived.Test.YtfbjofnaghjmeaaGreatDoorCards
import Derived.Test.YtfbjofnaghjmeaaGreatDoorA41
import Derived.SevenTiedAt
import Derived.ChangeOld
import Derived.Stop.Joined
import Derived.ShutString
namespace Go.Proofs.YtfbjofnaghjmeaaGreatDoor
open Go.Proofs.Tryz
set_option maxRecDepth 100000
namespace meanLazy
open Go.ChangeShapes Go.WideShapes Go.ChangeAt Go.RowKit
open Go.ChangeMaps (open_string shut_string)
set_option linter.unusedVariables false
theorem own:ownKnob Tryz.prog.godebug=none:=by kernel_rfl
theorem laidOut:laidOutB zG=true:=by kernel_rfl
theorem walk (a0:Qg) (a1:ModM) (a2:Sx.Sn) (a3:Nd) (a4:Nd) (a5:Nd) (w:yW) (l0:Qr w a0) (l1:ModL w a1) (l2:∀ f,I64 (Sx.getN a2 f)) (l3:Lies w a3) (l4:Lies w a4) (l5:Lies w a5) (ht:Tab w∧FTab w∧Ety w) :
  Calls zG 3 #[.agg a0.vals,.agg a1.vals,.agg (Sx.snA a2),.agg a3.vals,.agg a4.vals,.agg a5.vals] w fun e w'=>e=.returned (.bool true)∧yD w w' :=
 Qey a0 a1 a2 a3 a4 a5 w l0 l1 l2 l3 l4 l5 ht.1 ht.2.1 ht.2.2
theorem lifted (os:Os) (started:os.Started) (H:Type) (enc:TypeId × Value→H) :
  ReturnsInHanded {} Tryz.checked os 3 .any (fun w args=>(Rows.meanLazySpec.pre enc zG Tryz.f3 [] false w args∧laidMetH zG Rows.meanLazyRow.laid w)∧sizedMet enc zG Tryz.f3 (OpenSpec.ofChange Rows.meanLazySpec) false w args) (Rows.meanLazySpec.post enc zG Tryz.f3 false true false false):=by
 refine returnsInHanded_of_change_and (C:=Tryz.checked) (X:=fun w _=>laidMetH zG Rows.meanLazyRow.laid w) (fun _ _ _ hh h=>h.of_heap hh) own started zK func3
  (ChangeSpec.witness_shaped (enc:=enc) (C:=Tryz.checked) (os:=os) (X:=fun w _=>laidMetH zG Rows.meanLazyRow.laid w) false (World.doorLaid zG 400 os) #[.agg #[.string ByteArray.empty,zO,zO,zO],.agg zw,.agg #[zI 0,zI 0,zI 0,zI 0,zI 0,zI 0],.agg #[zU 0,zU 0,zU 0,zI 0,zU 0,.string ByteArray.empty,zO,zI 0],.agg #[zU 0,zU 0,zU 0,zI 0,zU 0,.string ByteArray.empty,zO,zI 0],.agg #[zU 0,zU 0,zU 0,zI 0,zU 0,.string ByteArray.empty,zO,zI 0]] 8 rfl (World.shaped_of_RefB zK zK) zK zK zK (Qe6 os _)) ?_
 intro W base args ds gs before hval0 hW _ hsz0 hL _
 have hsz:(DataW.weightsEach zG (Tryz.f3.params.toList ++ Rows.meanLazySpec.plain.varTypes zG) (ds ++ gs)).all (·≤reachBytes)=true:=hsz0
 have hval:∀ (j:Nat) t v,Tryz.f3.params[j]? = some t→args[j]? = some v→Value.okWide zG W .any base t v:=hval0
 have hW':=hW
 obtain⟨p,q,hA0,hV,rfl,hfz,hnd⟩:=hW
 have hA:DataW.TrodAll enc zG W 0 (fun _=>true) true Tryz.f3.params.toList args.toList ds p:=hA0
 rw [params3] at hA hval
 obtain⟨v0,vs0,d0,ds0,p0,q0,hargs,rfl,rfl,h0,r0⟩:=trodAll_cons hA
 obtain⟨v1,vs1,d1,ds1,p1,q1,rfl,rfl,rfl,h1,r1⟩:=trodAll_cons r0
 obtain⟨v2,vs2,d2,ds2,p2,q2,rfl,rfl,rfl,h2,r2⟩:=trodAll_cons r1
 obtain⟨v3,vs3,d3,ds3,p3,q3,rfl,rfl,rfl,h3,r3⟩:=trodAll_cons r2
 obtain⟨v4,vs4,d4,ds4,p4,q4,rfl,rfl,rfl,h4,r4⟩:=trodAll_cons r3
 obtain⟨v5,vs5,d5,ds5,p5,q5,rfl,rfl,rfl,h5,r5⟩:=trodAll_cons r4
 obtain⟨rfl,rfl,rfl⟩:=trodAll_nil r5
 obtain rfl:args=#[v0,v1,v2,v3,v4,v5]:=by cases args;simp_all
 obtain⟨rfl,rfl⟩:=trodVars_none hV
 have k0:=h0
 have lt0:∀ x ∈ p0,x.block < W§:=by obtain⟨m,hm⟩:=k0;exact DataW.trod_lt m _ _ _ hm
 have k1:=h1
 have lt1:∀ x ∈ p1,x.block < W§:=by obtain⟨m,hm⟩:=k1;exact DataW.trod_lt m _ _ _ hm
 have k2:=h2
 have lt2:∀ x ∈ p2,x.block < W§:=by obtain⟨m,hm⟩:=k2;exact DataW.trod_lt m _ _ _ hm
 have k3:=h3
 have lt3:∀ x ∈ p3,x.block < W§:=by obtain⟨m,hm⟩:=k3;exact DataW.trod_lt m _ _ _ hm
 have k4:=h4
 have lt4:∀ x ∈ p4,x.block < W§:=by obtain⟨m,hm⟩:=k4;exact DataW.trod_lt m _ _ _ hm
 have k5:=h5
 have lt5:∀ x ∈ p5,x.block < W§:=by obtain⟨m,hm⟩:=k5;exact DataW.trod_lt m _ _ _ hm
 obtain⟨cs0,rfl,_⟩:=okWide_struct underlying26 (hval 0 26 v0 rfl rfl)
 obtain⟨a0,rfl,l0⟩:∃ m:Qg,cs0=m.vals∧Qr W m:=by
  obtain⟨fuel,hf⟩:=h0
  exact Qdd hf (fun z hz=>by simpa using List.all_eq_true.1 hsz z (DataW.weights_mem_each (j:=0) (t:=26) (d:=d0) rfl rfl z hz))
 obtain⟨cs1,rfl,_⟩:=okWide_struct underlying29 (hval 1 29 v1 rfl rfl)
 obtain⟨a1,rfl,l1⟩:∃ m:ModM,cs1=m.vals∧ModL W m:=by
  obtain⟨fuel,hf⟩:=h1
  exact Qik hf (fun z hz=>by simpa using List.all_eq_true.1 hsz z (DataW.weights_mem_each (j:=1) (t:=29) (d:=d1) rfl rfl z hz))
 obtain⟨cs2,rfl,_⟩:=okWide_struct underlying31 (hval 2 31 v2 rfl rfl)
 obtain⟨a2,rfl,l2⟩:∃ m:Sx.Sn,cs2=Sx.snA m∧∀ f,I64 (Sx.getN m f):=by
  obtain⟨fuel,hf⟩:=h2
  exact sn_in hf (fun z hz=>by simpa using List.all_eq_true.1 hsz z (DataW.weights_mem_each (j:=2) (t:=31) (d:=d2) rfl rfl z hz))
 obtain⟨cs3,rfl,_⟩:=okWide_struct underlying38 (hval 3 38 v3 rfl rfl)
 obtain⟨a3,rfl,l3⟩:∃ m:Nd,cs3=m.vals∧Lies W m:=by
  obtain⟨fuel,hf⟩:=h3
  exact Qeh hf (fun z hz=>by simpa using List.all_eq_true.1 hsz z (DataW.weights_mem_each (j:=3) (t:=38) (d:=d3) rfl rfl z hz))
 obtain⟨cs4,rfl,_⟩:=okWide_struct underlying38 (hval 4 38 v4 rfl rfl)
 obtain⟨a4,rfl,l4⟩:∃ m:Nd,cs4=m.vals∧Lies W m:=by
  obtain⟨fuel,hf⟩:=h4
  exact Qeh hf (fun z hz=>by simpa using List.all_eq_true.1 hsz z (DataW.weights_mem_each (j:=4) (t:=38) (d:=d4) rfl rfl z hz))
 obtain⟨cs5,rfl,_⟩:=okWide_struct underlying38 (hval 5 38 v5 rfl rfl)
 obtain⟨a5,rfl,l5⟩:∃ m:Nd,cs5=m.vals∧Lies W m:=by
  obtain⟨fuel,hf⟩:=h5
  exact Qeh hf (fun z hz=>by simpa using List.all_eq_true.1 hsz z (DataW.weights_mem_each (j:=5) (t:=38) (d:=d5) rfl rfl z hz))
 clear hA0 hval0
 refine (walk a0 a1 a2 a3 a4 a5 W l0 l1 l2 l3 l4 l5 (PE hL)).mono fun e W' ⟨he,bel⟩=>?_
 subst he
 exact⟨_,rfl,_,_,_,[],_,[],hW',trodAll_mk1 (shut_bool underlying4 _),(trodAll_cons_mk (Below.trod laidOut zK (of_decide_eq_true zK) k0 bel lt0) (trodAll_cons_mk (Below.trod laidOut zK (of_decide_eq_true zK) k1 bel lt1) (trodAll_cons_mk (Below.trod laidOut zK (of_decide_eq_true zK) k2 bel lt2) (trodAll_cons_mk (Below.trod laidOut zK (of_decide_eq_true zK) k3 bel lt3) (trodAll_cons_mk (Below.trod laidOut zK (of_decide_eq_true zK) k4 bel lt4) (trodAll_cons_mk (Below.trod laidOut zK (of_decide_eq_true zK) k5 bel lt5) trodAll_mk0)))))),rfl,bel.frame _,fun h=>by cases h⟩
theorem QgL:(Rows.meanLazyRow.wf (OpenSpec.ofChange Rows.meanLazySpec) && laidOutB zG && mapsRowed zG && Tryz.f3.params.all (Tryz.prog.readableRec ·) && namedTie zG Rows.meanLazyRow.named Rows.meanLazySpec.vars && (Rows.meanLazyRow.stops == []) && (Tryz.prog.stops == []) && (Rows.meanLazyRow.knobs == []) && (Tryz.prog.stopKnobs == []) && (Rows.meanLazyRow.inPlace == Tryz.prog.inPlace 3) && (Rows.meanLazyRow.unfollowed == Tryz.prog.unfollowed 3) && (Rows.meanLazyRow.recurses == Tryz.prog.recurses 3) && (Rows.meanLazyRow.named == Tryz.prog.varsNamed 3))=true:=by kernel_rfl
theorem QgK:(true && (Rows.meanLazyRow.maps == (Tryz.f3.params.toList ++ Rows.meanLazySpec.plain.varTypes zG).any (Tryz.prog.mapsRec ·)) && (Rows.meanLazyRow.ifaces == (Tryz.f3.params.toList ++ Rows.meanLazySpec.plain.varTypes zG).any (Tryz.prog.ifacesRec ·)) && (Rows.meanLazyRow.mapsOut == Tryz.prog.mapsAmong Tryz.f3.resultTypes.toList) && (Rows.meanLazyRow.loops == (Tryz.f3.params.toList ++ Rows.meanLazySpec.plain.varTypes zG).any (Tryz.prog.loopsFrom ·)) && (Rows.meanLazyRow.wideKeys == (Tryz.f3.params.toList ++ Rows.meanLazySpec.plain.varTypes zG ++ Tryz.f3.resultTypes.toList).any (Tryz.prog.wideKeysFrom ·)) && Rows.meanLazySpec.vars.all (Tryz.prog.varReadable ·) && Tryz.f3.resultTypes.all (fun t=>Tryz.prog.readableRec t && decide (t < Tryz.prog.types.size)) && (Rows.meanLazyRow.ifacesOut == Tryz.f3.resultTypes.toList.any (Tryz.prog.ifacesRec ·)) && (Rows.meanLazyRow.loopsOut == Tryz.f3.resultTypes.toList.any (Tryz.prog.loopsFrom ·)) && (Rows.meanLazyRow.plainKeys == Tryz.prog.plainKeys) && Rows.meanLazyRow.shortTexts.isNone && Tryz.prog.stopsHeard && Tryz.prog.mayEnter && (Rows.meanLazyRow.lifted == Tryz.prog.liftsFinal) && (Tryz.prog.make == some Rows.meanLazyRow.make) && (Rows.meanLazyRow.kinds == (if Rows.meanLazyRow.domain.isEmpty then [] else Tryz.f3.params.toList.map fun t=>match Tryz.prog.underlying t with | some (.int k)=>some k | _=>none)) && (Rows.meanLazyRow.pinned == Rows.meanLazyRow.pinnedBy) && (Rows.meanLazyRow.veiled == (Tryz.f3.params.toList ++ Rows.meanLazySpec.plain.varTypes zG ++ Tryz.f3.resultTypes.toList).any (Tryz.prog.veiledRec ·)) && Rows.meanLazyRow.veiledFits zG Tryz.f3.params.toList (Tryz.f3.params.toList ++ Rows.meanLazySpec.plain.varTypes zG ++ Tryz.f3.resultTypes.toList))=true:=by kernel_rfl
theorem closed:joinedFacts Tryz.pinned.checked.prog 3 Tryz.f3 Rows.meanLazySpec Rows.meanLazyRow=true :=
 (congrArg (fun x=>x && (Rows.meanLazyRow.maps == (Tryz.f3.params.toList ++ Rows.meanLazySpec.plain.varTypes zG).any (Tryz.prog.mapsRec ·)) && (Rows.meanLazyRow.ifaces == (Tryz.f3.params.toList ++ Rows.meanLazySpec.plain.varTypes zG).any (Tryz.prog.ifacesRec ·)) && (Rows.meanLazyRow.mapsOut == Tryz.prog.mapsAmong Tryz.f3.resultTypes.toList) && (Rows.meanLazyRow.loops == (Tryz.f3.params.toList ++ Rows.meanLazySpec.plain.varTypes zG).any (Tryz.prog.loopsFrom ·)) && (Rows.meanLazyRow.wideKeys == (Tryz.f3.params.toList ++ Rows.meanLazySpec.plain.varTypes zG ++ Tryz.f3.resultTypes.toList).any (Tryz.prog.wideKeysFrom ·)) && Rows.meanLazySpec.vars.all (Tryz.prog.varReadable ·) && Tryz.f3.resultTypes.all (fun t=>Tryz.prog.readableRec t && decide (t < Tryz.prog.types.size)) && (Rows.meanLazyRow.ifacesOut == Tryz.f3.resultTypes.toList.any (Tryz.prog.ifacesRec ·)) && (Rows.meanLazyRow.loopsOut == Tryz.f3.resultTypes.toList.any (Tryz.prog.loopsFrom ·)) && (Rows.meanLazyRow.plainKeys == Tryz.prog.plainKeys) && Rows.meanLazyRow.shortTexts.isNone && Tryz.prog.stopsHeard && Tryz.prog.mayEnter && (Rows.meanLazyRow.lifted == Tryz.prog.liftsFinal) && (Tryz.prog.make == some Rows.meanLazyRow.make) && (Rows.meanLazyRow.kinds == (if Rows.meanLazyRow.domain.isEmpty then [] else Tryz.f3.params.toList.map fun t=>match Tryz.prog.underlying t with | some (.int k)=>some k | _=>none)) && (Rows.meanLazyRow.pinned == Rows.meanLazyRow.pinnedBy) && (Rows.meanLazyRow.veiled == (Tryz.f3.params.toList ++ Rows.meanLazySpec.plain.varTypes zG ++ Tryz.f3.resultTypes.toList).any (Tryz.prog.veiledRec ·)) && Rows.meanLazyRow.veiledFits zG Tryz.f3.params.toList (Tryz.f3.params.toList ++ Rows.meanLazySpec.plain.varTypes zG ++ Tryz.f3.resultTypes.toList)) QgL).trans QgK
theorem over:Rows.meanLazyRow.holds Tryz.pinned (OpenSpec.ofChange Rows.meanLazySpec) :=
 OpenClaim.holds_of_wide 3 Tryz.f3 rfl rfl rfl rfl rfl rfl rfl ⟨rfl,rfl,rfl,rfl,rfl⟩ rfl rfl rfl rfl rfl zK func3 closed
  (of_decide_eq_true zK) (by unfold Func.isWrapper;first | (rw [if_pos (by decide +kernel)];kernel_rfl) | (rw [if_neg (by decide +kernel)];exact⟨rfl,rfl⟩))
  (fun os started H enc _=>lifted os started H enc)
theorem proved:Rows.MeanLazyCardSaid :=
 Claim7.holds_tied_plain_at .later [] [.handle,.data,.data] true Rows.meanLazyCard.stood.harness true
  over (fun _ h=>by cases h) zK (fun _ h=>by cases h) meanLazy_row_tie rfl ⟨rfl,rfl⟩ zK rfl
  (fun f fn hf hfn=>by
   obtain rfl:f=3:=Option.some.inj ((show Tryz.prog.funcNamed Rows.meanLazyRow.func=some 3 by kernel_rfl).symm.trans hf) |>.symm
   obtain rfl:fn=Tryz.f3:=(Option.some.inj (func3.symm.trans hfn)).symm
   exact⟨by kernel_rfl,fun j t ht=>by
    rw [params3] at ht
    rcases j with _ | j
    ·obtain rfl:t=26:=by simpa using ht.symm
     exact (show Tryz.prog.wantsStandIn 26=false by kernel_rfl)
    rcases j with _ | j
    ·obtain rfl:t=29:=by simpa using ht.symm
     exact (show Tryz.prog.wantsStandIn 29=false by kernel_rfl)
    rcases j with _ | j
    ·obtain rfl:t=31:=by simpa using ht.symm
     exact (show Tryz.prog.wantsStandIn 31=false by kernel_rfl)
    rcases j with _ | j
    ·obtain rfl:t=38:=by simpa using ht.symm
     exact (show Tryz.prog.wantsStandIn 38=false by kernel_rfl)
    rcases j with _ | j
    ·obtain rfl:t=38:=by simpa using ht.symm
     exact (show Tryz.prog.wantsStandIn 38=false by kernel_rfl)
    rcases j with _ | j
    ·obtain rfl:t=38:=by simpa using ht.symm
     exact (show Tryz.prog.wantsStandIn 38=false by kernel_rfl)
    simp at ht⟩)
  zK
#print axioms proved
end meanLazy
end Go.Proofs.YtfbjofnaghjmeaaGreatDoor
