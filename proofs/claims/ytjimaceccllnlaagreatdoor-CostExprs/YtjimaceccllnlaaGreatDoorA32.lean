/- Every expression weighs what the document says, of every expression that came in: the statement's call hands back true, in whatever memory, with the listed variables as the program lays them. -/
import Derived.Test.YtjimaceccllnlaaGreatDoorA0
import Derived.Test.YtjimaceccllnlaaGreatDoorRows
import Derived.Test.YtjimaceccllnlaaGreatDoorTie
import Derived.Test.YtjimaceccllnlaaGreatDoorCards
import Derived.Test.YtjimaceccllnlaaGreatDoorA21
import Derived.Test.YtjimaceccllnlaaGreatDoorA30
import Derived.Test.YtjimaceccllnlaaGreatDoorA31
import Derived.SevenTiedAt
import Derived.ChangeOld
import Derived.Below
import Derived.Stop.Joined
import Derived.WalkKit
import Derived.ProofKit
import Derived.OpenShut
import Derived.ShutString
import Derived.SizedLaws
namespace Go.Proofs.YtjimaceccllnlaaGreatDoor
set_option maxRecDepth 100000
set_option maxHeartbeats 16000000
open Go.RowKit
set_option linter.unusedVariables false
set_option linter.unusedSimpArgs false
theorem tabE_of_laid {W : World} (h : laidMetH zG Rows.costExprsRow.laid W) : Tab W ∧ FTab W ∧ Ety W := by
  have h2 : laidMet zG [("tripwire/lex.words", (Rows.laid_tripwire_lex_words : DataW Unit)), ("tripwire/types.fieldTypes", (Rows.laid_tripwire_types_fieldTypes : DataW Unit))] W ∧ handlesMet zG [("errors.errorType", (Rows.laid_errors_errorType : DataW Unit))] W := h
  refine ⟨?_, ?_, ?_⟩
  · have h3 := h2.1
    rw [tab_data] at h3
    exact txt_of_head (g := 2) (t := 265) (n := 41) (e := 9) zK zK zK zK zK zK h3
  · have h3 := laidMet.tail h2.1
    rw [ftab_data] at h3
    exact Lib.tabIs_of_head (g := 1) (t := 248) (n := 7) (e := 24) zK zK zK zK zK zK h3
  · obtain ⟨name, u, ty, e1, e2, e3, e4, e5⟩ : ∃ name u ty, (Rows.laid_errors_errorType : DataW Unit).handleName? = some name ∧ Option.map (fun x => x.snd) (Array.find? (fun x => x.fst == "internal/reflectlite.rtype") Tryz.prog.cutTypes) = some u ∧ ty < Tryz.prog.types.size ∧ Tryz.prog.rowNamed ty name = true ∧ World.var? zG W "errors.errorType" = some #[Value.iface u (Value.agg #[typeHandle zG ty])] := h2.2 _ (List.mem_singleton.2 rfl)
    have f1 : (Rows.laid_errors_errorType : DataW Unit).handleName? = some [101, 114, 114, 111, 114] := by kernel_rfl
    have f2 : Option.map (fun x => x.snd) (Array.find? (fun x => x.fst == "internal/reflectlite.rtype") Tryz.prog.cutTypes) = some 211 := by kernel_rfl
    obtain rfl := Option.some.inj (f1.symm.trans e1)
    obtain rfl := Option.some.inj (f2.symm.trans e2)
    obtain rfl := err_row ty e3 e4
    exact ety_of_var e5
set_option maxRecDepth 100000 in
theorem doorE_met (os : Os) (args : Array Value) : laidMetH zG Rows.costExprsRow.laid ((World.doorLaid zG 400 os).forCall (fun _ _ => 0) ⟨#[], args, []⟩).memory :=
  laidMetH_of_parts3 (fuel := 8) (laidMet_of_run' 8 zK zK) zK zK
namespace costExprs
open Go.ChangeShapes Go.WideShapes Go.ChangeAt Go.RowKit
open Go.ChangeMaps (open_string shut_string)
theorem own : ownKnob Tryz.prog.godebug = none := by kernel_rfl
theorem laidOut : laidOutB zG = true := by kernel_rfl
theorem walk (a0 : Nd) (w : World) (l0 : Lies w a0) (ht : Tab w ∧ FTab w ∧ Ety w) :
    Calls zG 3 #[.agg a0.vals] w fun e w' => e = .returned (.bool true) ∧ Below w§ w w' :=
  exprs16 a0 w l0 ht.1 ht.2.1 ht.2.2
set_option maxRecDepth 100000 in
theorem lifted (os : Os) (started : os.Started) (H : Type) (enc : TypeId × Value → H) :
    ReturnsInHanded {} Tryz.checked os 3 .any (fun w args => (Rows.costExprsSpec.pre enc zG Tryz.f3 [] false w args ∧ laidMetH zG Rows.costExprsRow.laid w) ∧ sizedMet enc zG Tryz.f3 (OpenSpec.ofChange Rows.costExprsSpec) false w args) (Rows.costExprsSpec.post enc zG Tryz.f3 false true false false) := by
  refine returnsInHanded_of_change_and (C := Tryz.checked) (X := fun w _ => laidMetH zG Rows.costExprsRow.laid w) (fun _ _ _ hh h => h.of_heap hh) own started zK Tryz.func3
    (ChangeSpec.witness_shaped (enc := enc) (C := Tryz.checked) (os := os) (X := fun w _ => laidMetH zG Rows.costExprsRow.laid w) false (World.doorLaid zG 400 os) #[.agg #[.int .u8 0, .int .u8 0, .int .u8 0, .int .i64 0, .int .u8 0, .string ByteArray.empty, .slice none 0 0, .int .i64 0]] 8 rfl (World.shaped_of_RefB zK zK) zK zK zK (doorE_met os _)) ?_
  intro W base args ds gs before hval0 hW _ hsz0 hL _
  have hsz : (DataW.weightsEach zG (Tryz.f3.params.toList ++ Rows.costExprsSpec.plain.varTypes Tryz.prog) (ds ++ gs)).all (· ≤ reachBytes) = true := hsz0
  have hval : ∀ (j : Nat) t v, Tryz.f3.params[j]? = some t → args[j]? = some v → Value.okWide zG W .any base t v := hval0
  have hW' := hW
  obtain ⟨p, q, hA0, hV, rfl, hfz, hnd⟩ := hW
  have hA : DataW.TrodAll enc zG W 0 (fun _ => true) true Tryz.f3.params.toList args.toList ds p := hA0
  rw [Tryz.params3] at hA hval
  obtain ⟨v0, vs0, d0, ds0, p0, q0, hargs, rfl, rfl, h0, r0⟩ := trodAll_cons hA
  obtain ⟨rfl, rfl, rfl⟩ := trodAll_nil r0
  obtain rfl : args = #[v0] := by cases args; simp_all
  obtain ⟨rfl, rfl⟩ := trodVars_none hV
  have k0 := h0
  have lt0 : ∀ x ∈ p0, x.block < W§ := by obtain ⟨m, hm⟩ := k0; exact DataW.trod_lt m _ _ _ hm
  obtain ⟨cs0, rfl, _⟩ := okWide_struct Tryz.underlying28 (hval 0 28 v0 rfl rfl)
  obtain ⟨a0, rfl, l0⟩ : ∃ m : Nd, cs0 = m.vals ∧ Lies W m := by
    obtain ⟨fuel, hf⟩ := h0
    exact nd_in hf (fun z hz => by simpa using List.all_eq_true.1 hsz z (DataW.weights_mem_each (j := 0) (t := 28) (d := d0) rfl rfl z hz))
  clear hA0 hval0
  refine (walk a0 W l0 (tabE_of_laid hL)).mono fun e W' ⟨he, bel⟩ => ?_
  subst he
  exact ⟨_, rfl, _, _, _, [], _, [], hW', trodAll_mk1 (shut_bool Tryz.underlying4 _), (trodAll_cons_mk (Below.trod laidOut zK (of_decide_eq_true zK) k0 bel lt0) trodAll_mk0), rfl, bel.frame _, fun h => by cases h⟩
theorem over : Rows.costExprsRow.holds Tryz.pinned (OpenSpec.ofChange Rows.costExprsSpec) :=
  OpenClaim.holds_of_wide 3 Tryz.f3 rfl rfl rfl rfl rfl rfl rfl ⟨rfl, rfl, rfl, rfl, rfl⟩ rfl rfl rfl rfl rfl zK Tryz.func3 zK
    (of_decide_eq_true zK) (by unfold Func.isWrapper; first | (rw [if_pos (by decide +kernel)]; kernel_rfl) | (rw [if_neg (by decide +kernel)]; exact ⟨rfl, rfl⟩))
    (fun os started H enc _ => lifted os started H enc)
theorem proved : Rows.CostExprsCardSaid :=
  Claim7.holds_tied_plain_at .later [] [.handle, .data, .data] true Rows.costExprsCard.stood.harness true
    over (fun _ h => by cases h) zK (fun _ h => by cases h) costExprs_row_tie rfl ⟨rfl, rfl⟩ zK rfl
    (fun f fn hf hfn => by
      obtain rfl : f = 3 := Option.some.inj ((show Tryz.prog.funcNamed Rows.costExprsRow.func = some 3 by kernel_rfl).symm.trans hf) |>.symm
      obtain rfl : fn = Tryz.f3 := (Option.some.inj (Tryz.func3.symm.trans hfn)).symm
      exact ⟨by kernel_rfl, fun j t ht => by
        rw [Tryz.params3] at ht
        rcases j with _ | j
        · obtain rfl : t = 28 := by simpa using ht.symm
          exact (show Tryz.prog.wantsStandIn 28 = false by kernel_rfl)
        simp at ht⟩)
    zK
#print axioms proved
end costExprs
end Go.Proofs.YtjimaceccllnlaaGreatDoor
