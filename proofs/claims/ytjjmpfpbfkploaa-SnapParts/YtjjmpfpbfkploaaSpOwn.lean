/- Fold of two lists of feeds, one behind the other, is Fold of the first and then of the second, all of it or nothing; the mask is what Diff says, and of the two parts' fields together none else: for every snapshot and all lists. No condition. -/
import Derived.Test.YtjjmpfpbfkploaaRows
import Derived.Test.YtjjmpfpbfkploaaSp
import Derived.Test.YtjjmpfpbfkploaaOpn
import Derived.WalkKit
import Derived.ProofKit
import Derived.OpenShut
import Derived.ShutString
import Derived.ChangeOld
import Derived.Below
import Derived.SizedLaws
namespace Go.Proofs.Ytjjmpfpbfkploaa.snapParts
open Go.ChangeShapes Go.WideShapes Go.ChangeAt Go.RowKit
set_option linter.unusedVariables false

theorem own : ownKnob Try.prog.godebug = none := by kernel_rfl
theorem laidOut : laidOutB Try.prog = true := by kernel_rfl

theorem walk (a0 : Sn) (a1 : Option Addr) (len1 cap1 : Nat) (A1 : Nat → Fd) (a2 : Option Addr) (len2 cap2 : Nat) (A2 : Nat → Fd) (w : World) (w1 : Fds w a1 len1 A1 ∧ (a1 = none → len1 = 0 ∧ cap1 = 0) ∧ len1 ≤ 9223372036854775807) (w2 : Fds w a2 len2 A2 ∧ (a2 = none → len2 = 0 ∧ cap2 = 0) ∧ len2 ≤ 9223372036854775807) (r1 : len1 * 24 ≤ reachBytes) (r2 : len2 * 24 ≤ reachBytes) :
    Calls Try.prog 5 #[.agg (snA a0), .slice a1 len1 cap1, .slice a2 len2 cap2] w fun e w' => e = .returned (.bool true) ∧ Below w.heap.size w w' :=
  parts_all a0 a1 len1 cap1 A1 a2 len2 cap2 A2 w w1.1 w2.1 w1.2.1 w2.2.1 (by unfold reachBytes at r1 r2; omega)

set_option maxRecDepth 100000 in
theorem lifted (os : Os) (started : os.Started) (H : Type) (enc : TypeId × Value → H) :
    ReturnsInHanded {} Try.checked os 5 .any (Rows.snapPartsSpec.pre6 enc Try.prog Try.f5 Rows.snapPartsRow.domain false) (Rows.snapPartsSpec.post enc Try.prog Try.f5 false true false false) := by
  refine returnsInHanded_of_change_sized (C := Try.checked) own started (by kernel_rfl) Try.func5
    (ChangeSpec.witness6 (enc := enc) (C := Try.checked) false ⟨#[], #[.agg #[.int .i64 0, .int .i64 0, .int .i64 0, .int .i64 0, .int .i64 0, .int .i64 0], .slice none 0 0, .slice none 0 0], []⟩ 8 (by kernel_rfl) (by kernel_rfl) (by kernel_rfl) (by kernel_rfl)) ?_
  intro W base args ds gs before hval0 hW hcnd hsz0 _
  have hsz : (DataW.weightsEach Try.prog (Try.f5.params.toList ++ Rows.snapPartsSpec.plain.varTypes Try.prog) (ds ++ gs)).all (· ≤ reachBytes) = true := hsz0
  have hval : ∀ (j : Nat) t v, Try.f5.params[j]? = some t → args[j]? = some v → Value.okWide Try.prog W .any base t v := hval0
  have hW' := hW
  obtain ⟨p, q, hA0, hV, rfl, hfz, hnd⟩ := hW
  have hA : DataW.TrodAll enc Try.prog W 0 (fun _ => true) true Try.f5.params.toList args.toList ds p := hA0
  rw [Try.params5] at hA hval
  obtain ⟨v0, vs0, d0, ds0, p0, q0, hargs, rfl, rfl, h0, r0⟩ := trodAll_cons hA
  obtain ⟨v1, vs1, d1, ds1, p1, q1, rfl, rfl, rfl, h1, r1⟩ := trodAll_cons r0
  obtain ⟨v2, vs2, d2, ds2, p2, q2, rfl, rfl, rfl, h2, r2⟩ := trodAll_cons r1
  obtain ⟨rfl, rfl, rfl⟩ := trodAll_nil r2
  obtain rfl : args = #[v0, v1, v2] := by cases args; simp_all
  obtain ⟨rfl, rfl⟩ := trodVars_none hV
  have k0 := h0
  have lt0 : ∀ x ∈ p0, x.block < W.heap.size := by obtain ⟨m, hm⟩ := k0; exact DataW.trod_lt m _ _ _ hm
  have k1 := h1
  have lt1 : ∀ x ∈ p1, x.block < W.heap.size := by obtain ⟨m, hm⟩ := k1; exact DataW.trod_lt m _ _ _ hm
  have k2 := h2
  have lt2 : ∀ x ∈ p2, x.block < W.heap.size := by obtain ⟨m, hm⟩ := k2; exact DataW.trod_lt m _ _ _ hm
  obtain ⟨cs0, rfl, _⟩ := okWide_struct Try.underlying23 (hval 0 23 v0 rfl rfl)
  obtain ⟨a0, rfl⟩ : ∃ r, cs0 = snA r := by
    obtain ⟨fuel, hf⟩ := h0
    exact sn_in hf
  obtain ⟨a1, len1, cap1, rfl⟩ := okWide_slice Try.underlying25 (hval 1 25 v1 rfl rfl)
  obtain ⟨A1, w1⟩ : ∃ A, Fds W a1 len1 A ∧ (a1 = none → len1 = 0 ∧ cap1 = 0) ∧ len1 ≤ 9223372036854775807 := by
    obtain ⟨fuel, hf⟩ := h1
    exact fds_in hf
  obtain ⟨a2, len2, cap2, rfl⟩ := okWide_slice Try.underlying25 (hval 2 25 v2 rfl rfl)
  obtain ⟨A2, w2⟩ : ∃ A, Fds W a2 len2 A ∧ (a2 = none → len2 = 0 ∧ cap2 = 0) ∧ len2 ≤ 9223372036854775807 := by
    obtain ⟨fuel, hf⟩ := h2
    exact fds_in hf
  have z1 : len1 * 24 ≤ reachBytes := by
    obtain ⟨fuel, hf⟩ := h1
    rcases fds_len hf with e | ⟨elems, spare, e1, e2⟩
    · rw [e]; simp
    · have hd : d1 = .slice elems spare := e1
      have := sized_slice hsz (j := 1) (t := 25) (e := 66) (elems := elems) (spare := spare) rfl (by rw [hd]; rfl) Try.underlying25
      rw [show Try.prog.bytesOf 66 = 24 by kernel_rfl, e2] at this
      exact Nat.le_trans (Nat.mul_le_mul_right _ (Nat.le_add_right _ _)) this
  have z2 : len2 * 24 ≤ reachBytes := by
    obtain ⟨fuel, hf⟩ := h2
    rcases fds_len hf with e | ⟨elems, spare, e1, e2⟩
    · rw [e]; simp
    · have hd : d2 = .slice elems spare := e1
      have := sized_slice hsz (j := 2) (t := 25) (e := 66) (elems := elems) (spare := spare) rfl (by rw [hd]; rfl) Try.underlying25
      rw [show Try.prog.bytesOf 66 = 24 by kernel_rfl, e2] at this
      exact Nat.le_trans (Nat.mul_le_mul_right _ (Nat.le_add_right _ _)) this
  clear hA0 hval0
  refine (walk a0 a1 len1 cap1 A1 a2 len2 cap2 A2 W w1 w2 z1 z2).mono fun e W' ⟨he, bel⟩ => ?_
  subst he
  exact ⟨_, rfl, _, _, _, [], _, [], hW', trodAll_mk1 (shut_bool Try.underlying4 _), (trodAll_cons_mk (Below.trod laidOut (by kernel_rfl) (of_decide_eq_true (by kernel_rfl)) k0 bel lt0) (trodAll_cons_mk (Below.trod laidOut (by kernel_rfl) (of_decide_eq_true (by kernel_rfl)) k1 bel lt1) (trodAll_cons_mk (Below.trod laidOut (by kernel_rfl) (of_decide_eq_true (by kernel_rfl)) k2 bel lt2) trodAll_mk0))), rfl, bel.frame _, fun h => by cases h⟩

theorem over : Rows.snapPartsRow.holds Try.pinned (OpenSpec.ofChange Rows.snapPartsSpec) :=
  OpenClaim.holds_of_wide 5 Try.f5 rfl rfl rfl rfl rfl rfl rfl ⟨rfl, rfl, rfl, rfl, rfl⟩ rfl rfl rfl rfl rfl (by kernel_rfl) Try.func5 (by kernel_rfl)
    (of_decide_eq_true (by kernel_rfl)) (by unfold Func.isWrapper; first | (rw [if_pos (by decide +kernel)]; kernel_rfl) | (rw [if_neg (by decide +kernel)]; exact ⟨rfl, rfl⟩))
    (fun os started H enc _ => lifted os started H enc)

/-- The statement. -/
theorem proved : Rows.SnapPartsSaid := over
#print axioms proved
end Go.Proofs.Ytjjmpfpbfkploaa.snapParts
