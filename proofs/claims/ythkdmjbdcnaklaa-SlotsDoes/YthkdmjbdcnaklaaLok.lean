/-
  The walk of looks: all rows are as they must be.
-/
import Derived.Test.YthkdmjbdcnaklaaRg
namespace Go.Proofs.Ythkdmjbdcnaklaa
open Go.RowKit
set_option linter.unusedVariables false

/-- Both arenas, of the same rows. -/
structure Both (w : World) (p : Pl) (f : Rf) (nr room : Nat) (q : Nat → List Nat) (th : Nat → Int) : Prop where
  a : RepI w p nr room q th
  r : RefAt w f nr room q th

theorem Both.quiet {w w' : World} {p : Pl} {f : Rf} {nr room : Nat} {q : Nat → List Nat} {th : Nat → Int} (h : Both w p f nr room q th) (m : Mv w w' (fun _ => False)) : Both w' p f nr room q th := ⟨h.a.quiet m, h.r.mv m (fun _ _ e => e)⟩

set_option maxRecDepth 100000 in
theorem looks_any {w : World} {p : Pl} {f : Rf} {nr room : Nat} {q : Nat → List Nat} {th : Nat → Int} (h : Both w p f nr room q th) :
    Calls Try.prog 14 #[.pointer (some ⟨p.A, 0, none⟩), .pointer (some ⟨f.A, 0, none⟩)] w fun e w' => e = .returned (.bool true) ∧ Mv w w' (fun _ => False) := by
  have hq := h.a.qk
  have hqn := hq.nr
  go_enter Try.func14, Try.ntmps14
  go_wp2_with fail
  go_loopw [5, 6] (fun vi _ wr => ∃ i : Nat, i ≤ nr ∧ i ≤ 40 ∧ vi = .int .i64 i ∧ Mv w wr (fun _ => False)) (fun vi _ _ => nr - (intOf vi).toNat)
  case atStart => exact ⟨0, by omega, by omega, rfl, Mv.refl _ _⟩
  case round =>
    obtain ⟨i, hi, hi40, rfl, hm⟩ := hrel
    have hw := h.quiet hm
    have c0 := hw.r.a0
    by_cases hlt : i < nr
    · have hb : (i : Int) < (nr : Int) := by omega
      by_cases h40 : i < 40
      · have hb4 : (i : Int) < 40 := by omega
        have hv := hw.r.v hlt
        obtain ⟨ao, c, hV, hat⟩ := hw.r.form hlt
        have hrow := hw.r.row i hlt
        rw [hV] at hv hrow
        have cG := goes_any wr p nr room q th i (q i) hw.a ⟨.inl ⟨i, rfl, hlt, rfl⟩⟩ ao c hrow
        go_wp2_with fail
        refine cG.mono ?_
        rintro e w1 ⟨rfl, m1⟩
        go_wp2_with fail
        go_round
        case rel => exact ⟨i + 1, by omega, by omega, by go_num, hm.trans m1 (fun _ e => e.elim)⟩
        case measure => simp [intOf]; omega
      · have hb4 : ¬ (i : Int) < 40 := by omega
        go_wp2_with fail
        refine (rep_freeI hw.a).mono ?_
        rintro e w1 ⟨rfl, m1⟩
        go_wp2_with fail
        refine (rfree (hw.quiet m1).r hq).mono ?_
        rintro e w2 ⟨rfl, rfl⟩
        go_wp2_with fail
        go_ret
        exact ⟨by simp, hm.trans m1 (fun _ e => e.elim)⟩
    · have hb : ¬ (i : Int) < (nr : Int) := by omega
      go_wp2_with fail
      refine (rep_freeI hw.a).mono ?_
      rintro e w1 ⟨rfl, m1⟩
      go_wp2_with fail
      refine (rfree (hw.quiet m1).r hq).mono ?_
      rintro e w2 ⟨rfl, rfl⟩
      go_wp2_with fail
      go_ret
      exact ⟨by simp, hm.trans m1 (fun _ e => e.elim)⟩

end Go.Proofs.Ythkdmjbdcnaklaa
