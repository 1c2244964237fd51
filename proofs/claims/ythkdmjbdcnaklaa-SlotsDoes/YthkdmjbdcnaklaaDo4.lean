/-
  One act: All, and the look at all.
-/
import Derived.Test.YthkdmjbdcnaklaaDo0
import Derived.Deep.QuietTactic
import Derived.BigQuiet
namespace Go.Proofs.Ythkdmjbdcnaklaa
open Go.RowKit
set_option linter.unusedVariables false

variable {w w1 w2 w3 : World} {p p' : Pl} {f f' : Rf} {nr room : Nat} {q q' : Nat → List Nat} {th th' : Nat → Int}

set_option maxRecDepth 100000 in
theorem does_look (h : Both w p f nr room q th) (k row n v : Int) (h1 : ¬ k = 1) (h2 : ¬ k = 2) (h3 : ¬ k = 3) (h4 : ¬ k = 4) (h5 : ¬ k = 5) (h6 : ¬ k = 6) (h7 : ¬ k = 7) (h8 : ¬ k = 8) (h9 : ¬ k = 9) (h10 : ¬ k = 10) (h11 : ¬ k = 11) : DoesTo w p f nr room k row n v := by
  unfold DoesTo
  go_enter Try.func11, Try.ntmps11
  go_wp2_with fail
  refine (looks_any (h.quiet ((Mv.refl w _).alloc _))).mono ?_
  rintro e w1 ⟨rfl, m1⟩
  go_wp2_with fail
  go_ret
  exact ⟨by simp, aft_quiet h (((Mv.refl w _).alloc _).trans m1 (fun _ e => e.elim))⟩

set_option maxRecDepth 100000 in
theorem does_all (h : Both w p f nr room q th) (row n v : Int) : DoesTo w p f nr room 10 row n v := by
  have hq := h.a.qk
  have hqn := hq.nr
  unfold DoesTo
  obtain ⟨W, hW⟩ : ∃ W, w.alloc (.cells #[.int .i64 10, .int .i64 row, .int .i64 n, .int .i64 v] 38) = W := ⟨_, rfl⟩
  have m0 : Mv w W (fun _ => False) := hW ▸ (Mv.refl w _).alloc _
  have hbx := boxed4 (Mv.refl (w.alloc (.cells #[.int .i64 10, .int .i64 row, .int .i64 n, .int .i64 v] 38)) (fun _ => False)) (fun e => e)
  rw [hW] at hbx
  obtain ⟨b0, b1, b2, b3⟩ := hbx
  have hB := h.quiet m0
  have c0 := hB.r.a0
  have hdr : ∀ k : Nat, Mv W (W.drewN k) (fun _ => False) := fun k => ⟨rfl, rfl, rfl, Nat.le_refl _, fun _ _ _ => rfl⟩
  rcases row_cases row nr with ⟨i, rfl, hi⟩ | hn
  · have hb : (i : Int) < (nr : Int) := by omega
    have hb0 : decide (0 ≤ (i : Int)) = true := decide_eq_true (by omega)
    obtain ⟨ao, c, hV, hat⟩ := h.r.form hi
    have hv := hB.r.v hi
    have hrow := hB.r.row i hi
    rw [hV] at hv hrow
    go_enter Try.func11, Try.ntmps11
    go_wp2_with fail
    go_quiet (fail)
    go_wp2_with fail
    go_quiet (fail)
    go_wp2_with fail
    refine (goes_any (W.drewN _) p nr room q th i (q i) (hB.quiet (hdr _)).a ⟨.inl ⟨i, rfl, hi, rfl⟩⟩ ao c ((hdr _).row hrow (fun _ _ e => e))).mono ?_
    rintro e w1 ⟨rfl, m1⟩
    go_wp2_with fail
    go_ret
    exact ⟨by simp, aft_quiet h ((m0.trans (hdr _) (fun _ e => e.elim)).trans m1 (fun _ e => e.elim))⟩
  · by_cases h0 : 0 ≤ row
    · have hb : ¬ row < (nr : Int) := by omega
      have hd : decide (row < (nr : Int)) = false := decide_eq_false hb
      go_enter Try.func11, Try.ntmps11
      go_wp2_with fail
      go_quiet (fail)
      go_wp2_with fail
      refine (goes_any (W.drewN _) p nr room q th row [] (hB.quiet (hdr _)).a ⟨.inr ⟨hn, rfl⟩⟩ none 0 (Row.nil _ _ _ _)).mono ?_
      rintro e w1 ⟨rfl, m1⟩
      go_wp2_with fail
      go_ret
      exact ⟨by simp, aft_quiet h ((m0.trans (hdr _) (fun _ e => e.elim)).trans m1 (fun _ e => e.elim))⟩
    · have hd : decide (0 ≤ row) = false := decide_eq_false h0
      go_enter Try.func11, Try.ntmps11
      go_wp2_with fail
      go_quiet (fail)
      go_wp2_with fail
      refine (goes_any (W.drewN _) p nr room q th row [] (hB.quiet (hdr _)).a ⟨.inr ⟨hn, rfl⟩⟩ none 0 (Row.nil _ _ _ _)).mono ?_
      rintro e w1 ⟨rfl, m1⟩
      go_wp2_with fail
      go_ret
      exact ⟨by simp, aft_quiet h ((m0.trans (hdr _) (fun _ e => e.elim)).trans m1 (fun _ e => e.elim))⟩

end Go.Proofs.Ythkdmjbdcnaklaa
