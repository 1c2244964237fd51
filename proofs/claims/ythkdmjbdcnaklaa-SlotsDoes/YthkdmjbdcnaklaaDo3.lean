/-
  One act: Take.
-/
import Derived.Test.YthkdmjbdcnaklaaDo0
import Derived.Test.YthkdmjbdcnaklaaRk
namespace Go.Proofs.Ythkdmjbdcnaklaa
open Go.RowKit
set_option linter.unusedVariables false

variable {w w1 w2 w3 : World} {p p' : Pl} {f f' : Rf} {nr room : Nat} {q q' : Nat → List Nat} {th th' : Nat → Int}

set_option maxRecDepth 100000 in
theorem does_take (h : Both w p f nr room q th) (row n v : Int) : DoesTo w p f nr room 4 row n v := by
  have hq := h.a.qk
  have hx : ¬ Foot p w.heap.size := fun e => by have := h.a.lt _ e; omega
  unfold DoesTo
  rcases num_cases nr q n with ⟨i, k, m, hi, rfl, hk⟩ | hn
  · go_enter Try.func11, Try.ntmps11
    go_wp2_with fail
    refine (rep_takeI (h.quiet ((Mv.refl w _).alloc _)).a hi hk).mono ?_
    rintro e w1 ⟨rfl, p1, a1, s1⟩
    obtain ⟨b0, b1, b2, b3⟩ := boxed4 s1.mv hx
    have hR := ref_on (h.quiet ((Mv.refl w _).alloc _)) s1
    go_wp2_with fail
    refine (rtake hR hq hi hk).mono ?_
    rintro e w2 ⟨rfl, f1, r2, s2⟩
    go_wp2_with fail
    go_ret
    exact ⟨by simp, aft_two h ((Mv.refl w _).alloc _) a1 s1 r2 s2⟩
  · go_enter Try.func11, Try.ntmps11
    go_wp2_with fail
    refine (rep_take_noI (h.quiet ((Mv.refl w _).alloc _)).a hn).mono ?_
    rintro e w1 ⟨rfl, rfl⟩
    go_wp2_with fail
    refine (rtake_no (h.quiet ((Mv.refl w _).alloc _)).r hn).mono ?_
    rintro e w2 ⟨rfl, rfl⟩
    go_wp2_with fail
    go_ret
    exact ⟨by simp, aft_quiet h ((Mv.refl w _).alloc _)⟩

end Go.Proofs.Ythkdmjbdcnaklaa
