/-
  One act: Set, Clear, Push.
-/
import Derived.Test.YthkdmjbdcnaklaaDo0
import Derived.Test.YthkdmjbdcnaklaaRh
namespace Go.Proofs.Ythkdmjbdcnaklaa
open Go.RowKit
set_option linter.unusedVariables false

variable {w w1 w2 w3 : World} {p p' : Pl} {f f' : Rf} {nr room : Nat} {q q' : Nat → List Nat} {th th' : Nat → Int}

set_option maxRecDepth 100000 in
theorem does_set (h : Both w p f nr room q th) (row n v : Int) : DoesTo w p f nr room 3 row n v := by
  have hq := h.a.qk
  have hx : ¬ Foot p w.heap.size := fun e => by have := h.a.lt _ e; omega
  unfold DoesTo
  rcases num_cases nr q n with ⟨i, k, m, hi, rfl, hk⟩ | hn
  · go_enter Try.func11, Try.ntmps11
    go_wp2_with fail
    refine (rep_set (h.quiet ((Mv.refl w _).alloc _)).a hi (some_mem hk) v).mono ?_
    rintro e w1 ⟨rfl, a1, s1⟩
    obtain ⟨b0, b1, b2, b3⟩ := boxed4 s1.mv hx
    have hR := ref_on (h.quiet ((Mv.refl w _).alloc _)) s1
    go_wp2_with fail
    refine (rset_yes hR hq hi hk v).mono ?_
    rintro e w2 ⟨rfl, r2, s2⟩
    go_wp2_with fail
    go_ret
    exact ⟨by simp, aft_two h ((Mv.refl w _).alloc _) a1 s1 r2 s2⟩
  · go_enter Try.func11, Try.ntmps11
    go_wp2_with fail
    refine (rep_set_no (h.quiet ((Mv.refl w _).alloc _)).a hn v).mono ?_
    rintro e w1 ⟨rfl, rfl⟩
    go_wp2_with fail
    refine (rset_no (h.quiet ((Mv.refl w _).alloc _)).r hn v).mono ?_
    rintro e w2 ⟨rfl, rfl⟩
    go_wp2_with fail
    go_ret
    exact ⟨by simp, aft_quiet h ((Mv.refl w _).alloc _)⟩

set_option maxRecDepth 100000 in
theorem does_clear (h : Both w p f nr room q th) (row n v : Int) : DoesTo w p f nr room 11 row n v := by
  have hq := h.a.qk
  have hx : ¬ Foot p w.heap.size := fun e => by have := h.a.lt _ e; omega
  unfold DoesTo
  rcases row_cases row nr with ⟨i, rfl, hi⟩ | hn
  · go_enter Try.func11, Try.ntmps11
    go_wp2_with fail
    refine (rep_clear (h.quiet ((Mv.refl w _).alloc _)).a hi).mono ?_
    rintro e w1 ⟨rfl, p1, a1, s1⟩
    obtain ⟨b0, b1, b2, b3⟩ := boxed4 s1.mv hx
    have hR := ref_on (h.quiet ((Mv.refl w _).alloc _)) s1
    go_wp2_with fail
    refine (rclear_yes hR hq hi).mono ?_
    rintro e w2 ⟨rfl, f1, r2, s2⟩
    go_wp2_with fail
    go_ret
    exact ⟨by simp, aft_two h ((Mv.refl w _).alloc _) a1 s1 r2 s2⟩
  · go_enter Try.func11, Try.ntmps11
    go_wp2_with fail
    refine (rep_clear_no (h.quiet ((Mv.refl w _).alloc _)).a hn).mono ?_
    rintro e w1 ⟨rfl, rfl⟩
    go_wp2_with fail
    refine (rclear_no (h.quiet ((Mv.refl w _).alloc _)).r hn).mono ?_
    rintro e w2 ⟨rfl, rfl⟩
    go_wp2_with fail
    go_ret
    exact ⟨by simp, aft_quiet h ((Mv.refl w _).alloc _)⟩

set_option maxRecDepth 100000 in
theorem does_push (h : Both w p f nr room q th) (row n v : Int) : DoesTo w p f nr room 1 row n v := by
  have hq := h.a.qk
  have hx : ¬ Foot p w.heap.size := fun e => by have := h.a.lt _ e; omega
  unfold DoesTo
  rcases row_cases row nr with ⟨i, rfl, hi⟩ | hn
  · by_cases hf : total q nr = room
    · go_enter Try.func11, Try.ntmps11
      go_wp2_with fail
      refine (rep_push_fullI (h.quiet ((Mv.refl w _).alloc _)).a hi (by omega) v).mono ?_
      rintro e w1 ⟨rfl, m1⟩
      obtain ⟨b0, b1, b2, b3⟩ := boxed4 m1 (fun e => e)
      have hB := (h.quiet ((Mv.refl w _).alloc _)).quiet m1
      go_wp2_with fail
      refine (rpush_full hB.r hq hi (full_all h.a hf) v).mono ?_
      rintro e w2 ⟨rfl, rfl⟩
      go_wp2_with fail
      go_ret
      exact ⟨by simp, aft_quiet h (((Mv.refl w _).alloc _).trans m1 (fun _ e => e.elim))⟩

    · have hlt : (total q nr : Int) < room := by have := hq.tot; omega
      go_enter Try.func11, Try.ntmps11
      go_wp2_with fail
      refine (rep_pushI (h.quiet ((Mv.refl w _).alloc _)).a hi hlt v).mono ?_
      rintro e w1 ⟨m, hm, rfl, p1, a1, s1⟩
      obtain ⟨b0, b1, b2, b3⟩ := boxed4 s1.mv hx
      have hR := ref_on (h.quiet ((Mv.refl w _).alloc _)) s1
      have hmr : m < room := by have := a1.below hi (n := m) (by rw [upd_same]; simp); omega
      go_wp2_with fail
      refine (rpush hR hq hi hm hmr v).mono ?_
      rintro e w2 ⟨rfl, f1, r2, s2⟩
      go_wp2_with fail
      go_ret
      exact ⟨by simp, aft_two h ((Mv.refl w _).alloc _) a1 s1 r2 s2⟩

  · go_enter Try.func11, Try.ntmps11
    go_wp2_with fail
    refine (rep_push_badI (h.quiet ((Mv.refl w _).alloc _)).a hn v).mono ?_
    rintro e w1 ⟨rfl, rfl⟩
    go_wp2_with fail
    refine (rpush_bad (h.quiet ((Mv.refl w _).alloc _)).r hn v).mono ?_
    rintro e w2 ⟨rfl, rfl⟩
    go_wp2_with fail
    go_ret
    exact ⟨by simp, aft_quiet h ((Mv.refl w _).alloc _)⟩

end Go.Proofs.Ythkdmjbdcnaklaa
