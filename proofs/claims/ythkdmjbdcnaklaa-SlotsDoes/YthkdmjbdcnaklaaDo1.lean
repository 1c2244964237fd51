/-
  One act: Free, Get, Row, Next, First, Len.
-/
import Derived.Test.YthkdmjbdcnaklaaDo0
namespace Go.Proofs.Ythkdmjbdcnaklaa
open Go.RowKit
set_option linter.unusedVariables false

variable {w w1 w2 w3 : World} {p p' : Pl} {f f' : Rf} {nr room : Nat} {q q' : Nat → List Nat} {th th' : Nat → Int}

set_option maxRecDepth 100000 in
theorem does_free (h : Both w p f nr room q th) (row n v : Int) : DoesTo w p f nr room 9 row n v := by
  have hq := h.a.qk
  have hx : ¬ Foot p w.heap.size := fun e => by have := h.a.lt _ e; omega
  unfold DoesTo
  · go_enter Try.func11, Try.ntmps11
    go_wp2_with fail
    refine (rep_freeI (h.quiet ((Mv.refl w _).alloc _)).a).mono ?_
    rintro e w1 ⟨rfl, m1⟩
    obtain ⟨b0, b1, b2, b3⟩ := boxed4 m1 (fun e => e)
    have hB := (h.quiet ((Mv.refl w _).alloc _)).quiet m1
    go_wp2_with fail
    refine (rfree hB.r hq).mono ?_
    rintro e w2 ⟨rfl, rfl⟩
    go_wp2_with fail
    go_ret
    exact ⟨by simp, aft_quiet h (((Mv.refl w _).alloc _).trans m1 (fun _ e => e.elim))⟩

set_option maxRecDepth 100000 in
theorem does_get (h : Both w p f nr room q th) (row n v : Int) : DoesTo w p f nr room 2 row n v := by
  have hq := h.a.qk
  have hx : ¬ Foot p w.heap.size := fun e => by have := h.a.lt _ e; omega
  unfold DoesTo
  rcases num_cases nr q n with ⟨i, k, m, hi, rfl, hk⟩ | hn
  · go_enter Try.func11, Try.ntmps11
    go_wp2_with fail
    refine (rep_get_yesI (h.quiet ((Mv.refl w _).alloc _)).a hi (some_mem hk)).mono ?_
    rintro e w1 ⟨rfl, rfl⟩
    go_wp2_with fail
    refine (rget_yes (h.quiet ((Mv.refl w _).alloc _)).r hq hi hk).mono ?_
    rintro e w2 ⟨rfl, rfl⟩
    go_wp2_with fail
    go_ret
    exact ⟨by simp, aft_quiet h ((Mv.refl w _).alloc _)⟩
  · go_enter Try.func11, Try.ntmps11
    go_wp2_with fail
    refine (rep_get_noI (h.quiet ((Mv.refl w _).alloc _)).a hn).mono ?_
    rintro e w1 ⟨rfl, rfl⟩
    go_wp2_with fail
    refine (rget_no (h.quiet ((Mv.refl w _).alloc _)).r hn).mono ?_
    rintro e w2 ⟨rfl, rfl⟩
    go_wp2_with fail
    go_ret
    exact ⟨by simp, aft_quiet h ((Mv.refl w _).alloc _)⟩

set_option maxRecDepth 100000 in
theorem does_row (h : Both w p f nr room q th) (row n v : Int) : DoesTo w p f nr room 5 row n v := by
  have hq := h.a.qk
  have hx : ¬ Foot p w.heap.size := fun e => by have := h.a.lt _ e; omega
  unfold DoesTo
  rcases num_cases nr q n with ⟨i, k, m, hi, rfl, hk⟩ | hn
  · go_enter Try.func11, Try.ntmps11
    go_wp2_with fail
    refine (rep_row (h.quiet ((Mv.refl w _).alloc _)).a hi (some_mem hk)).mono ?_
    rintro e w1 ⟨rfl, rfl⟩
    go_wp2_with fail
    refine (rrow_yes (h.quiet ((Mv.refl w _).alloc _)).r hq hi hk).mono ?_
    rintro e w2 ⟨rfl, rfl⟩
    go_wp2_with fail
    go_ret
    exact ⟨by simp, aft_quiet h ((Mv.refl w _).alloc _)⟩
  · go_enter Try.func11, Try.ntmps11
    go_wp2_with fail
    refine (rep_row_no (h.quiet ((Mv.refl w _).alloc _)).a hn).mono ?_
    rintro e w1 ⟨rfl, rfl⟩
    go_wp2_with fail
    refine (rrow_no (h.quiet ((Mv.refl w _).alloc _)).r hn).mono ?_
    rintro e w2 ⟨rfl, rfl⟩
    go_wp2_with fail
    go_ret
    exact ⟨by simp, aft_quiet h ((Mv.refl w _).alloc _)⟩

set_option maxRecDepth 100000 in
theorem does_next (h : Both w p f nr room q th) (row n v : Int) : DoesTo w p f nr room 7 row n v := by
  have hq := h.a.qk
  have hx : ¬ Foot p w.heap.size := fun e => by have := h.a.lt _ e; omega
  unfold DoesTo
  rcases num_cases nr q n with ⟨i, k, m, hi, rfl, hk⟩ | hn
  · go_enter Try.func11, Try.ntmps11
    go_wp2_with fail
    refine (rep_nextI (h.quiet ((Mv.refl w _).alloc _)).a hi hk).mono ?_
    rintro e w1 ⟨rfl, rfl⟩
    go_wp2_with fail
    refine (rnext_yes (h.quiet ((Mv.refl w _).alloc _)).r hq hi hk).mono ?_
    rintro e w2 ⟨rfl, rfl⟩
    go_wp2_with fail
    go_ret
    exact ⟨by simp, aft_quiet h ((Mv.refl w _).alloc _)⟩
  · go_enter Try.func11, Try.ntmps11
    go_wp2_with fail
    refine (rep_next_noI (h.quiet ((Mv.refl w _).alloc _)).a hn).mono ?_
    rintro e w1 ⟨rfl, rfl⟩
    go_wp2_with fail
    refine (rnext_no (h.quiet ((Mv.refl w _).alloc _)).r hn).mono ?_
    rintro e w2 ⟨rfl, rfl⟩
    go_wp2_with fail
    go_ret
    exact ⟨by simp, aft_quiet h ((Mv.refl w _).alloc _)⟩

set_option maxRecDepth 100000 in
theorem does_first (h : Both w p f nr room q th) (row n v : Int) : DoesTo w p f nr room 6 row n v := by
  have hq := h.a.qk
  have hx : ¬ Foot p w.heap.size := fun e => by have := h.a.lt _ e; omega
  unfold DoesTo
  rcases row_cases row nr with ⟨i, rfl, hi⟩ | hn
  · go_enter Try.func11, Try.ntmps11
    go_wp2_with fail
    refine (rep_firstI (h.quiet ((Mv.refl w _).alloc _)).a hi).mono ?_
    rintro e w1 ⟨rfl, rfl⟩
    go_wp2_with fail
    refine (rfirst_yes (h.quiet ((Mv.refl w _).alloc _)).r hi).mono ?_
    rintro e w2 ⟨rfl, rfl⟩
    go_wp2_with fail
    go_ret
    exact ⟨by simp, aft_quiet h ((Mv.refl w _).alloc _)⟩
  · go_enter Try.func11, Try.ntmps11
    go_wp2_with fail
    refine (rep_first_noI (h.quiet ((Mv.refl w _).alloc _)).a hn).mono ?_
    rintro e w1 ⟨rfl, rfl⟩
    go_wp2_with fail
    refine (rfirst_no (h.quiet ((Mv.refl w _).alloc _)).r hn).mono ?_
    rintro e w2 ⟨rfl, rfl⟩
    go_wp2_with fail
    go_ret
    exact ⟨by simp, aft_quiet h ((Mv.refl w _).alloc _)⟩

set_option maxRecDepth 100000 in
theorem does_len (h : Both w p f nr room q th) (row n v : Int) : DoesTo w p f nr room 8 row n v := by
  have hq := h.a.qk
  have hx : ¬ Foot p w.heap.size := fun e => by have := h.a.lt _ e; omega
  unfold DoesTo
  rcases row_cases row nr with ⟨i, rfl, hi⟩ | hn
  · go_enter Try.func11, Try.ntmps11
    go_wp2_with fail
    refine (rep_lenI (h.quiet ((Mv.refl w _).alloc _)).a hi).mono ?_
    rintro e w1 ⟨rfl, rfl⟩
    go_wp2_with fail
    refine (rlen_yes (h.quiet ((Mv.refl w _).alloc _)).r hi).mono ?_
    rintro e w2 ⟨rfl, rfl⟩
    go_wp2_with fail
    go_ret
    exact ⟨by simp, aft_quiet h ((Mv.refl w _).alloc _)⟩
  · go_enter Try.func11, Try.ntmps11
    go_wp2_with fail
    refine (rep_len_noI (h.quiet ((Mv.refl w _).alloc _)).a hn).mono ?_
    rintro e w1 ⟨rfl, rfl⟩
    go_wp2_with fail
    refine (rlen_no (h.quiet ((Mv.refl w _).alloc _)).r hn).mono ?_
    rintro e w2 ⟨rfl, rfl⟩
    go_wp2_with fail
    go_ret
    exact ⟨by simp, aft_quiet h ((Mv.refl w _).alloc _)⟩

end Go.Proofs.Ythkdmjbdcnaklaa
