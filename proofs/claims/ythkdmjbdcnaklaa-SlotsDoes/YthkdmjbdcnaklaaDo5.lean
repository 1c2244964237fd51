/-
  One act, whichever it is; what holds between two acts.
-/
import Derived.Test.YthkdmjbdcnaklaaDo1
import Derived.Test.YthkdmjbdcnaklaaDo2
import Derived.Test.YthkdmjbdcnaklaaDo3
import Derived.Test.YthkdmjbdcnaklaaDo4
namespace Go.Proofs.Ythkdmjbdcnaklaa
open Go.RowKit
set_option linter.unusedVariables false

variable {w wr w' : World} {p p' : Pl} {f f' : Rf} {nr room : Nat} {q q' : Nat → List Nat} {th th' : Nat → Int}

theorem does_any (h : Both w p f nr room q th) (k row n v : Int) : DoesTo w p f nr room k row n v := by
  by_cases h1 : k = 1
  · subst h1; exact does_push h row n v
  by_cases h2 : k = 2
  · subst h2; exact does_get h row n v
  by_cases h3 : k = 3
  · subst h3; exact does_set h row n v
  by_cases h4 : k = 4
  · subst h4; exact does_take h row n v
  by_cases h5 : k = 5
  · subst h5; exact does_row h row n v
  by_cases h6 : k = 6
  · subst h6; exact does_first h row n v
  by_cases h7 : k = 7
  · subst h7; exact does_next h row n v
  by_cases h8 : k = 8
  · subst h8; exact does_len h row n v
  by_cases h9 : k = 9
  · subst h9; exact does_free h row n v
  by_cases h10 : k = 10
  · subst h10; exact does_all h row n v
  by_cases h11 : k = 11
  · subst h11; exact does_clear h row n v
  exact does_look h k row n v h1 h2 h3 h4 h5 h6 h7 h8 h9 h10 h11

/-- Between two acts: both arenas stand at A0 and F0, and the arena of texts beside them holds its one thing. -/
structure MI (w wr : World) (nr room A0 F0 : Nat) (pb : Pl) (nb : Nat) (thb : Nat → ByteArray) : Prop where
  mv : Mv w wr (fun _ => False)
  ex : ∃ (p : Pl) (f : Rf) (q : Nat → List Nat) (th : Nat → Int), Both wr p f nr room q th ∧ p.A = A0 ∧ f.A = F0 ∧ (∀ k, Foot p k → w.heap.size ≤ k ∧ ¬ Foot pb k) ∧ ∀ k, RFoot f nr k → w.heap.size ≤ k
  b : RepS wr pb 1 3 (upd (fun _ => []) 0 ([] ++ [nb])) thb

theorem MI.does {A0 F0 : Nat} {pb : Pl} {nb : Nat} {thb : Nat → ByteArray} (h : MI w wr nr room A0 F0 pb nb thb) (k row n v : Int) :
    Calls Try.prog 11 #[.pointer (some ⟨A0, 0, none⟩), .pointer (some ⟨F0, 0, none⟩), .agg #[.int .i64 k, .int .i64 row, .int .i64 n, .int .i64 v]] wr fun e w' => e = .returned (.bool true) ∧ MI w w' nr room A0 F0 pb nb thb := by
  obtain ⟨p, f, q, th, hB, rfl, rfl, hp, hf⟩ := h.ex
  refine Calls.mono (does_any hB k row n v) ?_
  rintro e w' ⟨he, ⟨p', f', q', th', hB', hA', hF', m, fp, ff⟩⟩
  have hs := h.mv.size
  refine ⟨he, h.mv.trans m ?_, ⟨p', f', q', th', hB', hA', hF', fun k hk => ?_, fun k hk => ?_⟩, h.b.mv m ?_⟩
  · rintro b (e | e)
    · exact .inr (hp b e).1
    · exact .inr (hf b e)
  · rcases fp k hk with e | e
    · exact hp k e
    · exact ⟨by omega, fun e' => by have := h.b.lt k e'; omega⟩
  · rcases ff k hk with e | e
    · exact hf k e
    · omega
  · rintro k hk (e | e)
    · exact (hp k e).2 hk
    · exact foot_apartS hB.r h.b e hk

theorem MI.looks {A0 F0 : Nat} {pb : Pl} {nb : Nat} {thb : Nat → ByteArray} (h : MI w wr nr room A0 F0 pb nb thb) :
    Calls Try.prog 14 #[.pointer (some ⟨A0, 0, none⟩), .pointer (some ⟨F0, 0, none⟩)] wr fun e w' => e = .returned (.bool true) ∧ Mv w w' (fun _ => False) := by
  obtain ⟨p, f, q, th, hB, rfl, rfl, hp, hf⟩ := h.ex
  exact (looks_any hB).mono fun e w' ⟨he, m⟩ => ⟨he, h.mv.trans m (fun _ e => e.elim)⟩

end Go.Proofs.Ythkdmjbdcnaklaa
