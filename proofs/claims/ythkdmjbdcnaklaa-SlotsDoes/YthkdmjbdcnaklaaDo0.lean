/-
  What holds after one act on both arenas.
-/
import Derived.Test.YthkdmjbdcnaklaaLok
import Derived.Test.YthkdmjbdcnaklaaRi
import Derived.Test.YthkdmjbdcnaklaaClr
namespace Go.Proofs.Ythkdmjbdcnaklaa
open Go.RowKit
set_option linter.unusedVariables false

/-- Both arenas stand again, and nothing else has moved. -/
structure Aft (w : World) (p : Pl) (f : Rf) (nr room : Nat) (w' : World) : Prop where
  ex : ∃ (p' : Pl) (f' : Rf) (q' : Nat → List Nat) (th' : Nat → Int), Both w' p' f' nr room q' th' ∧ p'.A = p.A ∧ f'.A = f.A ∧ Mv w w' (fun k => Foot p k ∨ RFoot f nr k) ∧
    (∀ k, Foot p' k → Foot p k ∨ w.heap.size ≤ k) ∧ ∀ k, RFoot f' nr k → RFoot f nr k ∨ w.heap.size ≤ k

variable {w w1 w2 w3 : World} {p p' : Pl} {f f' : Rf} {nr room : Nat} {q q' : Nat → List Nat} {th th' : Nat → Int}

theorem aft_quiet (h : Both w p f nr room q th) (m : Mv w w1 (fun _ => False)) : Aft w p f nr room w1 :=
  ⟨p, f, q, th, h.quiet m, rfl, rfl, m.mono (fun _ e => e.elim), fun _ e => .inl e, fun _ e => .inl e⟩

theorem ref_on (h : Both w1 p f nr room q th) (s : Stp w1 p w2 p') : RefAt w2 f nr room q th := h.r.mv s.mv (fun k hk => foot_apart h.r h.a hk)

theorem aft_two (h : Both w p f nr room q th) (m0 : Mv w w1 (fun _ => False)) (ha : RepI w2 p' nr room q' th') (s : Stp w1 p w2 p') (hr : RefAt w3 f' nr room q' th') (s' : RStp w2 f w3 f' nr) : Aft w p f nr room w3 := by
  have h1 := h.quiet m0
  have hr2 := ref_on h1 s
  refine ⟨p', f', q', th', ⟨ha.mv s'.mv (fun k hk hk' => foot_apart hr2 ha hk' hk), hr⟩, s.A, s'.A, ?_, fun k hk => (s.foot k hk).elim .inl (fun e => .inr (Nat.le_trans m0.size e)), fun k hk => (s'.foot k hk).elim .inl (fun e => .inr (Nat.le_trans m0.size (Nat.le_trans s.mv.size e)))⟩
  exact ((m0.mono (fun _ e => e.elim)).trans s.mv (fun b e => .inl (.inl e))).trans s'.mv (fun b e => .inl (.inr e))

theorem full_all (h : RepI w p nr room q th) (hf : total q nr = room) : ∀ n, n < room → ∃ j, j < nr ∧ n ∈ q j := by
  obtain ⟨s, a, v, rfl, hrm, t⟩ := h.ex
  intro n hn
  have h1 := v.nc
  have h2 := v.cnt
  have hnc : n < s.nc := by omega
  have hne : s.rw n ≠ -1 := by
    intro e
    obtain ⟨k, hk, _⟩ := (v.fr n).2 ⟨n, rfl, hnc, e⟩
    omega
  obtain ⟨j, hj, _, hmem⟩ := v.all n hnc hne
  exact ⟨j, hj, hmem⟩

theorem boxed4 {F : Nat → Prop} {a b c d : Value} (m : Mv (w.alloc (.cells #[a, b, c, d] 38)) w1 F) (hF : ¬ F w.heap.size) :
    w1.cell? ⟨w.heap.size, 0, none⟩ = some a ∧ w1.cell? ⟨w.heap.size, 1, none⟩ = some b ∧ w1.cell? ⟨w.heap.size, 2, none⟩ = some c ∧ w1.cell? ⟨w.heap.size, 3, none⟩ = some d := by
  have e : w1.heap[w.heap.size]? = some (.cells #[a, b, c, d] 38 (0, 0)) := (m.block _ (by simp) hF).trans (heap_al w _)
  exact ⟨(own_cell e).1, (own_cell e).1, (own_cell e).1, (own_cell e).1⟩

/-- One act does what it must. -/
def DoesTo (w : World) (p : Pl) (f : Rf) (nr room : Nat) (k row n v : Int) : Prop :=
  Calls Try.prog 11 #[.pointer (some ⟨p.A, 0, none⟩), .pointer (some ⟨f.A, 0, none⟩), .agg #[.int .i64 k, .int .i64 row, .int .i64 n, .int .i64 v]] w fun e w' => e = .returned (.bool true) ∧ Aft w p f nr room w'

end Go.Proofs.Ythkdmjbdcnaklaa
