/-
  literal, has: nodes without kids.
-/
import Derived.Test.YtkfabnchhjfjjabGreatDoorRt
import Derived.Test.YtkfabnchhjfjjabGreatDoorRw
namespace Go.Proofs.YtkfabnchhjfjjabGreatDoor
open Go.RowKit
mutual
/-- The expression that a node is, wherever it lies. -/
def treeOf : Nd → Tr
  | .mk h _ _ ks => .mk h (treesOf ks)
def treesOf : List Nd → List Tr
  | [] => []
  | k :: ks => treeOf k :: treesOf ks
end
/-- All kids' blocks are such. -/
inductive Bkn (P : Nat → Prop) : Nd → Prop
  | mk (h : Hd) (a : Option Addr) (c : Nat) (ks : List Nd) (hk : ∀ b o, a = some ⟨b, o, none⟩ → P b) (hs : ∀ k ∈ ks, Bkn P k) : Bkn P (.mk h a c ks)
theorem Bkn.mono {P Q : Nat → Prop} {m : Nd} (h : Bkn P m) (k : ∀ b, P b → Q b) : Bkn Q m := by
  induction h with
  | mk h a c ks hk hs ih => exact .mk h a c ks (fun b o e => k b (hk b o e)) ih
/-- What a call that reads an expression hands back, or gives up with. -/
def OutN (b G : Nat) (fa : Int) (fe : Value) (d : Nat) (w : World) (r : Except Ft (Tr × List Tk)) (e : Ending) (w' : World) : Prop :=
  match r with
  | .ok (t, ts) => (∃ m, e = .returned (.agg m.vals) ∧ treeOf m = t ∧ Lies w' m ∧ Bkn (fun k => w.heap.size ≤ k ∧ k < w'.heap.size) m) ∧ (∃ a c, Rdr w' b G ts fa fe d a c) ∧ Mv w w' (fun k => k = b)
  | .error f => e = pan (ftV fa fe f) ∧ Mv w w' (fun k => k = b)
theorem put8 {w : World} {b : Nat} {a0 a1 a2 a3 a4 a5 a6 a7 : Value} (h : w.heap[b]? = some (.cells #[a0, a1, a2, a3, a4, a5, a6, a7] 52 (0, 0))) (v0 v1 v2 v3 v4 v5 v6 v7 : Value) :
    ((((((((w.setCell ⟨b, 0, none⟩ v0).setCell ⟨b, 1, none⟩ v1).setCell ⟨b, 2, none⟩ v2).setCell ⟨b, 3, none⟩ v3).setCell ⟨b, 4, none⟩ v4).setCell ⟨b, 5, none⟩ v5).setCell ⟨b, 6, none⟩ v6).setCell ⟨b, 7, none⟩ v7).heap[b]? = some (.cells #[v0, v1, v2, v3, v4, v5, v6, v7] 52 (0, 0)) := by
  have h1 : (w.setCell ⟨b, 0, none⟩ v0).heap[b]? = some (.cells #[v0, a1, a2, a3, a4, a5, a6, a7] 52 (0, 0)) := heap_set v0 h
  have h2 : ((w.setCell ⟨b, 0, none⟩ v0).setCell ⟨b, 1, none⟩ v1).heap[b]? = some (.cells #[v0, v1, a2, a3, a4, a5, a6, a7] 52 (0, 0)) := heap_set v1 h1
  have h3 : (((w.setCell ⟨b, 0, none⟩ v0).setCell ⟨b, 1, none⟩ v1).setCell ⟨b, 2, none⟩ v2).heap[b]? = some (.cells #[v0, v1, v2, a3, a4, a5, a6, a7] 52 (0, 0)) := heap_set v2 h2
  have h4 : ((((w.setCell ⟨b, 0, none⟩ v0).setCell ⟨b, 1, none⟩ v1).setCell ⟨b, 2, none⟩ v2).setCell ⟨b, 3, none⟩ v3).heap[b]? = some (.cells #[v0, v1, v2, v3, a4, a5, a6, a7] 52 (0, 0)) := heap_set v3 h3
  have h5 : (((((w.setCell ⟨b, 0, none⟩ v0).setCell ⟨b, 1, none⟩ v1).setCell ⟨b, 2, none⟩ v2).setCell ⟨b, 3, none⟩ v3).setCell ⟨b, 4, none⟩ v4).heap[b]? = some (.cells #[v0, v1, v2, v3, v4, a5, a6, a7] 52 (0, 0)) := heap_set v4 h4
  have h6 : ((((((w.setCell ⟨b, 0, none⟩ v0).setCell ⟨b, 1, none⟩ v1).setCell ⟨b, 2, none⟩ v2).setCell ⟨b, 3, none⟩ v3).setCell ⟨b, 4, none⟩ v4).setCell ⟨b, 5, none⟩ v5).heap[b]? = some (.cells #[v0, v1, v2, v3, v4, v5, a6, a7] 52 (0, 0)) := heap_set v5 h5
  have h7 : (((((((w.setCell ⟨b, 0, none⟩ v0).setCell ⟨b, 1, none⟩ v1).setCell ⟨b, 2, none⟩ v2).setCell ⟨b, 3, none⟩ v3).setCell ⟨b, 4, none⟩ v4).setCell ⟨b, 5, none⟩ v5).setCell ⟨b, 6, none⟩ v6).heap[b]? = some (.cells #[v0, v1, v2, v3, v4, v5, v6, a7] 52 (0, 0)) := heap_set v6 h6
  have h8 : ((((((((w.setCell ⟨b, 0, none⟩ v0).setCell ⟨b, 1, none⟩ v1).setCell ⟨b, 2, none⟩ v2).setCell ⟨b, 3, none⟩ v3).setCell ⟨b, 4, none⟩ v4).setCell ⟨b, 5, none⟩ v5).setCell ⟨b, 6, none⟩ v6).setCell ⟨b, 7, none⟩ v7).heap[b]? = some (.cells #[v0, v1, v2, v3, v4, v5, v6, v7] 52 (0, 0)) := heap_set v7 h7
  exact h8
theorem oth8 (w : World) {b c : Nat} (h : c ≠ b) (v0 v1 v2 v3 v4 v5 v6 v7 : Value) : ((((((((w.setCell ⟨b, 0, none⟩ v0).setCell ⟨b, 1, none⟩ v1).setCell ⟨b, 2, none⟩ v2).setCell ⟨b, 3, none⟩ v3).setCell ⟨b, 4, none⟩ v4).setCell ⟨b, 5, none⟩ v5).setCell ⟨b, 6, none⟩ v6).setCell ⟨b, 7, none⟩ v7).heap[c]? = w.heap[c]? := by
  iterate 8 (refine (Below.heap_setCell _ _ _ _ (show c ≠ b from h)).trans ?_)
  rfl
/-- The world behind a node's eight cells. -/
theorem fin8 {U : World} {b : Nat} {a0 a1 a2 a3 a4 a5 a6 a7 : Value} (h : U.heap[b]? = some (.cells #[a0, a1, a2, a3, a4, a5, a6, a7] 52 (0, 0))) (v0 v1 v2 v3 v4 v5 v6 v7 : Value) :
    ∃ Y, ((((((((U.setCell ⟨b, 0, none⟩ v0).setCell ⟨b, 1, none⟩ v1).setCell ⟨b, 2, none⟩ v2).setCell ⟨b, 3, none⟩ v3).setCell ⟨b, 4, none⟩ v4).setCell ⟨b, 5, none⟩ v5).setCell ⟨b, 6, none⟩ v6).setCell ⟨b, 7, none⟩ v7) = Y ∧ Y.heap[b]? = some (.cells #[v0, v1, v2, v3, v4, v5, v6, v7] 52 (0, 0)) ∧ Y.heap.size = U.heap.size ∧ (∀ k, k ≠ b → Y.heap[k]? = U.heap[k]?) ∧ (∀ (w : World) (F : Nat → Prop), Mv w U F → w.heap.size ≤ b → Mv w Y F) := by
  refine ⟨_, rfl, put8 h _ _ _ _ _ _ _ _, ?_, fun k hk => oth8 _ hk _ _ _ _ _ _ _ _, fun w F m hb => ?_⟩
  · simp [World.setCell]
  · exact (((((((m.setCell (a := ⟨b, 0, none⟩) (.inr hb) v0).setCell (a := ⟨b, 1, none⟩) (.inr hb) v1).setCell (a := ⟨b, 2, none⟩) (.inr hb) v2).setCell (a := ⟨b, 3, none⟩) (.inr hb) v3).setCell (a := ⟨b, 4, none⟩) (.inr hb) v4).setCell (a := ⟨b, 5, none⟩) (.inr hb) v5).setCell (a := ⟨b, 6, none⟩) (.inr hb) v6).setCell (a := ⟨b, 7, none⟩) (.inr hb) v7
theorem Rdr.blk {w w' : World} {b G : Nat} {ts : List Tk} {fa : Int} {fe : Value} {d : Nat} {a : Option Addr} {c : Nat} (h : Rdr w b G ts fa fe d a c) (h1 : w'.heap[b]? = w.heap[b]?) (h2 : w'.heap[G]? = w.heap[G]?) (hs : w.heap.size ≤ w'.heap.size) : Rdr w' b G ts fa fe d a c :=
  ⟨h1.trans h.h, h.l, h.m, h.n, h.gb, Nat.lt_of_lt_of_le h.gl hs, fun i hi => by
    obtain ⟨o, e, ht⟩ := h.r i hi
    exact ⟨o, e, ht.blk h2⟩⟩
/-- A node without kids lies anywhere. -/
theorem lies0 (w : World) {h : Hd} (hr : Rg h) : Lies w (.mk h none 0 []) := .mk h none 0 [] hr (by simp) (by simp) (fun i hi => by simp at hi) (fun k hk => by simp at hk)
theorem bkn0 (P : Nat → Prop) (h : Hd) : Bkn P (.mk h none 0 []) := .mk h none 0 [] (fun _ _ e => by cases e) (fun k hk => by simp at hk)
end Go.Proofs.YtkfabnchhjfjjabGreatDoor
