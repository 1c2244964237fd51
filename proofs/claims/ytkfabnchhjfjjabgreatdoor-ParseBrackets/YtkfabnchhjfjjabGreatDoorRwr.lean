/-
  Wrong: the number at an error's end, and its place.
-/
import Derived.Test.YtkfabnchhjfjjabGreatDoorRay
namespace Go.Proofs.YtkfabnchhjfjjabGreatDoor
open Go.RowKit Go.Extern.Stop Go.Stop Go.Extern
/-- An error that tells this number, at this place. -/
def Er (w : World) (v : Value) (n p : Int) : Prop :=
  (v = .iface 25 (.int .i64 n) ∧ p = 0) ∨
  (∃ F c, v = .iface 75 (.pointer (some ⟨F, 0, none⟩)) ∧ w.heap[F]? = some (.cells #[.string c, .int .i64 p, .iface 25 (.int .i64 n)] 77 (0, 0))) ∨
  (∃ F c G c2 p2, v = .iface 75 (.pointer (some ⟨F, 0, none⟩)) ∧ w.heap[F]? = some (.cells #[.string c, .int .i64 p, .iface 75 (.pointer (some ⟨G, 0, none⟩))] 77 (0, 0)) ∧ w.heap[G]? = some (.cells #[.string c2, .int .i64 p2, .iface 25 (.int .i64 n)] 77 (0, 0))) ∨
  (∃ F c, v = .iface 75 (.pointer (some ⟨F, 0, none⟩)) ∧ w.heap[F]? = some (.cells #[.string c, .int .i64 p, .nilIface] 77 (0, 0)) ∧ n = -1)
theorem Er.on {w w' : World} {v : Value} {n p : Int} (h : Er w v n p) (hb : Below w.heap.size w w') : Er w' v n p := by
  have k : ∀ {F : Nat} {o}, w.heap[F]? = some o → w'.heap[F]? = some o := fun hF => (hb.block _ (Array.getElem?_eq_some_iff.1 hF).1).trans hF
  rcases h with h | ⟨F, c, h1, h2⟩ | ⟨F, c, G, c2, p2, h1, h2, h3⟩ | ⟨F, c, h1, h2, h3⟩
  · exact .inl h
  · exact .inr (.inl ⟨F, c, h1, k h2⟩)
  · exact .inr (.inr (.inl ⟨F, c, G, c2, p2, h1, k h2, k h3⟩))
  · exact .inr (.inr (.inr ⟨F, c, h1, k h2, h3⟩))
theorem asE_any {w : World} {v : Value} {n p : Int} (h : Er w v n p) (t a : Addr) (old : Value) (ha : w.cell? a = some (.pointer (some t))) (ht0 : w.cell? t = some old) (hf0 : w.frozen? t = false) :
    Calls Tryz.prog 64 #[v, .iface 96 (.pointer (some t)), .agg #[.pointer (some ⟨3, 96, none⟩), .pointer (some a), .int .u64 150], .iface 146 (.agg #[.pointer (some ⟨3, 25, none⟩)])] w fun ev w' => ∃ b, ev = .returned (.bool b) ∧ ((b = true ∧ ∃ V, Below w.heap.size w V ∧ w' = V.setCell t (.int .i64 n)) ∨ (b = false ∧ n = -1 ∧ Below w.heap.size w w')) := by
  rcases h with ⟨rfl, _⟩ | ⟨F, c, rfl, h2⟩ | ⟨F, c, G, c2, p2, rfl, h2, h3⟩ | ⟨F, c, rfl, h2, h3⟩
  · exact (asE1 n t a old w ha ht0 hf0).mono fun e w' h => ⟨true, h.1, .inl ⟨rfl, h.2⟩⟩
  · exact (asE2 F c p n t a old w ha ht0 hf0 h2).mono fun e w' h => ⟨true, h.1, .inl ⟨rfl, h.2⟩⟩
  · exact (asE3 F c p G c2 p2 n t a old w ha ht0 hf0 h2 h3).mono fun e w' h => ⟨true, h.1, .inl ⟨rfl, h.2⟩⟩
  · exact (asN1 F c p t a w h2).mono fun e w' h => ⟨false, h.1, .inr ⟨rfl, h3, h.2⟩⟩
/-- errors.errorType lies. -/
def Ety (w : World) : Prop := w.cell? ⟨0, 0, none⟩ = some (.iface 146 (.agg #[.pointer (some ⟨3, 40, none⟩)]))
theorem Ety.on {w w' : World} (h : Ety w) (hb : Below w.heap.size w w') : Ety w' := by
  have l0 := World.block_lt_of_cell? w ⟨0, 0, none⟩ h
  unfold Ety; rw [hb.cell l0]; exact h
theorem Er.face {w : World} {v : Value} {n p : Int} (h : Er w v n p) : ∃ T x, v = .iface T x := by
  rcases h with ⟨rfl, _⟩ | ⟨F, c, rfl, h2⟩ | ⟨F, c, G, c2, p2, rfl, h2, h3⟩ | ⟨F, c, rfl, h2, h3⟩ <;> exact ⟨_, _, rfl⟩
theorem as49E_any {w : World} {v : Value} {n p : Int} (h : Er w v n p) (hg : Ety w) (t : Addr) (old : Value) (ht0 : w.cell? t = some old) (hf0 : w.frozen? t = false) :
    Calls Tryz.prog 38 #[v, .iface 96 (.pointer (some t))] w fun ev w' => ∃ b, ev = .returned (.bool b) ∧ ((b = true ∧ ∃ V, Below w.heap.size w V ∧ w' = V.setCell t (.int .i64 n)) ∨ (b = false ∧ n = -1 ∧ Below w.heap.size w w')) := by
  obtain ⟨T, x, rfl⟩ := h.face
  have b1 := below_new w (.cells #[.pointer (some t)] 96)
  have s1 := size_alloc w (.cells #[.pointer (some t)] 96)
  have n1 := heap_new w (.cells #[.pointer (some t)] 96)
  have b2 := below_new (w.alloc (.cells #[.pointer (some t)] 96)) (.cells #[.pointer (some ⟨3, 96, none⟩), .pointer (some ⟨w.heap.size, 0, none⟩), .int .u64 150] 125)
  have bb := below2 b1 b2
  have lt := World.block_lt_of_cell? w t ht0
  refine as49E T x t w hg _ ((asE_any (h.on bb) t ⟨w.heap.size, 0, none⟩ old (cell_of ((b2.block _ (by omega)).trans n1) 0) (by rw [bb.cell lt]; exact ht0) (by rw [World.frozen?_alloc_old _ _ t (by rw [s1]; omega), World.frozen?_alloc_old _ _ t (by omega)]; exact hf0)).mono ?_)
  rintro e w' ⟨b, rfl, hh⟩
  refine ⟨b, rfl, ?_⟩
  rcases hh with ⟨rfl, V, hV, rfl⟩ | ⟨rfl, hn, hV⟩
  · exact .inl ⟨rfl, V, below2 bb hV, rfl⟩
  · exact .inr ⟨rfl, hn, below2 bb hV⟩
theorem asF1_any {w : World} {v : Value} {n p : Int} (h : Er w v n p) (hg : Ety w) (t : Addr) (old : Value) (ht0 : w.cell? t = some old) (hf0 : w.frozen? t = false) :
    Calls Tryz.prog 38 #[v, .iface 97 (.pointer (some t))] w fun ev w' => ∃ b, ev = .returned (.bool b) ∧ ((b = true ∧ ∃ F c e, w.heap[F]? = some (.cells #[.string c, .int .i64 p, e] 77 (0, 0)) ∧ ∃ V, Below w.heap.size w V ∧ w' = V.setCell t (.pointer (some ⟨F, 0, none⟩))) ∨ (b = false ∧ p = 0 ∧ Below w.heap.size w w')) := by
  rcases h with ⟨rfl, hp⟩ | ⟨F, c, rfl, h2⟩ | ⟨F, c, G, c2, p2, rfl, h2, h3⟩ | ⟨F, c, rfl, h2, h3⟩
  · refine as49F 25 (.int .i64 n) t w hg _ ((asN0 n t _ _).mono ?_)
    rintro e w' ⟨rfl, hb⟩
    exact ⟨false, rfl, .inr ⟨rfl, hp, below2 (below2 (below_new _ _) (below_new _ _)) hb⟩⟩
  all_goals exact (asF_any ⟨F, 0, none⟩ t old w hg ht0 hf0).mono fun e w' h => ⟨true, h.1, .inl ⟨rfl, F, c, _, h2, h.2⟩⟩
end Go.Proofs.YtkfabnchhjfjjabGreatDoor
