/-
  Rows of cells that the call itself has made: a slice of n elements of s cells each, cell j holding 'f j'.
-/
import Derived.Test.YtkfabnchhjfjjabGreatDoorLxr
import Derived.Deep.QuietTactic
import Derived.BigQuiet
import Derived.Below
import Derived.WalkKit
import Derived.ProofKit
import Derived.OwnWalk
import Derived.WalkSmall
import Derived.Outline
namespace Go.Proofs.YtkfabnchhjfjjabGreatDoor
open Go.RowKit

def Row (w : World) (e : TypeId) (s : Nat) (v : Value) (n : Nat) (f : Nat → Value) : Prop := w.ownsRow 0 e s v n ((List.range (n * s)).map f)

theorem range_map_set (m j : Nat) (f : Nat → Value) (u : Value) : ((List.range m).map f).set j u = (List.range m).map (fun i => if i = j then u else f i) := by
  apply List.ext_getElem?
  intro i
  rw [List.getElem?_set, List.getElem?_map, List.getElem?_map, List.length_map, List.length_range]
  by_cases hi : i < m
  · rw [List.getElem?_range hi]
    by_cases hj : j = i
    · subst hj; simp [hi]
    · rw [if_neg hj]
      show some (f i) = some (if i = j then u else f i)
      rw [if_neg (fun h => hj h.symm)]
  · rw [List.getElem?_eq_none (by simpa using hi)]
    by_cases hj : j = i
    · subst hj; simp [hi]
    · simp [hj]

variable {w : World} {e : TypeId} {s n cap : Nat} {g : Nat} {f f' : Nat → Value} {v : Value}

theorem Row.cell (h : Row w e s (.slice (some ⟨g, 0, none⟩) n cap) n f) {j : Nat} (hj : j < n * s) : w.cell? ⟨g, j, none⟩ = some (f j) := by
  rw [World.ownsRow.cellAt h j hj, List.getElem?_map, List.getElem?_range hj]; rfl
theorem Row.frozen (h : Row w e s (.slice (some ⟨g, 0, none⟩) n cap) n f) (j : Nat) : w.frozen? ⟨g, j, none⟩ = false := World.ownsRow.frozenAt h j
theorem Row.set (h : Row w e s (.slice (some ⟨g, 0, none⟩) n cap) n f) (j : Nat) (u : Value) : Row (w.setCell ⟨g, j, none⟩ u) e s (.slice (some ⟨g, 0, none⟩) n cap) n (fun i => if i = j then u else f i) := by
  have := (World.ownsRow.stored h j u).1
  rwa [range_map_set] at this
theorem Row.congr (h : Row w e s v n f) (he : ∀ j, j < n * s → f j = f' j) : Row w e s v n f' := by
  unfold Row at h ⊢
  have : (List.range (n * s)).map f = (List.range (n * s)).map f' := List.map_congr_left (fun j hj => he j (by simpa using hj))
  rwa [this] at h
theorem Row.kept {w' : World} {row : Option Nat} (h : Row w e s v n f) (hg : w.grownBy w' row) (hne : v.ownBlock = none ∨ v.ownBlock ≠ row) : Row w' e s v n f := World.ownsRow.kept h hg hne
theorem Row.lt (h : Row w e s v n f) : ∀ k, v.ownBlock = some k → k < w.heap.size := fun k hk => (World.ownsRow.lt h k hk).2
theorem Row.nil (w : World) (e : TypeId) (s : Nat) (f : Nat → Value) : Row w e s (.slice none 0 0) 0 f := by
  have := World.ownsRow_nil w 0 e s
  simpa [Row] using this
theorem Row.kind (h : Row w e s v n f) : ∀ k, v.ownBlock = some k → ∃ c fz, w.heap[k]? = some (.cells c e fz) := by
  intro k hk
  rcases h.2 with ⟨rfl, _⟩ | ⟨g', cap', cur, rfl, _, hg, _⟩
  · simp [Value.ownBlock] at hk
  · simp [Value.ownBlock] at hk
    subst hk
    exact ⟨_, _, hg⟩
/-- A block that is as it was keeps its row. -/
theorem Row.of_block {w' : World} (h : Row w e s v n f) (hb : ∀ k, v.ownBlock = some k → w'.heap[k]? = w.heap[k]?) : Row w' e s v n f := by
  refine ⟨h.1, ?_⟩
  rcases h.2 with h' | ⟨g', cap', cur, rfl, h1, hg, h2⟩
  · exact .inl h'
  · exact .inr ⟨g', cap', cur, rfl, h1, (hb g' rfl).trans hg, h2⟩
theorem Row.alloc (h : Row w e s v n f) (o : Obj) : Row (w.alloc o) e s v n f := World.ownsRow.alloc h o
/-- The form of a row's value: its address, where it has any. -/
theorem Row.form (h : Row w e s v n f) : ∃ ao c, v = .slice ao n c ∧ (0 < n → ∃ g, ao = some ⟨g, 0, none⟩) ∧ ((ao = none ∧ n = 0 ∧ c = 0) ∨ ∃ g, ao = some ⟨g, 0, none⟩) := by
  rcases h.2 with ⟨rfl, rfl⟩ | ⟨g', cap', cur, rfl, _⟩
  · exact ⟨none, 0, rfl, fun h => by omega, .inl ⟨rfl, rfl, rfl⟩⟩
  · exact ⟨_, _, rfl, fun _ => ⟨g', rfl⟩, .inr ⟨g', rfl⟩⟩
/-- Two rows of unlike elements lie apart. -/
theorem Row.apart {e' : TypeId} {s' n' : Nat} {v' : Value} (h : Row w e s v n f) (h' : Row w e' s' v' n' f') (hne : e ≠ e') : ∀ k, v.ownBlock = some k → v'.ownBlock ≠ some k := by
  intro k hk hk'
  obtain ⟨c, fz, h1⟩ := h.kind k hk
  obtain ⟨c', fz', h2⟩ := h'.kind k hk'
  rw [h1] at h2
  simp at h2
  exact hne h2.2.1
/-- One element more, behind a row. -/
theorem Row.snoc {v' : Value} {news : List Value} {x : Nat → Value} (h : w.ownsRow 0 e s v' (n + 1) ((List.range (n * s)).map f ++ news)) (hl : news.length = s) (hx : ∀ j, j < s → news[j]? = some (x j)) :
    Row w e s v' (n + 1) (fun j => if j < n * s then f j else x (j - n * s)) := by
  unfold Row
  have : (List.range ((n + 1) * s)).map (fun j => if j < n * s then f j else x (j - n * s)) = (List.range (n * s)).map f ++ news := by
    apply List.ext_getElem?
    intro j
    have hm : (n + 1) * s = n * s + s := by rw [Nat.add_mul, Nat.one_mul]
    by_cases h1 : j < n * s
    · rw [List.getElem?_append_left (by simpa using h1), List.getElem?_map, List.getElem?_map, List.getElem?_range (by omega), List.getElem?_range h1]
      simp [h1]
    · rw [List.getElem?_append_right (by simpa using Nat.le_of_not_lt h1), List.length_map, List.length_range]
      by_cases h2 : j < (n + 1) * s
      · rw [List.getElem?_map, List.getElem?_range h2, hx _ (by omega)]
        simp [h1]
      · rw [List.getElem?_eq_none (by simpa using Nat.le_of_not_lt h2), List.getElem?_eq_none (by omega)]
  rw [this]; exact h
theorem Row.pop (h : Row w e s (.slice (some ⟨g, 0, none⟩) (n + 1) cap) (n + 1) f) : Row w e s (.slice (some ⟨g, 0, none⟩) n cap) n f := by
  unfold Row at h ⊢
  refine ownsRow_pop (last := (List.range s).map (fun i => f (n * s + i))) (by simp) ?_
  have : (List.range ((n + 1) * s)).map f = (List.range (n * s)).map f ++ (List.range s).map (fun i => f (n * s + i)) := by
    rw [Nat.add_mul, Nat.one_mul, List.range_add, List.map_append, List.map_map]; rfl
  rwa [this] at h

end Go.Proofs.YtkfabnchhjfjjabGreatDoor
