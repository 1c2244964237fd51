import Derived.Test.YtighocmdlifheaaGreatDoorM0
import Derived.Deep.QuietTactic
import Derived.BigQuiet
import Derived.Below
import Derived.WalkKit
import Derived.ProofKit
import Derived.OwnWalk
import Derived.WalkSmall
import Derived.Outline
import Derived.Laws.OwnMore
import Derived.ArgAppend
import Derived.Maps.AppendAt
/-
  Rows of cells that the call itself has made: a slice of n elements of s cells each, cell j holding 'f j'.
-/
namespace Go.Proofs.YtighocmdlifheaaGreatDoor
open Go.RowKit

def Row (w : World) (e : TypeId) (s : Nat) (v : Value) (n : Nat) (f : Nat → Value) : Prop := w.ownsRow 0 e s v n ((List.range (n * s)).map f)

theorem range_map_set (m j : Nat) (f : Nat → Value) (u : Value) : ((List.range m).map f).set j u = (List.range m).map (fun i => if i = j then u else f i) := by
  apply List.ext_getElem?
  intro i
  rw [List.getElem?_set, List.getElem?_map, List.getElem?_map, List.length_map, List.length_range]
  by_cases hi : i < m
  · rw [List.getElem?_range hi]
    by_cases hj : j = i
    · subst hj; simp [hi]
    · rw [if_neg hj]
      show some (f i) = some (if i = j then u else f i)
      rw [if_neg (fun h => hj h.symm)]
  · rw [List.getElem?_eq_none (by simpa using hi)]
    by_cases hj : j = i
    · subst hj; simp [hi]
    · simp [hj]

variable {w : World} {e : TypeId} {s n cap : Nat} {g : Nat} {f f' : Nat → Value} {v : Value}

theorem Row.cell (h : Row w e s (.slice (some ⟨g, 0, none⟩) n cap) n f) {j : Nat} (hj : j < n * s) : w.cell? ⟨g, j, none⟩ = some (f j) := by
  rw [World.ownsRow.cellAt h j hj, List.getElem?_map, List.getElem?_range hj]; rfl
theorem Row.frozen (h : Row w e s (.slice (some ⟨g, 0, none⟩) n cap) n f) (j : Nat) : w.frozen? ⟨g, j, none⟩ = false := World.ownsRow.frozenAt h j
theorem Row.set (h : Row w e s (.slice (some ⟨g, 0, none⟩) n cap) n f) (j : Nat) (u : Value) : Row (w.setCell ⟨g, j, none⟩ u) e s (.slice (some ⟨g, 0, none⟩) n cap) n (fun i => if i = j then u else f i) := by
  have := (World.ownsRow.stored h j u).1
  rwa [range_map_set] at this
theorem Row.congr (h : Row w e s v n f) (he : ∀ j, j < n * s → f j = f' j) : Row w e s v n f' := by
  unfold Row at h ⊢
  have : (List.range (n * s)).map f = (List.range (n * s)).map f' := List.map_congr_left (fun j hj => he j (by simpa using hj))
  rwa [this] at h
theorem Row.kept {w' : World} {row : Option Nat} (h : Row w e s v n f) (hg : w.grownBy w' row) (hne : v.ownBlock = none ∨ v.ownBlock ≠ row) : Row w' e s v n f := World.ownsRow.kept h hg hne
theorem Row.lt (h : Row w e s v n f) : ∀ k, v.ownBlock = some k → k < w.heap.size := fun k hk => (World.ownsRow.lt h k hk).2
theorem Row.nil (w : World) (e : TypeId) (s : Nat) (f : Nat → Value) : Row w e s (.slice none 0 0) 0 f := by
  have := World.ownsRow_nil w 0 e s
  simpa [Row] using this
theorem Row.kind (h : Row w e s v n f) : ∀ k, v.ownBlock = some k → ∃ c fz, w.heap[k]? = some (.cells c e fz) := by
  intro k hk
  rcases h.2 with ⟨rfl, _⟩ | ⟨g', cap', cur, rfl, _, hg, _⟩
  · simp [Value.ownBlock] at hk
  · simp [Value.ownBlock] at hk
    subst hk
    exact ⟨_, _, hg⟩
/-- A block that is as it was keeps its row. -/
theorem Row.of_block {w' : World} (h : Row w e s v n f) (hb : ∀ k, v.ownBlock = some k → w'.heap[k]? = w.heap[k]?) : Row w' e s v n f := by
  refine ⟨h.1, ?_⟩
  rcases h.2 with h' | ⟨g', cap', cur, rfl, h1, hg, h2⟩
  · exact .inl h'
  · exact .inr ⟨g', cap', cur, rfl, h1, (hb g' rfl).trans hg, h2⟩
theorem Row.alloc (h : Row w e s v n f) (o : Obj) : Row (w.alloc o) e s v n f := World.ownsRow.alloc h o
/-- The form of a row's value: its address, where it has any. -/
theorem Row.form (h : Row w e s v n f) : ∃ ao c, v = .slice ao n c ∧ (0 < n → ∃ g, ao = some ⟨g, 0, none⟩) ∧ ((ao = none ∧ n = 0 ∧ c = 0) ∨ ∃ g, ao = some ⟨g, 0, none⟩) := by
  rcases h.2 with ⟨rfl, rfl⟩ | ⟨g', cap', cur, rfl, _⟩
  · exact ⟨none, 0, rfl, fun h => by omega, .inl ⟨rfl, rfl, rfl⟩⟩
  · exact ⟨_, _, rfl, fun _ => ⟨g', rfl⟩, .inr ⟨g', rfl⟩⟩
/-- Two rows of unlike elements lie apart. -/
theorem Row.apart {e' : TypeId} {s' n' : Nat} {v' : Value} (h : Row w e s v n f) (h' : Row w e' s' v' n' f') (hne : e ≠ e') : ∀ k, v.ownBlock = some k → v'.ownBlock ≠ some k := by
  intro k hk hk'
  obtain ⟨c, fz, h1⟩ := h.kind k hk
  obtain ⟨c', fz', h2⟩ := h'.kind k hk'
  rw [h1] at h2
  simp at h2
  exact hne h2.2.1
/-- One element more, behind a row. -/
theorem Row.snoc {v' : Value} {news : List Value} {x : Nat → Value} (h : w.ownsRow 0 e s v' (n + 1) ((List.range (n * s)).map f ++ news)) (hl : news.length = s) (hx : ∀ j, j < s → news[j]? = some (x j)) :
    Row w e s v' (n + 1) (fun j => if j < n * s then f j else x (j - n * s)) := by
  unfold Row
  have : (List.range ((n + 1) * s)).map (fun j => if j < n * s then f j else x (j - n * s)) = (List.range (n * s)).map f ++ news := by
    apply List.ext_getElem?
    intro j
    have hm : (n + 1) * s = n * s + s := by rw [Nat.add_mul, Nat.one_mul]
    by_cases h1 : j < n * s
    · rw [List.getElem?_append_left (by simpa using h1), List.getElem?_map, List.getElem?_map, List.getElem?_range (by omega), List.getElem?_range h1]
      simp [h1]
    · rw [List.getElem?_append_right (by simpa using Nat.le_of_not_lt h1), List.length_map, List.length_range]
      by_cases h2 : j < (n + 1) * s
      · rw [List.getElem?_map, List.getElem?_range h2, hx _ (by omega)]
        simp [h1]
      · rw [List.getElem?_eq_none (by simpa using Nat.le_of_not_lt h2), List.getElem?_eq_none (by omega)]
  rw [this]; exact h
theorem Row.pop (h : Row w e s (.slice (some ⟨g, 0, none⟩) (n + 1) cap) (n + 1) f) : Row w e s (.slice (some ⟨g, 0, none⟩) n cap) n f := by
  unfold Row at h ⊢
  refine ownsRow_pop (last := (List.range s).map (fun i => f (n * s + i))) (by simp) ?_
  have : (List.range ((n + 1) * s)).map f = (List.range (n * s)).map f ++ (List.range s).map (fun i => f (n * s + i)) := by
    rw [Nat.add_mul, Nat.one_mul, List.range_add, List.map_append, List.map_map]; rfl
  rwa [this] at h

end Go.Proofs.YtighocmdlifheaaGreatDoor

/-
  How a world has moved: what lay outside a footprint lies as it lay.
-/
namespace Go.Proofs.YtighocmdlifheaaGreatDoor
open Go.RowKit

structure Mv (w w' : World) (F : Nat → Prop) : Prop where
  os : w'.os = w.os
  tape : w'.tape = w.tape
  output : w'.output = w.output
  size : w.heap.size ≤ w'.heap.size
  block : ∀ k, k < w.heap.size → ¬ F k → w'.heap[k]? = w.heap[k]?

theorem Mv.refl (w : World) (F : Nat → Prop) : Mv w w F := ⟨rfl, rfl, rfl, Nat.le_refl _, fun _ _ _ => rfl⟩
theorem Mv.drew {w w' : World} {F : Nat → Prop} (h : Mv w w' F) : Mv w w'.drew F := ⟨h.os, h.tape, h.output, h.size, h.block⟩
theorem Mv.trans {w w' w'' : World} {F F' : Nat → Prop} (h : Mv w w' F) (k : Mv w' w'' F') (hF : ∀ b, F' b → F b ∨ w.heap.size ≤ b) : Mv w w'' F :=
  ⟨k.os.trans h.os, k.tape.trans h.tape, k.output.trans h.output, Nat.le_trans h.size k.size, fun b hb hn =>
    (k.block b (Nat.lt_of_lt_of_le hb h.size) (fun e => (hF b e).elim hn (fun h1 => by omega))).trans (h.block b hb hn)⟩
theorem Mv.mono {w w' : World} {F F' : Nat → Prop} (h : Mv w w' F) (hF : ∀ b, F b → F' b) : Mv w w' F' := ⟨h.os, h.tape, h.output, h.size, fun b hb hn => h.block b hb (fun e => hn (hF b e))⟩
theorem Mv.setCell {w w' : World} {F : Nat → Prop} (h : Mv w w' F) {a : Addr} (ha : F a.block ∨ w.heap.size ≤ a.block) (u : Value) : Mv w (w'.setCell a u) F :=
  h.trans (F' := fun b => b = a.block) ⟨rfl, rfl, rfl, by simp [World.setCell], fun b _ hn => Below.heap_setCell _ _ _ _ hn⟩ (fun b e => by cases e; exact ha)
theorem Mv.alloc {w w' : World} {F : Nat → Prop} (h : Mv w w' F) (o : Obj) : Mv w (w'.alloc o) F :=
  h.trans (F' := fun _ => False) ⟨rfl, rfl, rfl, by simp, fun b hb _ => Below.heap_alloc _ _ _ hb⟩ (fun b e => e.elim)
theorem Mv.grown {w w' w'' : World} {F : Nat → Prop} {row : Option Nat} (h : Mv w w' F) (hg : w'.grownBy w'' row) (hr : ∀ k, row = some k → F k ∨ w.heap.size ≤ k) : Mv w w'' F :=
  h.trans (F' := fun b => some b = row) ⟨hg.os, hg.tape, hg.output, hg.size, fun b hb hn => hg.block b hb hn⟩ (fun b e => hr b e.symm)
theorem Mv.below {w w' : World} {F : Nat → Prop} (h : Mv w w' F) {B : Nat} (hB : B ≤ w.heap.size) (hF : ∀ b, F b → B ≤ b) : Below B w w' :=
  ⟨h.os, h.tape, h.output, h.size, fun k hk => h.block k (by omega) (fun e => by have := hF k e; omega)⟩
theorem Mv.row {w w' : World} {F : Nat → Prop} (h : Mv w w' F) {e : TypeId} {s n : Nat} {v : Value} {f : Nat → Value} (hr : Row w e s v n f) (hn : ∀ k, v.ownBlock = some k → ¬ F k) : Row w' e s v n f :=
  hr.of_block (fun k hk => h.block k (hr.lt k hk) (hn k hk))

end Go.Proofs.YtighocmdlifheaaGreatDoor

/-
  Lists that are marked, grown and looked at again: what is kept in between. (Of any elements: e their type, s their cells, le the type of a list of them.)
-/
namespace Go.Proofs.YtighocmdlifheaaGreatDoor
open Go.RowKit

/-- One element more, in place or in a new row. -/
theorem run_app1 {P : Program} (w : World) (t ty e : TypeId) (i : TypeInfo) (z : Value) (size bytes : Nat) (ht : P.underlying t = some (.slice e)) (hi : P.info? e = some i) (hz : i.zero = some z)
    (hsize : i.size = size) (hby : i.bytes = bytes) (hzs : z.cells.size = size) (hsz : 0 < size)
    (v : Value) (n : Nat) (xs : List Value) (hown : w.ownsRow 0 e size v n xs)
    (a : Addr) (news : List Value) (hl : news.length = size) (hnews : ∀ j u, news[j]? = some u → w.cell? (a.add j) = some u) (h1 : ∀ u ∈ news, u.oneCell' = true)
    (h63 : n + 1 ≤ maxLen) (hbytes : (n + 1) * bytes ≤ 140737488355328) :
    ∃ v' w', (Builtin.append_ #[t, t] ty #[v, .slice (some a) 1 1]).run P w = .ok v' w' ∧ w'.ownsRow 0 e size v' (n + 1) (xs ++ news) ∧
      ((∃ g, v.ownBlock = some g ∧ v'.ownBlock = some g ∧ w.grownBy w' (some g)) ∨ ((∃ g, v'.ownBlock = some g ∧ w.heap.size ≤ g) ∧ w.grownBy w' none)) := by
  have hl' : news.length = 1 * size := by omega
  rcases hown.2 with ⟨rfl, rfl⟩ | ⟨g, cap, cur, rfl, hbg, hg, hnc, hcm, hcs, htake⟩
  · obtain ⟨v', w', r1, r2, r3, _, r5⟩ := run_append_own_at (P := P) w 0 t ty e i z size bytes ht hi hz hsize hby hzs hsz _ 0 xs hown a 1 1 news hl' hnews h1 h63 hbytes (Nat.zero_le _)
    refine ⟨v', w', r1, r2, .inr ⟨?_, r3⟩⟩
    rcases r5 with r5 | r5
    · exfalso
      rcases r2.2 with ⟨_, h0⟩ | ⟨g', _, _, rfl, _⟩
      · omega
      · simp [Value.ownBlock] at r5
    · exact ⟨_, r5, Nat.le_refl _⟩
  · by_cases hroom : n + 1 ≤ cap
    · obtain ⟨w', r1, r2, r3⟩ := run_append_fits (P := P) w 0 t ty e i size ht hi hsize g n cap xs hown a 1 1 news hl' hnews h1 hroom
      exact ⟨_, w', r1, r2, .inl ⟨g, rfl, rfl, r3⟩⟩
    · obtain ⟨v', w', r1, r2, r3⟩ := run_append_arg_grows (P := P) w t ty e i z size bytes ht hi hz hsize hby hzs hsz ⟨g, 0, none⟩ n cap xs hown.1 (hown.cells (g := g) rfl) a 1 1 news hl' hnews (by omega) h63 hbytes
      refine ⟨v', w', r1, ⟨r2.1, ?_⟩, .inr ⟨?_, r3⟩⟩
      · rcases r2.2 with h | ⟨g', c', cu, h1, h2, h3⟩
        · exact .inl h
        · exact .inr ⟨g', c', cu, h1, Nat.zero_le _, h3⟩
      · rcases r2.2 with ⟨_, h0⟩ | ⟨g', c', cu, rfl, h2, h3⟩
        · omega
        · exact ⟨g', rfl, h2⟩

/-- A row whose room has been cut off: whatever is put behind it goes elsewhere. -/
def RowX (w : World) (e : TypeId) (s : Nat) (v : Value) (n : Nat) (f : Nat → Value) : Prop :=
  Row w e s v n f ∨ ∃ g cur, v = .slice (some ⟨g, 0, none⟩) n n ∧ w.heap[g]? = some (.cells cur e (0, 0)) ∧ n ≤ maxLen ∧ n * s ≤ cur.size ∧ cur.toList.take (n * s) = (List.range (n * s)).map f
section
variable {w : World} {e : TypeId} {s n cap : Nat} {g : Nat} {f f' : Nat → Value} {v : Value}
theorem RowX.cell (h : RowX w e s (.slice (some ⟨g, 0, none⟩) n cap) n f) {j : Nat} (hj : j < n * s) : w.cell? ⟨g, j, none⟩ = some (f j) := by
  rcases h with h | ⟨g', cur, e1, h1, _, h2, h3⟩
  · exact h.cell hj
  · have eg : g = g' := by simp at e1; exact e1.1
    subst eg
    rw [cell_of h1]
    have h8 : (cur.toList.take (n * s))[j]? = cur[j]? := by rw [List.getElem?_take_of_lt hj]; simp
    rw [← h8, h3, List.getElem?_map, List.getElem?_range hj]; rfl
theorem RowX.frozen (h : RowX w e s (.slice (some ⟨g, 0, none⟩) n cap) n f) (j : Nat) : w.frozen? ⟨g, j, none⟩ = false := by
  rcases h with h | ⟨g', cur, e1, h1, _, h2, h3⟩
  · exact h.frozen j
  · have eg : g = g' := by simp at e1; exact e1.1
    subst eg
    exact frozen_of h1 j
theorem RowX.set (h : RowX w e s (.slice (some ⟨g, 0, none⟩) n cap) n f) (j : Nat) (u : Value) : RowX (w.setCell ⟨g, j, none⟩ u) e s (.slice (some ⟨g, 0, none⟩) n cap) n (fun i => if i = j then u else f i) := by
  rcases h with h | ⟨g', cur, e1, h1, hm, h2, h3⟩
  · exact .inl (h.set j u)
  · have eg : g = g' := by simp at e1; exact e1.1
    subst eg
    refine .inr ⟨g, cur.setIfInBounds j u, e1, heap_set u h1, hm, by simpa using h2, ?_⟩
    rw [Array.toList_setIfInBounds, List.take_set, h3, range_map_set]
theorem RowX.congr (h : RowX w e s v n f) (he : ∀ j, j < n * s → f j = f' j) : RowX w e s v n f' := by
  rcases h with h | ⟨g', cur, e1, h1, hm, h2, h3⟩
  · exact .inl (h.congr he)
  · exact .inr ⟨g', cur, e1, h1, hm, h2, h3.trans (List.map_congr_left (fun j hj => he j (by simpa using hj)))⟩
theorem RowX.kind (h : RowX w e s v n f) : ∀ k, v.ownBlock = some k → ∃ c fz, w.heap[k]? = some (.cells c e fz) := by
  rcases h with h | ⟨g', cur, rfl, h1, hm, h2, h3⟩
  · exact h.kind
  · intro k hk
    have eg : g' = k := by simpa [Value.ownBlock] using hk
    subst eg
    exact ⟨_, _, h1⟩
theorem RowX.lt (h : RowX w e s v n f) : ∀ k, v.ownBlock = some k → k < w.heap.size := fun k hk => by
  obtain ⟨c, fz, h1⟩ := h.kind k hk
  exact (Array.getElem?_eq_some_iff.1 h1).1
theorem RowX.of_block {w' : World} (h : RowX w e s v n f) (hb : ∀ k, v.ownBlock = some k → w'.heap[k]? = w.heap[k]?) : RowX w' e s v n f := by
  rcases h with h | ⟨g', cur, rfl, h1, hm, h2, h3⟩
  · exact .inl (h.of_block hb)
  · exact .inr ⟨g', cur, rfl, (hb g' rfl).trans h1, hm, h2, h3⟩
theorem RowX.form (h : RowX w e s v n f) : ∃ ao c, v = .slice ao n c ∧ (0 < n → ∃ g, ao = some ⟨g, 0, none⟩) ∧ ((ao = none ∧ n = 0 ∧ c = 0) ∨ ∃ g, ao = some ⟨g, 0, none⟩) := by
  rcases h with h | ⟨g', cur, rfl, h1, hm, h2, h3⟩
  · exact h.form
  · exact ⟨_, _, rfl, fun _ => ⟨g', rfl⟩, .inr ⟨g', rfl⟩⟩
theorem RowX.apart {e' : TypeId} {s' n' : Nat} {v' : Value} (h : RowX w e s v n f) (h' : Row w e' s' v' n' f') (hne : e ≠ e') : ∀ k, v.ownBlock = some k → v'.ownBlock ≠ some k := by
  intro k hk hk'
  obtain ⟨c, fz, h1⟩ := h.kind k hk
  obtain ⟨c', fz', h2⟩ := h'.kind k hk'
  rw [h1] at h2
  simp at h2
  exact hne h2.2.1
theorem RowX.apartX {e' : TypeId} {s' n' : Nat} {v' : Value} (h : RowX w e s v n f) (h' : RowX w e' s' v' n' f') (hne : e ≠ e') : ∀ k, v.ownBlock = some k → v'.ownBlock ≠ some k := by
  intro k hk hk'
  obtain ⟨c, fz, h1⟩ := h.kind k hk
  obtain ⟨c', fz', h2⟩ := h'.kind k hk'
  rw [h1] at h2
  simp at h2
  exact hne h2.2.1
theorem Mv.rowX {w' : World} {F : Nat → Prop} (h : Mv w w' F) (hr : RowX w e s v n f) (hn : ∀ k, v.ownBlock = some k → ¬ F k) : RowX w' e s v n f :=
  hr.of_block (fun k hk => h.block k (hr.lt k hk) (hn k hk))
theorem run_app1X {P : Program} (w : World) (t ty e : TypeId) (i : TypeInfo) (z : Value) (size bytes : Nat) (ht : P.underlying t = some (.slice e)) (hi : P.info? e = some i) (hz : i.zero = some z)
    (hsize : i.size = size) (hby : i.bytes = bytes) (hzs : z.cells.size = size) (hsz : 0 < size)
    (v : Value) (n : Nat) (f : Nat → Value) (hown : RowX w e size v n f)
    (a : Addr) (news : List Value) (hl : news.length = size) (hnews : ∀ j u, news[j]? = some u → w.cell? (a.add j) = some u) (h1 : ∀ u ∈ news, u.oneCell' = true)
    (h63 : n + 1 ≤ maxLen) (hbytes : (n + 1) * bytes ≤ 140737488355328) :
    ∃ v' w', (Builtin.append_ #[t, t] ty #[v, .slice (some a) 1 1]).run P w = .ok v' w' ∧ w'.ownsRow 0 e size v' (n + 1) ((List.range (n * size)).map f ++ news) ∧
      ((∃ g, v.ownBlock = some g ∧ v'.ownBlock = some g ∧ w.grownBy w' (some g)) ∨ ((∃ g, v'.ownBlock = some g ∧ w.heap.size ≤ g) ∧ w.grownBy w' none)) := by
  rcases hown with hr | ⟨g, cur, rfl, hg, hm, h2, h3⟩
  · exact run_app1 w t ty e i z size bytes ht hi hz hsize hby hzs hsz v n _ hr a news hl hnews h1 h63 hbytes
  · have hX : RowX w e size (.slice (some ⟨g, 0, none⟩) n n) n f := .inr ⟨g, cur, rfl, hg, hm, h2, h3⟩
    obtain ⟨v', w', r1, r2, r3⟩ := run_append_arg_grows (P := P) w t ty e i z size bytes ht hi hz hsize hby hzs hsz ⟨g, 0, none⟩ n n ((List.range (n * size)).map f) (by simp) (fun j u hu => by
      have hj : j < n * size := by
        have := (List.getElem?_eq_some_iff.1 hu).1
        simpa using this
      have hc := hX.cell hj
      rw [List.getElem?_map, List.getElem?_range hj] at hu
      have hu' : f j = u := by simpa using hu
      rw [← hu']
      by_cases h0 : j = 0
      · subst h0; simpa [Addr.add] using hc
      · simpa [Addr.add, h0] using hc) a 1 1 news (by omega) hnews (by omega) h63 hbytes
    refine ⟨v', w', r1, ⟨r2.1, ?_⟩, .inr ⟨?_, r3⟩⟩
    · rcases r2.2 with h | ⟨g', c', cu, h1, h2, h3⟩
      · exact .inl h
      · exact .inr ⟨g', c', cu, h1, Nat.zero_le _, h3⟩
    · rcases r2.2 with ⟨_, h0⟩ | ⟨g', c', cu, rfl, h2, h3⟩
      · omega
      · exact ⟨g', rfl, h2⟩
end
def bks (N : Nat) (V : Nat → Value) (b : Nat) : Prop := ∃ j, j < N ∧ (V j).ownBlock = some b
/-- The lists lie apart, and apart from the list of them. -/
structure Aprt (w : World) (g N : Nat) (V : Nat → Value) : Prop where
  dis : ∀ j j', j < N → j' < N → j ≠ j' → ∀ b, (V j).ownBlock = some b → (V j').ownBlock ≠ some b
  far : ∀ j, j < N → (V j).ownBlock ≠ some g
  old : ∀ j, j < N → ∀ b, (V j).ownBlock = some b → b < w.heap.size
  gl : g < w.heap.size
theorem Aprt.hid {w : World} {g N : Nat} {V : Nat → Value} (h : Aprt w g N V) : Hid (Aprt w g N V) := h
/-- While the lists are marked. -/
structure P1 (e : TypeId) (s : Nat) (w v : World) (g N : Nat) (V : Nat → Value) (n : Nat → Nat) (C : Nat → Nat → Value) : Prop where
  row : ∀ j, j < N → RowX v e s (V j) (n j) (C j)
  cell : ∀ j, j < N → v.cell? ⟨g, j, none⟩ = some (V j)
  mv : Mv w v (bks N V)
section
variable {e le : TypeId} {s K : Nat} {w v : World} {g N : Nat} {V : Nat → Value} {n : Nat → Nat} {C D M A : Nat → Nat → Value} {i : Nat} {U : Nat → Value} {lv : Value} {k : Nat} {X : Value}
theorem P1.hid (h : P1 e s w v g N V n C) : Hid (P1 e s w v g N V n C) := h
theorem P1.congr (h : P1 e s w v g N V n C) (he : ∀ j, j < N → ∀ q, q < n j * s → C j q = D j q) : P1 e s w v g N V n D :=
  ⟨fun j hj => (h.row j hj).congr (fun q hq => he j hj q hq), h.cell, h.mv⟩
theorem P1.drew (h : P1 e s w v g N V n C) : P1 e s w v.drew g N V n C := ⟨fun j hj => (h.row j hj).of_block (fun _ _ => rfl), h.cell, h.mv.drew⟩
theorem P1.put (ap : Aprt w g N V) (h : P1 e s w v g N V n C) {b c : Nat} (q : Nat) (hi : i < N) (hV : V i = .slice (some ⟨b, 0, none⟩) (n i) c) (x : Value) :
    P1 e s w (v.setCell ⟨b, q, none⟩ x) g N V n (fun j r => if j = i ∧ r = q then x else C j r) := by
  have hb : (V i).ownBlock = some b := by rw [hV]; rfl
  have hF : bks N V b := ⟨i, hi, hb⟩
  have hblk : ∀ r, r ≠ b → (v.setCell ⟨b, q, none⟩ x).heap[r]? = v.heap[r]? := fun r hr => Below.heap_setCell _ _ _ _ (by exact hr)
  refine ⟨fun j hj => ?_, fun j hj => ?_, h.mv.setCell (.inl hF) _⟩
  · by_cases e : j = i
    · subst e
      have hr := h.row j hj
      rw [hV] at hr ⊢
      exact (hr.set q x).congr fun r _ => by simp
    · refine ((h.row j hj).of_block (fun r hr => hblk r (fun e2 => ?_))).congr (fun r _ => ?_)
      · subst e2; exact ap.dis j i hj hi e r hr hb
      · simp [e]
  · rw [World.cell?_of_block (hblk g (fun e => ap.far i hi (by rw [hb, e])))]
    exact h.cell j hj
/-- What is read of a list: in its own block. -/
def RdO (v : World) (s : Nat) (V : Value) (n : Nat) (A : Nat → Value) : Prop := ∀ q, q < n * s → ∃ b c, V = .slice (some ⟨b, 0, none⟩) n c ∧ v.cell? ⟨b, q, none⟩ = some (A q)
theorem RdO.of_row {V : Value} {n : Nat} {A : Nat → Value} (h : RowX v e s V n A) : RdO v s V n A := by
  intro q hq
  have hn : 0 < n := by
    rcases Nat.eq_zero_or_pos n with h0 | h0
    · rw [h0] at hq; omega
    · exact h0
  obtain ⟨ao, c, rfl, h1, _⟩ := h.form
  obtain ⟨b, rfl⟩ := h1 hn
  exact ⟨b, c, rfl, h.cell hq⟩
theorem RdO.blk {v' : World} {V : Value} {n : Nat} {A : Nat → Value} (h : RdO v s V n A) (hb : ∀ b, V.ownBlock = some b → v'.heap[b]? = v.heap[b]?) : RdO v' s V n A := by
  intro q hq
  obtain ⟨b, c, e, hf⟩ := h q hq
  exact ⟨b, c, e, (World.cell?_of_block (hb b (by rw [e]; rfl))).trans hf⟩
/-- A list that is written on in its own block reads as before. -/
theorem RdO.same {V X : Value} {n m g : Nat} {A B : Nat → Value} (h : RdO v s V n A) {v' : World} (hX : RowX v' e s X m B) (hg : X.ownBlock = some g) (hV : V.ownBlock = some g) (hm : n ≤ m) (he : ∀ q, q < n * s → B q = A q) : RdO v' s V n A := by
  intro q hq
  obtain ⟨b, c, rfl, _⟩ := h q hq
  obtain ⟨b', c', rfl, hf⟩ := RdO.of_row hX q (Nat.lt_of_lt_of_le hq (Nat.mul_le_mul_right s hm))
  simp [Value.ownBlock] at hg hV
  subst hg; subst hV
  refine ⟨_, c, rfl, ?_⟩
  rw [← he q hq]; exact hf
/-- While they grow: the first i have grown. -/
structure P2 (e le : TypeId) (s K : Nat) (w v : World) (g N : Nat) (V : Nat → Value) (n : Nat → Nat) (M A : Nat → Nat → Value) (i : Nat) (U : Nat → Value) (lv : Value) : Prop where
  rd : ∀ j, j < N → RdO v s (V j) (n j) (M j)
  row : ∀ j, i ≤ j → j < N → RowX v e s (V j) (n j) (M j)
  urow : ∀ j, j < i → RowX v e s (U j) (n j + K) (A j)
  uown : ∀ j, j < i → (U j).ownBlock = (V j).ownBlock ∨ ∃ b, (U j).ownBlock = some b ∧ w.heap.size ≤ b
  udis : ∀ j j', j < i → j' < i → j ≠ j' → ∀ b, (U j).ownBlock = some b → (U j').ownBlock ≠ some b
  long : Row v le 1 lv i U
  lnew : ∀ b, lv.ownBlock = some b → w.heap.size ≤ b
  cell : ∀ j, j < N → v.cell? ⟨g, j, none⟩ = some (V j)
  mv : Mv w v (bks N V)
/-- While list i grows: it is X, with k more. -/
structure P3 (e le : TypeId) (s K : Nat) (w v : World) (g N : Nat) (V : Nat → Value) (n : Nat → Nat) (M A : Nat → Nat → Value) (i : Nat) (U : Nat → Value) (lv : Value) (k : Nat) (X : Value) : Prop where
  rd : ∀ j, j < N → RdO v s (V j) (n j) (M j)
  row : ∀ j, i < j → j < N → RowX v e s (V j) (n j) (M j)
  urow : ∀ j, j < i → RowX v e s (U j) (n j + K) (A j)
  uown : ∀ j, j < i → (U j).ownBlock = (V j).ownBlock ∨ ∃ b, (U j).ownBlock = some b ∧ w.heap.size ≤ b
  udis : ∀ j j', j < i → j' < i → j ≠ j' → ∀ b, (U j).ownBlock = some b → (U j').ownBlock ≠ some b
  xrow : RowX v e s X (n i + k) (A i)
  xown : X.ownBlock = (V i).ownBlock ∨ ∃ b, X.ownBlock = some b ∧ w.heap.size ≤ b
  xdis : ∀ j, j < i → ∀ b, X.ownBlock = some b → (U j).ownBlock ≠ some b
  long : Row v le 1 lv i U
  lnew : ∀ b, lv.ownBlock = some b → w.heap.size ≤ b
  cell : ∀ j, j < N → v.cell? ⟨g, j, none⟩ = some (V j)
  mv : Mv w v (bks N V)
theorem P2.hid (h : P2 e le s K w v g N V n M A i U lv) : Hid (P2 e le s K w v g N V n M A i U lv) := h
theorem P3.hid (h : P3 e le s K w v g N V n M A i U lv k X) : Hid (P3 e le s K w v g N V n M A i U lv k X) := h
theorem P2.begin (ap : Aprt w g N V) (h : P2 e le s K w v g N V n M A i U lv) (hi : i < N) (hA : ∀ q, q < n i * s → M i q = A i q) : P3 e le s K w v g N V n M A i U lv 0 (V i) :=
  ⟨h.rd, fun j hj => h.row j (by omega), h.urow, h.uown, h.udis, (h.row i (Nat.le_refl _) hi).congr (fun q hq => hA q hq), .inl rfl, fun j hj b hb e => by
      rcases h.uown j hj with h1 | ⟨b', h1, h2⟩
      · rw [h1] at e; exact ap.dis i j hi (by omega) (by omega) b hb e
      · rw [h1] at e; cases e; have := ap.old i hi _ hb; omega, h.long, h.lnew, h.cell, h.mv⟩
theorem P3.call {v' : World} (ap : Aprt w g N V) (h : P3 e le s K w v g N V n M A i U lv k X) (hb : Below v.heap.size v v') : P3 e le s K w v' g N V n M A i U lv k X := by
  have keep : ∀ {e : TypeId} {s m : Nat} {x : Value} {f : Nat → Value}, RowX v e s x m f → RowX v' e s x m f := fun hr => hr.of_block (fun b hbb => hb.block b (hr.lt b hbb))
  have keepL : ∀ {e : TypeId} {s m : Nat} {x : Value} {f : Nat → Value}, Row v e s x m f → Row v' e s x m f := fun hr => hr.of_block (fun b hbb => hb.block b (hr.lt b hbb))
  refine ⟨fun j hj => (h.rd j hj).blk (fun b hbb => hb.block b (Nat.lt_of_lt_of_le (ap.old j hj b hbb) h.mv.size)), fun j h1 h2 => keep (h.row j h1 h2), fun j hj => keep (h.urow j hj), h.uown, h.udis, keep h.xrow, h.xown, h.xdis, keepL h.long, h.lnew, fun j hj => ?_, ?_⟩
  · rw [hb.cell (show (⟨g, j, none⟩ : Addr).block < _ from Nat.lt_of_lt_of_le ap.gl h.mv.size)]; exact h.cell j hj
  · exact h.mv.trans (F' := fun _ => False) ⟨hb.os, hb.tape, hb.output, hb.size, fun b hbb _ => hb.block b hbb⟩ (fun b e => e.elim)
/-- One more behind X. -/
theorem P3.app {v' : World} {X' : Value} (hel : e ≠ le) (ap : Aprt w g N V) (hi : i < N) (hA : ∀ q, q < n i * s → A i q = M i q) (h : P3 e le s K w v g N V n M A i U lv k X)
    (hr : RowX v' e s X' (n i + (k + 1)) (A i))
    (hc : (∃ q, X.ownBlock = some q ∧ X'.ownBlock = some q ∧ v.grownBy v' (some q)) ∨ ((∃ q, X'.ownBlock = some q ∧ v.heap.size ≤ q) ∧ v.grownBy v' none)) : P3 e le s K w v' g N V n M A i U lv (k + 1) X' := by
  rcases hc with ⟨q, e1, e2, hg⟩ | ⟨⟨q, e2, hq⟩, hg⟩
  · have hblk : ∀ b, b < v.heap.size → b ≠ q → v'.heap[b]? = v.heap[b]? := fun b hb hne => hg.block b hb (fun e => hne (by cases e; rfl))
    have keep : ∀ {e : TypeId} {s m : Nat} {x : Value} {f : Nat → Value}, RowX v e s x m f → (∀ b, x.ownBlock = some b → b ≠ q) → RowX v' e s x m f := fun hr hne => hr.of_block (fun b hb => hblk b (hr.lt b hb) (hne b hb))
    have keepL : ∀ {e : TypeId} {s m : Nat} {x : Value} {f : Nat → Value}, Row v e s x m f → (∀ b, x.ownBlock = some b → b ≠ q) → Row v' e s x m f := fun hr hne => hr.of_block (fun b hb => hblk b (hr.lt b hb) (hne b hb))
    have vne : ∀ j, j < N → j ≠ i → ∀ b, (V j).ownBlock = some b → b ≠ q := by
      intro j hj hne b hb e
      subst e
      rcases h.xown with h1 | ⟨b', h1, h2⟩
      · exact ap.dis j i hj hi hne b hb (by rw [← h1]; exact e1)
      · rw [e1] at h1; cases h1; have := ap.old j hj b hb; omega
    have gne : g ≠ q := by
      intro e
      rcases h.xown with h1 | ⟨b', h1, h2⟩
      · exact ap.far i hi (by rw [← h1, e1, e])
      · rw [e1] at h1; cases h1; have := ap.gl; omega
    have hF : bks N V q ∨ w.heap.size ≤ q := by
      rcases h.xown with h1 | ⟨b', h1, h2⟩
      · exact .inl ⟨i, hi, by rw [← h1]; exact e1⟩
      · rw [e1] at h1; cases h1; exact .inr h2
    refine ⟨fun j hj => ?_, fun j h1 h2 => keep (h.row j h1 h2) (vne j h2 (by omega)), fun j hj => keep (h.urow j hj) (fun b hb e => ?_), h.uown, h.udis, hr, ?_, fun j hj b hb => ?_, keepL h.long (fun b hb e => ?_), h.lnew, fun j hj => ?_, ?_⟩
    · by_cases hji : j = i
      · subst hji
        rcases h.xown with h1 | ⟨b', h1, h2⟩
        · exact (h.rd j hj).same hr e2 (by rw [← h1]; exact e1) (by omega) hA
        · rw [e1] at h1; cases h1
          exact (h.rd j hj).blk (fun b hb => hblk b (Nat.lt_of_lt_of_le (ap.old j hj b hb) h.mv.size) (by have := ap.old j hj b hb; omega))
      · exact (h.rd j hj).blk (fun b hb => hblk b (Nat.lt_of_lt_of_le (ap.old j hj b hb) h.mv.size) (vne j hj hji b hb))
    · subst e; exact h.xdis j hj b e1 hb
    · rcases h.xown with h1 | h1
      · exact .inl (by rw [e2, ← h1, e1])
      · exact .inr (by rw [e2, ← e1]; exact h1)
    · rw [e2] at hb; exact h.xdis j hj b (by rw [e1]; exact hb)
    · subst e; exact (h.xrow.apart h.long hel) b e1 hb
    · rw [World.cell?_of_block (hblk g (Nat.lt_of_lt_of_le ap.gl h.mv.size) gne)]; exact h.cell j hj
    · exact h.mv.grown hg (fun b e => by cases e; exact hF)
  · have hblk : ∀ b, b < v.heap.size → v'.heap[b]? = v.heap[b]? := fun b hb => hg.block b hb (fun e => by cases e)
    have keep : ∀ {e : TypeId} {s m : Nat} {x : Value} {f : Nat → Value}, RowX v e s x m f → RowX v' e s x m f := fun hr => hr.of_block (fun b hb => hblk b (hr.lt b hb))
    have keepL : ∀ {e : TypeId} {s m : Nat} {x : Value} {f : Nat → Value}, Row v e s x m f → Row v' e s x m f := fun hr => hr.of_block (fun b hb => hblk b (hr.lt b hb))
    have hsz := h.mv.size
    refine ⟨fun j hj => (h.rd j hj).blk (fun b hb => hblk b (Nat.lt_of_lt_of_le (ap.old j hj b hb) hsz)), fun j h1 h2 => keep (h.row j h1 h2), fun j hj => keep (h.urow j hj), h.uown, h.udis, hr, .inr ⟨q, e2, by omega⟩, fun j hj b hb e => ?_, keepL h.long, h.lnew, fun j hj => ?_, h.mv.grown hg (fun b e => by cases e)⟩
    · rw [e2] at hb; cases hb
      have := (h.urow j hj).lt _ e
      omega
    · rw [World.cell?_of_block (hblk g (Nat.lt_of_lt_of_le ap.gl hsz))]; exact h.cell j hj
/-- List i has grown: it is put down. -/
theorem P3.fin {v' : World} {lv' : Value} (hel : e ≠ le) (ap : Aprt w g N V) (h : P3 e le s K w v g N V n M A i U lv K X)
    (hr : Row v' le 1 lv' (i + 1) (fun j => if j = i then X else U j)) (hg : v.grownBy v' lv.ownBlock) (ho : lv'.ownBlock = lv.ownBlock ∨ lv'.ownBlock = some v.heap.size) :
    P2 e le s K w v' g N V n M A (i + 1) (fun j => if j = i then X else U j) lv' := by
  have hblk : ∀ b, b < v.heap.size → lv.ownBlock ≠ some b → v'.heap[b]? = v.heap[b]? := fun b hb hne => hg.block b hb (fun e => hne e.symm)
  have keep : ∀ {m : Nat} {x : Value} {f : Nat → Value}, RowX v e s x m f → RowX v' e s x m f := fun hr => hr.of_block (fun b hb => hblk b (hr.lt b hb) (fun e => (hr.apart h.long hel) b hb e))
  have lold : ∀ b, b < w.heap.size → lv.ownBlock ≠ some b := fun b hb e => by have := h.lnew b e; omega
  have hsz := h.mv.size
  refine ⟨fun j hj => (h.rd j hj).blk (fun b hb => hblk b (Nat.lt_of_lt_of_le (ap.old j hj b hb) hsz) (lold b (ap.old j hj b hb))), fun j h1 h2 => keep (h.row j (by omega) h2), fun j hj => ?_, fun j hj => ?_, fun j j' hj hj' hne b => ?_, hr, fun b hb => ?_, fun j hj => ?_, h.mv.grown hg (fun b e => .inr (h.lnew b e))⟩
  · by_cases e : j = i
    · subst e; simp only [if_true]; exact keep h.xrow
    · simp only [e, if_false]; exact keep (h.urow j (by omega))
  · by_cases e : j = i
    · subst e; simp only [if_true]; exact h.xown
    · simp only [e, if_false]; exact h.uown j (by omega)
  · by_cases e : j = i
    · subst e
      simp only [if_true, show ¬ j' = j from fun x => hne x.symm, if_false]
      exact fun hb => h.xdis j' (by omega) b hb
    · by_cases e' : j' = i
      · subst e'
        simp only [e, if_false, if_true]
        exact fun hb hb' => h.xdis j (by omega) b hb' hb
      · simp only [e, e', if_false]
        exact h.udis j j' (by omega) (by omega) hne b
  · rcases ho with h1 | h1
    · rw [h1] at hb; exact h.lnew b hb
    · rw [h1] at hb; cases hb; exact hsz
  · rw [World.cell?_of_block (hblk g (Nat.lt_of_lt_of_le ap.gl hsz) (lold g ap.gl))]; exact h.cell j hj
theorem P1.done (h : P1 e s w v g N V n M) : P2 e le s K w v g N V n M A 0 (fun _ => .slice none 0 0) (.slice none 0 0) :=
  ⟨fun j hj => RdO.of_row (h.row j hj), fun j _ hj => h.row j hj, fun j hj => by omega, fun j hj => by omega, fun j j' hj => by omega, Row.nil _ _ _ _, fun b hb => by simp [Value.ownBlock] at hb, h.cell, h.mv⟩
theorem P3.form (h : P3 e le s K w v g N V n M A i U lv k X) : ∃ ao c, X = .slice ao (n i + k) c := by
  obtain ⟨ao, c, e, _⟩ := h.xrow.form
  exact ⟨ao, c, e⟩
/-- What the last look reads of list i. -/
theorem P2.look (hs : 0 < s) (hK : 0 < K) (h : P2 e le s K w v g N V n M A N U lv) (hi : i < N) :
    ∃ gl lc bu cu, lv = .slice (some ⟨gl, 0, none⟩) N lc ∧ U i = .slice (some ⟨bu, 0, none⟩) (n i + K) cu ∧ v.cell? ⟨gl, i, none⟩ = some (.slice (some ⟨bu, 0, none⟩) (n i + K) cu) ∧ ∀ q, q < (n i + K) * s → v.cell? ⟨bu, q, none⟩ = some (A i q) := by
  obtain ⟨ao, lc, e1, h1, _⟩ := h.long.form
  obtain ⟨gl, rfl⟩ := h1 (by omega)
  have hu := h.urow i hi
  obtain ⟨bu, cu, e2, _⟩ := RdO.of_row hu 0 (Nat.mul_pos (by omega) hs)
  have hl := h.long
  rw [e1] at hl
  refine ⟨gl, lc, bu, cu, e1, e2, ?_, fun q hq => ?_⟩
  · rw [← e2]; exact hl.cell (by omega)
  · obtain ⟨b', c', e3, hf⟩ := RdO.of_row hu q hq
    rw [e2] at e3
    simp at e3
    rw [e3.1]; exact hf
end
end Go.Proofs.YtighocmdlifheaaGreatDoor

/-
  The walk of the document's Name.
-/
namespace Go.Proofs.YtighocmdlifheaaGreatDoor
open Go.RowKit

/-- Is a text a name? -/
def nameB (s : ByteArray) : Bool := !isW s && (decide (1 ≤ s.size) && (decide (s.size ≤ 16) && (hdB letB (rest s 0) && decide (lead goB (rest s 0) = s.size))))
end Go.Proofs.YtighocmdlifheaaGreatDoor
