/-
  Slices of structs that came in, or were made: cell j holds 'f j'.
-/
import Derived.Test.YtjjmpfpbfkploaaMv
import Derived.Test.YtjjmpfpbfkploaaFg
namespace Go.Proofs.Ytjjmpfpbfkploaa
open Go.RowKit

def Lie (w : World) (ao : Option Addr) (len s : Nat) (f : Nat → Value) : Prop :=
  0 < len → ∃ b off, ao = some ⟨b, off, none⟩ ∧ b < w.heap.size ∧ ∀ j, j < len * s → w.cell? ⟨b, off + j, none⟩ = some (f j)
theorem Lie.on {w w' : World} {ao : Option Addr} {len s : Nat} {f : Nat → Value} (h : Lie w ao len s f) (k : Below w.heap.size w w') : Lie w' ao len s f := by
  intro h0
  obtain ⟨b, off, e, hb, hc⟩ := h h0
  exact ⟨b, off, e, Nat.lt_of_lt_of_le hb k.size, fun j hj => (k.cell hb).trans (hc j hj)⟩
theorem Lie.news {w w' : World} {ao : Option Addr} {len s : Nat} {f : Nat → Value} (h : Lie w ao len s f) (hg : w.grownBy w' none) : ∀ ad, ao = some ad → ∀ j u, ((List.range (len * s)).map f)[j]? = some u → w'.cell? (ad.add j) = some u := by
  intro ad had j u hu
  have hj : j < len * s := by
    have := (List.getElem?_eq_some_iff.1 hu).1
    simpa using this
  rw [List.getElem?_map, List.getElem?_range hj] at hu
  have h0 : 0 < len := by
    rcases Nat.eq_zero_or_pos len with h | h
    · subst h; simp at hj
    · exact h
  obtain ⟨b, off, e, hb, hc⟩ := h h0
  rw [e] at had
  cases had
  have hc' := hg.cell (hc j hj) (fun e => by cases e)
  simp at hu
  rw [← hu, Addr.add_lit]
  exact hc'
/-- A feed's three cells. -/
def fdF (A : Nat → Fd) (j : Nat) : Value := if j % 3 = 0 then .int .u8 (A (j / 3)).k else if j % 3 = 1 then .int .i64 (A (j / 3)).a else .int .i64 (A (j / 3)).b
theorem fdF_one (A : Nat → Fd) (j : Nat) : (fdF A j).oneCell' = true := by
  unfold fdF
  split
  · rfl
  · split <;> rfl
theorem fdF0 (A : Nat → Fd) (i : Nat) : fdF A (i * 3) = .int .u8 (A i).k := by
  unfold fdF; rw [if_pos (by omega), show i * 3 / 3 = i by omega]
theorem fdF1 (A : Nat → Fd) (i : Nat) : fdF A (i * 3 + 1) = .int .i64 (A i).a := by
  unfold fdF; rw [if_neg (by omega), if_pos (by omega), show (i * 3 + 1) / 3 = i by omega]
theorem fdF2 (A : Nat → Fd) (i : Nat) : fdF A (i * 3 + 2) = .int .i64 (A i).b := by
  unfold fdF; rw [if_neg (by omega), if_neg (by omega), show (i * 3 + 2) / 3 = i by omega]
theorem Lie.fds {w : World} {ao : Option Addr} {len : Nat} {A : Nat → Fd} (h : Lie w ao len 3 (fdF A)) (hw : ∀ j, j < len → Wf (A j)) : Fds w ao len A := by
  intro h0
  obtain ⟨b, off, e, hb, hc⟩ := h h0
  refine ⟨b, off, e, hb, fun j hj => ⟨⟨?_, ?_, ?_⟩, hw j hj⟩⟩
  · rw [hc (j * 3) (by omega), fdF0]
  · have := hc (j * 3 + 1) (by omega)
    rw [← Nat.add_assoc] at this
    rw [this, fdF1]
  · have := hc (j * 3 + 2) (by omega)
    rw [← Nat.add_assoc] at this
    rw [this, fdF2]
theorem Fds.lie {w : World} {ao : Option Addr} {len : Nat} {A : Nat → Fd} (h : Fds w ao len A) : Lie w ao len 3 (fdF A) := by
  intro h0
  obtain ⟨b, off, e, hb, hc⟩ := h h0
  refine ⟨b, off, e, hb, fun j hj => ?_⟩
  have hq := (hc (j / 3) (by omega)).1
  have hr : j % 3 = 0 ∨ j % 3 = 1 ∨ j % 3 = 2 := by omega
  rcases hr with hr | hr | hr
  · rw [show j = j / 3 * 3 by omega, fdF0]; exact hq.c0
  · rw [show j = j / 3 * 3 + 1 by omega, fdF1, ← Nat.add_assoc]; exact hq.c1
  · rw [show j = j / 3 * 3 + 2 by omega, fdF2, ← Nat.add_assoc]; exact hq.c2
structure Ev where
  wh : Int
  id : Int
  ot : Int
  cl : Int
  ho : Int
  si : Int
  pr : Int
  qt : Int
  wa : Int
def evA (e : Ev) : Array Value := #[.int .u8 e.wh, .int .i64 e.id, .int .i64 e.ot, .int .i64 e.cl, .int .i64 e.ho, .int .u8 e.si, .int .i64 e.pr, .int .i64 e.qt, .int .i64 e.wa]
structure EvAt (w : World) (b o : Nat) (e : Ev) : Prop where
  c0 : w.cell? ⟨b, o, none⟩ = some (.int .u8 e.wh)
  c1 : w.cell? ⟨b, o + 1, none⟩ = some (.int .i64 e.id)
  c2 : w.cell? ⟨b, o + 2, none⟩ = some (.int .i64 e.ot)
  c3 : w.cell? ⟨b, o + 3, none⟩ = some (.int .i64 e.cl)
  c4 : w.cell? ⟨b, o + 4, none⟩ = some (.int .i64 e.ho)
  c5 : w.cell? ⟨b, o + 5, none⟩ = some (.int .u8 e.si)
  c6 : w.cell? ⟨b, o + 6, none⟩ = some (.int .i64 e.pr)
  c7 : w.cell? ⟨b, o + 7, none⟩ = some (.int .i64 e.qt)
  c8 : w.cell? ⟨b, o + 8, none⟩ = some (.int .i64 e.wa)
theorem EvAt.on {w w' : World} {b B o : Nat} {r : Ev} (h : EvAt w b o r) (k : Below B w w') (hb : b < B) : EvAt w' b o r :=
  ⟨(k.cell hb).trans h.c0, (k.cell hb).trans h.c1, (k.cell hb).trans h.c2, (k.cell hb).trans h.c3, (k.cell hb).trans h.c4, (k.cell hb).trans h.c5, (k.cell hb).trans h.c6, (k.cell hb).trans h.c7, (k.cell hb).trans h.c8⟩
theorem EvAt.new (w : World) (r : Ev) (t : TypeId) : EvAt (w.alloc (.cells (evA r) t)) w.heap.size 0 r :=
  ⟨(cell_alloc ..).trans rfl, (cell_alloc ..).trans rfl, (cell_alloc ..).trans rfl, (cell_alloc ..).trans rfl, (cell_alloc ..).trans rfl, (cell_alloc ..).trans rfl, (cell_alloc ..).trans rfl, (cell_alloc ..).trans rfl, (cell_alloc ..).trans rfl⟩
/-- An event's nine cells. -/
def evF (A : Nat → Ev) (j : Nat) : Value := if j % 9 = 0 then .int .u8 (A (j / 9)).wh else if j % 9 = 1 then .int .i64 (A (j / 9)).id else if j % 9 = 2 then .int .i64 (A (j / 9)).ot else if j % 9 = 3 then .int .i64 (A (j / 9)).cl else if j % 9 = 4 then .int .i64 (A (j / 9)).ho else if j % 9 = 5 then .int .u8 (A (j / 9)).si else if j % 9 = 6 then .int .i64 (A (j / 9)).pr else if j % 9 = 7 then .int .i64 (A (j / 9)).qt else .int .i64 (A (j / 9)).wa
theorem evF_one (A : Nat → Ev) (j : Nat) : (evF A j).oneCell' = true := by
  unfold evF
  repeat' split
  all_goals rfl
theorem evF0 (A : Nat → Ev) (i : Nat) : evF A (i * 9) = .int .u8 (A i).wh := by
  unfold evF; rw [if_pos (by omega), show (i * 9) / 9 = i by omega]
theorem evF1 (A : Nat → Ev) (i : Nat) : evF A (i * 9 + 1) = .int .i64 (A i).id := by
  unfold evF; rw [if_neg (by omega), if_pos (by omega), show (i * 9 + 1) / 9 = i by omega]
theorem evF2 (A : Nat → Ev) (i : Nat) : evF A (i * 9 + 2) = .int .i64 (A i).ot := by
  unfold evF; rw [if_neg (by omega), if_neg (by omega), if_pos (by omega), show (i * 9 + 2) / 9 = i by omega]
theorem evF3 (A : Nat → Ev) (i : Nat) : evF A (i * 9 + 3) = .int .i64 (A i).cl := by
  unfold evF; rw [if_neg (by omega), if_neg (by omega), if_neg (by omega), if_pos (by omega), show (i * 9 + 3) / 9 = i by omega]
theorem evF4 (A : Nat → Ev) (i : Nat) : evF A (i * 9 + 4) = .int .i64 (A i).ho := by
  unfold evF; rw [if_neg (by omega), if_neg (by omega), if_neg (by omega), if_neg (by omega), if_pos (by omega), show (i * 9 + 4) / 9 = i by omega]
theorem evF5 (A : Nat → Ev) (i : Nat) : evF A (i * 9 + 5) = .int .u8 (A i).si := by
  unfold evF; rw [if_neg (by omega), if_neg (by omega), if_neg (by omega), if_neg (by omega), if_neg (by omega), if_pos (by omega), show (i * 9 + 5) / 9 = i by omega]
theorem evF6 (A : Nat → Ev) (i : Nat) : evF A (i * 9 + 6) = .int .i64 (A i).pr := by
  unfold evF; rw [if_neg (by omega), if_neg (by omega), if_neg (by omega), if_neg (by omega), if_neg (by omega), if_neg (by omega), if_pos (by omega), show (i * 9 + 6) / 9 = i by omega]
theorem evF7 (A : Nat → Ev) (i : Nat) : evF A (i * 9 + 7) = .int .i64 (A i).qt := by
  unfold evF; rw [if_neg (by omega), if_neg (by omega), if_neg (by omega), if_neg (by omega), if_neg (by omega), if_neg (by omega), if_neg (by omega), if_pos (by omega), show (i * 9 + 7) / 9 = i by omega]
theorem evF8 (A : Nat → Ev) (i : Nat) : evF A (i * 9 + 8) = .int .i64 (A i).wa := by
  unfold evF; rw [if_neg (by omega), if_neg (by omega), if_neg (by omega), if_neg (by omega), if_neg (by omega), if_neg (by omega), if_neg (by omega), if_neg (by omega), show (i * 9 + 8) / 9 = i by omega]
/-- A slice of events. -/
def Evs (w : World) (ao : Option Addr) (len : Nat) (A : Nat → Ev) : Prop := Lie w ao len 9 (evF A)
theorem Evs.at {w : World} {ao : Option Addr} {len : Nat} {A : Nat → Ev} (h : Evs w ao len A) (h0 : 0 < len) : ∃ b off, ao = some ⟨b, off, none⟩ ∧ b < w.heap.size ∧ ∀ j, j < len → EvAt w b (off + j * 9) (A j) := by
  obtain ⟨b, off, e, hb, hc⟩ := h h0
  refine ⟨b, off, e, hb, fun j hj => ⟨?_, ?_, ?_, ?_, ?_, ?_, ?_, ?_, ?_⟩⟩
  · rw [hc (j * 9) (by omega), evF0]
  · have := hc (j * 9 + 1) (by omega)
    rw [← Nat.add_assoc] at this
    rw [this, evF1]
  · have := hc (j * 9 + 2) (by omega)
    rw [← Nat.add_assoc] at this
    rw [this, evF2]
  · have := hc (j * 9 + 3) (by omega)
    rw [← Nat.add_assoc] at this
    rw [this, evF3]
  · have := hc (j * 9 + 4) (by omega)
    rw [← Nat.add_assoc] at this
    rw [this, evF4]
  · have := hc (j * 9 + 5) (by omega)
    rw [← Nat.add_assoc] at this
    rw [this, evF5]
  · have := hc (j * 9 + 6) (by omega)
    rw [← Nat.add_assoc] at this
    rw [this, evF6]
  · have := hc (j * 9 + 7) (by omega)
    rw [← Nat.add_assoc] at this
    rw [this, evF7]
  · have := hc (j * 9 + 8) (by omega)
    rw [← Nat.add_assoc] at this
    rw [this, evF8]
end Go.Proofs.Ytjjmpfpbfkploaa
