/-
  An arena as it lies in memory: its own block, the row of its rows' ends, the row of its cells, the row of its freed numbers.
-/
import Derived.Test.YthkdmjbdcnaklaaMem
namespace Go.Proofs.Ythkdmjbdcnaklaa
open Go.RowKit

structure St (X : Type) where
  nr : Nat
  room : Int
  nc : Nat
  fi : Nat → Int
  la : Nat → Int
  co : Nat → Int
  th : Nat → X
  rw : Nat → Int
  bk : Nat → Int
  nx : Nat → Int
  nf : Nat
  fr : Nat → Int

/-- Where it lies. -/
structure Pl where
  A : Nat
  R : Nat
  ca : Option Addr
  cc : Nat
  fa : Option Addr
  fc : Nat

def rowF {X : Type} (s : St X) (j : Nat) : Value := if j % 3 = 0 then .int .i64 (s.fi (j / 3)) else if j % 3 = 1 then .int .i64 (s.la (j / 3)) else .int .i64 (s.co (j / 3))
def cellF {X : Type} (enc : X → Value) (s : St X) (j : Nat) : Value := if j % 4 = 0 then enc (s.th (j / 4)) else if j % 4 = 1 then .int .i64 (s.rw (j / 4)) else if j % 4 = 2 then .int .i64 (s.bk (j / 4)) else .int .i64 (s.nx (j / 4))
def freeF {X : Type} (s : St X) (j : Nat) : Value := .int .i64 (s.fr j)

structure Ar {X : Type} (tA tC : TypeId) (enc : X → Value) (w : World) (p : Pl) (s : St X) : Prop where
  own : w.heap[p.A]? = some (.cells #[.slice (some ⟨p.R, 0, none⟩) s.nr s.nr, .int .i64 s.room, .slice p.ca s.nc p.cc, .slice p.fa s.nf p.fc] tA (0, 0))
  rows : Row w 61 3 (.slice (some ⟨p.R, 0, none⟩) s.nr s.nr) s.nr (rowF s)
  cells : Row w tC 4 (.slice p.ca s.nc p.cc) s.nc (cellF enc s)
  freed : Row w 3 1 (.slice p.fa s.nf p.fc) s.nf (freeF s)

variable {X : Type} {tA tC : TypeId} {enc : X → Value} {w : World} {p : Pl} {s : St X}

theorem own_cell {c : Array Value} {t : TypeId} {A j : Nat} (h : w.heap[A]? = some (.cells c t (0, 0))) : w.cell? ⟨A, j, none⟩ = c[j]? ∧ w.frozen? ⟨A, j, none⟩ = false := by
  constructor
  · unfold World.cell?; rw [h]; simp
  · unfold World.frozen?; rw [h]; simp

theorem Ar.c0 (h : Ar tA tC enc w p s) : w.cell? ⟨p.A, 0, none⟩ = some (.slice (some ⟨p.R, 0, none⟩) s.nr s.nr) := (own_cell h.own).1
theorem Ar.c1 (h : Ar tA tC enc w p s) : w.cell? ⟨p.A, 1, none⟩ = some (.int .i64 s.room) := (own_cell h.own).1
theorem Ar.c2 (h : Ar tA tC enc w p s) : w.cell? ⟨p.A, 2, none⟩ = some (.slice p.ca s.nc p.cc) := (own_cell h.own).1
theorem Ar.c3 (h : Ar tA tC enc w p s) : w.cell? ⟨p.A, 3, none⟩ = some (.slice p.fa s.nf p.fc) := (own_cell h.own).1
theorem Ar.cf (h : Ar tA tC enc w p s) (j : Nat) : w.frozen? ⟨p.A, j, none⟩ = false := (own_cell h.own).2

theorem Ar.fi (h : Ar tA tC enc w p s) {i : Nat} (hi : i < s.nr) : w.cell? ⟨p.R, i * 3, none⟩ = some (.int .i64 (s.fi i)) := by
  rw [h.rows.cell (by omega)]; unfold rowF; rw [if_pos (by omega), show i * 3 / 3 = i by omega]
theorem Ar.la (h : Ar tA tC enc w p s) {i : Nat} (hi : i < s.nr) : w.cell? ⟨p.R, i * 3 + 1, none⟩ = some (.int .i64 (s.la i)) := by
  rw [h.rows.cell (by omega)]; unfold rowF; rw [if_neg (by omega), if_pos (by omega), show (i * 3 + 1) / 3 = i by omega]
theorem Ar.co (h : Ar tA tC enc w p s) {i : Nat} (hi : i < s.nr) : w.cell? ⟨p.R, i * 3 + 2, none⟩ = some (.int .i64 (s.co i)) := by
  rw [h.rows.cell (by omega)]; unfold rowF; rw [if_neg (by omega), if_neg (by omega), show (i * 3 + 2) / 3 = i by omega]
theorem Ar.rf (h : Ar tA tC enc w p s) (j : Nat) : w.frozen? ⟨p.R, j, none⟩ = false := h.rows.frozen j

theorem Ar.at (h : Ar tA tC enc w p s) (hn : 0 < s.nc) : ∃ g, p.ca = some ⟨g, 0, none⟩ := by
  obtain ⟨ao, c, e, h1, _⟩ := h.cells.form
  cases e
  exact h1 hn
theorem Ar.fat (h : Ar tA tC enc w p s) (hn : 0 < s.nf) : ∃ g, p.fa = some ⟨g, 0, none⟩ := by
  obtain ⟨ao, c, e, h1, _⟩ := h.freed.form
  cases e
  exact h1 hn
theorem Ar.th (h : Ar tA tC enc w p s) {g i : Nat} (hg : p.ca = some ⟨g, 0, none⟩) (hi : i < s.nc) : w.cell? ⟨g, i * 4, none⟩ = some (enc (s.th i)) := by
  have hc := h.cells
  rw [hg] at hc
  rw [hc.cell (by omega)]; unfold cellF; rw [if_pos (by omega), show i * 4 / 4 = i by omega]
theorem Ar.rw (h : Ar tA tC enc w p s) {g i : Nat} (hg : p.ca = some ⟨g, 0, none⟩) (hi : i < s.nc) : w.cell? ⟨g, i * 4 + 1, none⟩ = some (.int .i64 (s.rw i)) := by
  have hc := h.cells
  rw [hg] at hc
  rw [hc.cell (by omega)]; unfold cellF; rw [if_neg (by omega), if_pos (by omega), show (i * 4 + 1) / 4 = i by omega]
theorem Ar.bk (h : Ar tA tC enc w p s) {g i : Nat} (hg : p.ca = some ⟨g, 0, none⟩) (hi : i < s.nc) : w.cell? ⟨g, i * 4 + 2, none⟩ = some (.int .i64 (s.bk i)) := by
  have hc := h.cells
  rw [hg] at hc
  rw [hc.cell (by omega)]; unfold cellF; rw [if_neg (by omega), if_neg (by omega), if_pos (by omega), show (i * 4 + 2) / 4 = i by omega]
theorem Ar.nx (h : Ar tA tC enc w p s) {g i : Nat} (hg : p.ca = some ⟨g, 0, none⟩) (hi : i < s.nc) : w.cell? ⟨g, i * 4 + 3, none⟩ = some (.int .i64 (s.nx i)) := by
  have hc := h.cells
  rw [hg] at hc
  rw [hc.cell (by omega)]; unfold cellF; rw [if_neg (by omega), if_neg (by omega), if_neg (by omega), show (i * 4 + 3) / 4 = i by omega]
theorem Ar.gf (h : Ar tA tC enc w p s) {g : Nat} (hg : p.ca = some ⟨g, 0, none⟩) (j : Nat) : w.frozen? ⟨g, j, none⟩ = false := by
  have hc := h.cells
  rw [hg] at hc
  exact hc.frozen j

/-- What is asked of a thing's number. -/
def hasN {X : Type} (s : St X) (n : Int) : Bool := decide (0 ≤ n) && decide (n < s.nc) && !decide (s.rw n.toNat = -1)
theorem hasN_iff {X : Type} (s : St X) (n : Int) : hasN s n = true ↔ 0 ≤ n ∧ n < s.nc ∧ s.rw n.toNat ≠ -1 := by simp [hasN, and_assoc]
def rowN {X : Type} (s : St X) (n : Int) : Bool := decide (0 ≤ n) && decide (n < s.nr)
theorem rowN_iff {X : Type} (s : St X) (n : Int) : rowN s n = true ↔ 0 ≤ n ∧ n < s.nr := by simp [rowN]

end Go.Proofs.Ythkdmjbdcnaklaa
