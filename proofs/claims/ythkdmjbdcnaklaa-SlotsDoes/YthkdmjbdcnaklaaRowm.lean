/-
  Plain: one row, things taken out of it.
-/
import Derived.Test.YthkdmjbdcnaklaaWorks
import Derived.OpenShut
namespace Go.Proofs.Ythkdmjbdcnaklaa
open Go.RowKit

def Q (l : List Nat) : Nat → List Nat := upd (fun _ => []) 0 l
theorem Q_upd (l l' : List Nat) : upd (Q l) 0 l' = Q l' := by
  funext k
  unfold Q upd
  split <;> rfl
theorem Q_nil : (fun _ => []) = Q [] := by
  funext k
  unfold Q upd
  split <;> rfl
theorem Q_zero (l : List Nat) : Q l 0 = l := rfl
theorem Q_total (l : List Nat) : total (Q l) 1 = l.length := by simp [total, Q_zero]
theorem Q_least (i : Nat) : Least 1 (Q (List.range i)) i := by
  refine ⟨fun j hj => ?_, fun m hm => ⟨0, by omega, by rw [Q_zero]; simpa using hm⟩⟩
  obtain rfl : j = 0 := by omega
  rw [Q_zero]; simp

/-- What is left. -/
def left (n : Nat) (g : Nat → Bool) : List Nat := (List.range n).filter (fun j => !g j)
theorem left_all (n : Nat) : left n (fun _ => false) = List.range n := by
  unfold left
  rw [List.filter_eq_self]
  intro a _
  rfl
theorem left_mem {n : Nat} {g : Nat → Bool} {k : Nat} : k ∈ left n g ↔ k < n ∧ g k = false := by simp [left]
theorem left_nodup (n : Nat) (g : Nat → Bool) : (left n g).Nodup := List.filter_sublist.nodup List.nodup_range
theorem erase_filter {l : List Nat} (hd : l.Nodup) {pos k : Nat} (h : l[pos]? = some k) : l.eraseIdx pos = l.filter (fun j => decide (j ≠ k)) := by
  induction l generalizing pos with
  | nil => simp at h
  | cons a l ih =>
    rw [List.nodup_cons] at hd
    cases pos with
    | zero =>
      simp at h
      subst h
      rw [List.eraseIdx_cons_zero, List.filter_cons]
      simp only [ne_eq, not_true_eq_false, decide_false, Bool.false_eq_true, if_false]
      symm
      rw [List.filter_eq_self]
      intro b hb
      simp
      rintro rfl
      exact hd.1 hb
    | succ pos =>
      simp at h
      have hm := some_mem h
      have hne : a ≠ k := by rintro rfl; exact hd.1 hm
      rw [List.eraseIdx_cons_succ, ih hd.2 h, List.filter_cons]
      simp [hne]
theorem left_take {n : Nat} {g : Nat → Bool} {pos k : Nat} (h : (left n g)[pos]? = some k) : (left n g).eraseIdx pos = left n (upd g k true) := by
  rw [erase_filter (left_nodup n g) h]
  unfold left
  rw [List.filter_filter]
  refine List.filter_congr (fun j _ => ?_)
  unfold upd
  by_cases e : j = k
  · simp [e]
  · simp [e]
/-- How many are left of the first i. -/
def cntL (g : Nat → Bool) (i : Nat) : Nat := (left i g).length
theorem left_succ (i : Nat) (g : Nat → Bool) : left (i + 1) g = if g i then left i g else left i g ++ [i] := by
  unfold left
  rw [List.range_succ, List.filter_append]
  by_cases h : g i = true
  · rw [if_pos h]; simp [h]
  · rw [if_neg h]; simp [h]
theorem cnt_succ_gone {g : Nat → Bool} {i : Nat} (h : g i = true) : cntL g (i + 1) = cntL g i := by unfold cntL; rw [left_succ, h]; rfl
theorem cnt_succ {g : Nat → Bool} {i : Nat} (h : g i = false) : cntL g (i + 1) = cntL g i + 1 := by unfold cntL; rw [left_succ, h]; simp
theorem left_prefix (i k : Nat) (g : Nat → Bool) : ∃ r, left (i + k) g = left i g ++ r := by
  induction k with
  | zero => exact ⟨[], by simp⟩
  | succ k ih =>
    obtain ⟨r, hr⟩ := ih
    rw [show i + (k + 1) = (i + k) + 1 by omega, left_succ, hr]
    split
    · exact ⟨r, rfl⟩
    · exact ⟨r ++ [i + k], by simp⟩
theorem left_at {n i : Nat} {g : Nat → Bool} (hi : i < n) (h : g i = false) : (left n g)[cntL g i]? = some i := by
  obtain ⟨r, hr⟩ := left_prefix (i + 1) (n - (i + 1)) g
  rw [show i + 1 + (n - (i + 1)) = n by omega, left_succ, h] at hr
  rw [hr]
  unfold cntL
  simp

/-- A slice of numbers that came in. -/
def Lies (w : World) (ao : Option Addr) (len : Nat) (zs : List Int) : Prop :=
  zs.length = len ∧ (ao = none → len = 0) ∧ ∀ ad, ao = some ad → ∀ j, j < len → w.cell? (ad.add j) = some (.int .i64 (zs.getD j 0))
theorem Lies.addr {w : World} {ao : Option Addr} {len : Nat} {zs : List Int} (h : Lies w ao len zs) (h0 : 0 < len) :
    ∃ b off, ao = some ⟨b, off, none⟩ ∧ b < w.heap.size ∧ ∀ j, j < len → w.cell? ⟨b, off + j, none⟩ = some (.int .i64 (zs.getD j 0)) := by
  cases ao with
  | none => have := h.2.1 rfl; omega
  | some ad =>
    have hc := h.2.2 ad rfl
    obtain ⟨b, off, rfl, hc'⟩ := ints_at (zs := zs) (fun i hi => hc i (by rw [← h.1]; exact hi)) (by rw [h.1]; exact h0)
    rw [h.1] at hc'
    exact ⟨b, off, rfl, World.block_lt_of_cell? w _ (hc' 0 h0), hc'⟩

end Go.Proofs.Ythkdmjbdcnaklaa
