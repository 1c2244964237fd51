/-
  Contracts over a slice of numbers, nil or empty or not; the numbers of a list in another order.
-/
import Derived.Test.YtfdnfdakejabaaaLent
import Derived.Test.YtfdnfdakejabaaaRefSum
import Derived.OpenShut
namespace Go.Proofs.Ytfdnfdakejabaaa
open Go.RowKit

theorem Lies.below {w w' : World} {ao : Option Addr} {len : Nat} {zs : List Int} (h : Lies w ao len zs) (hb : Below w.heap.size w w') : Lies w' ao len zs := by
  refine ⟨h.1, h.2.1, fun ad had j hj => ?_⟩
  have hc := h.2.2 ad had j hj
  rw [hb.cell (World.block_lt_of_cell? w _ hc)]
  exact hc

/-- Where there is a number there is an array. -/
theorem Lies.addr {w : World} {ao : Option Addr} {len : Nat} {zs : List Int} (h : Lies w ao len zs) (h0 : 0 < len) :
    ∃ b off, ao = some ⟨b, off, none⟩ ∧ b < w.heap.size ∧ ∀ j, j < len → w.cell? ⟨b, off + j, none⟩ = some (.int .i64 (zs.getD j 0)) := by
  cases ao with
  | none => have := h.2.1 rfl; omega
  | some ad =>
    have hc := h.2.2 ad rfl
    obtain ⟨b, off, rfl, hc'⟩ := ints_at (zs := zs) (fun i hi => hc i (by rw [← h.1]; exact hi)) (by rw [h.1]; exact h0)
    rw [h.1] at hc'
    exact ⟨b, off, rfl, World.block_lt_of_cell? w _ (hc' 0 h0), hc'⟩

/-- Each number is one of 64 bits. -/
def Fits (zs : List Int) : Prop := ∀ j : Nat, -9223372036854775808 ≤ zs[j]?.getD 0 ∧ zs[j]?.getD 0 ≤ 9223372036854775807

theorem sum_lies (ao : Option Addr) (len cap : Nat) (zs : List Int) (w : World) (h : Lies w ao len zs) (hmax : len ≤ 4611686018427387904) (hf : Fits zs) :
    Calls Try.prog 26 #[.slice ao len cap] w fun e w' => e = .returned (.tuple #[.int .i64 (fitN zs.sum), .bool (fitB zs.sum)]) ∧ w' = w := by
  by_cases h0 : len = 0
  · subst h0
    have hz : zs = [] := List.eq_nil_of_length_eq_zero h.1
    subst hz
    exact sum_none ao cap w
  · obtain ⟨b, off, rfl, _, hc⟩ := h.addr (by omega)
    have ht : zs.take len = zs := List.take_of_length_le (by rw [h.1]; exact Nat.le_refl _)
    have := sum_any b off len cap zs w (by rw [h.1]; exact Nat.le_refl _) hmax (by rw [h.1]; exact hc) hf
    rw [ht] at this
    exact this
theorem rsum_lies (ao : Option Addr) (len cap : Nat) (zs : List Int) (w : World) (h : Lies w ao len zs) (hmax : len ≤ 268435455) (hf : Fits zs) :
    Calls Try.prog 28 #[.slice ao len cap] w fun e w' => e = .returned (.tuple #[.int .i64 (fitN zs.sum), .bool (fitB zs.sum)]) ∧ w' = w := by
  by_cases h0 : len = 0
  · subst h0
    have hz : zs = [] := List.eq_nil_of_length_eq_zero h.1
    subst hz
    exact rsum_none ao cap w
  · obtain ⟨b, off, rfl, _, hc⟩ := h.addr (by omega)
    have ht : zs.take len = zs := List.take_of_length_le (by rw [h.1]; exact Nat.le_refl _)
    have := rsum_any b off len cap zs w (by rw [h.1]; exact Nat.le_refl _) hmax (by rw [h.1]; exact hc) hf
    rw [ht] at this
    exact this
theorem whole_lies (B : Nat) (ao : Option Addr) (len cap : Nat) (zs : List Int) (w : World) (hB : Lies w (some ⟨B, 0, none⟩) len zs) (h : Lies w ao len zs) (hmax : len ≤ 268435455)
    (hm1 : w.cell? ⟨B, len, none⟩ = some (.int .i64 (-771))) (hm2 : w.cell? ⟨B, len + 1, none⟩ = some (.int .i64 (-772))) :
    Calls Try.prog 27 #[.slice (some ⟨B, 0, none⟩) len (len + 2), .slice ao len cap] w fun e w' => e = .returned (.bool true) ∧ ∃ n, w' = w.drewN n := by
  by_cases h0 : len = 0
  · subst h0
    exact whole_none B ao cap w hm1 hm2
  · obtain ⟨b, off, rfl, _, hc⟩ := h.addr (by omega)
    refine whole_any B b off cap len zs w h.1 hmax (fun j hj => ?_) hc hm1 hm2
    have := hB.2.2 _ rfl j hj
    rw [Addr.add_lit, Nat.zero_add] at this
    exact this

/-- What the call itself has laid, as a slice of numbers. -/
theorem Lies.own {w : World} {base g n cap : Nat} {xs : List Int} (h : w.ownsRow base 2 1 (.slice (some ⟨g, 0, none⟩) n cap) n (xs.map (Value.int .i64))) (m : Nat) (hm : m ≤ n) : Lies w (some ⟨g, 0, none⟩) m (xs.take m) := by
  have hl : xs.length = n := by have := h.1; simpa using this
  refine ⟨by rw [List.length_take]; omega, (fun e => by cases e), fun ad had j hj => ?_⟩
  cases had
  have hc := h.cellAt j (by omega)
  rw [Addr.add_lit, Nat.zero_add, hc]
  simp [List.getD, hj, show j < xs.length by omega]

/-- The lent copy, its block by a name. -/
theorem lent_at (B : Nat) (ao : Option Addr) (len cap : Nat) (zs : List Int) (w : World) (hB : w.heap.size = B) (hL : Lies w ao len zs) (hn : ao = none → cap = 0) (hmax : len ≤ 268435455) :
    Calls Try.prog 25 #[.slice ao len cap] w fun e w' => e = .returned (.slice (some ⟨B, 0, none⟩) len (len + 2)) ∧ B < w'.heap.size ∧
      Lies w' (some ⟨B, 0, none⟩) len zs ∧ w'.cell? ⟨B, len, none⟩ = some (.int .i64 (-771)) ∧ w'.cell? ⟨B, len + 1, none⟩ = some (.int .i64 (-772)) ∧ Below B w w' := by
  subst hB
  refine (lent_any ao len cap zs w hL (fun h => ⟨hL.2.1 h, hn h⟩) hmax).mono ?_
  rintro e w' ⟨rfl, hown, hbel⟩
  have hz := hL.1
  refine ⟨rfl, (hown.lt _ rfl).2, ?_, ?_, ?_, hbel⟩
  · have := Lies.own hown len (by omega)
    rw [List.take_append_of_le_length (by omega), List.take_of_length_le (by omega)] at this
    exact this
  · rw [hown.cellAt len (by omega)]
    simp [hz]
  · rw [hown.cellAt (len + 1) (by omega)]
    simp [hz]

/-- The numbers from one place on backwards, and round. -/
def turned (zs : List Int) (t k : Nat) : List Int := (List.range k).map fun i => zs.getD ((zs.length - 1 - i + t) % zs.length) 0
theorem turned_length (zs : List Int) (t k : Nat) : (turned zs t k).length = k := by simp [turned]
theorem turned_succ (zs : List Int) (t k : Nat) : turned zs t (k + 1) = turned zs t k ++ [zs.getD ((zs.length - 1 - k + t) % zs.length) 0] := by
  simp [turned, List.range_succ]
theorem turned_eq (zs : List Int) (t : Nat) (ht : t < zs.length) : turned zs t zs.length = (zs.take t).reverse ++ (zs.drop t).reverse := by
  apply List.ext_getElem
  · simp [turned]; omega
  · intro i h1 h2
    have hi : i < zs.length := by simpa [turned] using h1
    have e1 : (turned zs t zs.length)[i] = zs.getD ((zs.length - 1 - i + t) % zs.length) 0 := by simp [turned]
    rw [e1]
    by_cases hit : i < t
    · have em : (zs.length - 1 - i + t) % zs.length = t - 1 - i := by
        rw [show zs.length - 1 - i + t = (t - 1 - i) + zs.length by omega, Nat.add_mod_right]
        exact Nat.mod_eq_of_lt (by omega)
      rw [em, List.getElem_append_left (by simp; omega), List.getElem_reverse, List.getElem_take]
      simp only [List.length_take, Nat.min_eq_left (Nat.le_of_lt ht)]
      simp [List.getD, show t - 1 - i < zs.length by omega]
    · have em : (zs.length - 1 - i + t) % zs.length = zs.length - 1 - i + t := Nat.mod_eq_of_lt (by omega)
      rw [em, List.getElem_append_right (by simp; omega), List.getElem_reverse, List.getElem_drop]
      simp only [List.length_take, List.length_drop, List.length_reverse, Nat.min_eq_left (Nat.le_of_lt ht)]
      simp only [List.getD, show zs.length - 1 - i + t < zs.length by omega, List.getElem?_eq_getElem, Option.getD_some]
      congr 1
      omega
theorem sum_reverse (l : List Int) : l.reverse.sum = l.sum := by
  induction l with
  | nil => rfl
  | cons a l ih => simp [List.sum_append, ih]; omega
theorem turned_sum (zs : List Int) (t : Nat) (ht : t < zs.length) : (turned zs t zs.length).sum = zs.sum := by
  rw [turned_eq zs t ht, List.sum_append, sum_reverse, sum_reverse, ← List.sum_append, List.take_append_drop]
theorem turned_fits (zs : List Int) (t k : Nat) (h : Fits zs) : Fits (turned zs t k) := by
  intro j
  by_cases hj : j < k
  · have e : (turned zs t k)[j]?.getD 0 = zs[(zs.length - 1 - j + t) % zs.length]?.getD 0 := by simp [turned, hj, List.getD]
    rw [e]; exact h _
  · rw [List.getElem?_eq_none (by rw [turned_length]; omega)]; simp

/-- A slice of numbers that came in. -/
theorem lies_of_row {w : World} {a : Option Addr} {len cap : Nat} {zs : List Int} (h : (a = none ∧ len = 0 ∧ cap = 0 ∧ zs = []) ∨
    ∃ x, a = some x ∧ len ≤ cap ∧ cap ≤ maxLen ∧ zs.length = cap ∧ (∀ i, i < zs.length → w.cell? (x.add i) = some (.int .i64 (zs.getD i 0))) ∧ ∀ n ∈ zs, (Lit.int .i64 n).wf = true) :
    Lies w a len (zs.take len) ∧ (a = none → cap = 0) ∧ Fits (zs.take len) := by
  rcases h with ⟨rfl, rfl, rfl, rfl⟩ | ⟨x, rfl, hlc, _, hz, hc, hw⟩
  · exact ⟨⟨rfl, fun _ => rfl, (fun ad had => by cases had)⟩, fun _ => rfl, fun j => by simp⟩
  · refine ⟨⟨by rw [List.length_take]; omega, (fun e => by cases e), fun ad had j hj => ?_⟩, (fun e => by cases e), fun j => ?_⟩
    · cases had
      rw [hc j (by omega)]
      simp [List.getD, hj]
    · by_cases hj : j < (zs.take len).length
      · rw [List.getElem?_eq_getElem hj, Option.getD_some]
        exact bounds_i64 (hw _ (List.mem_of_mem_take (List.getElem_mem hj)))
      · rw [List.getElem?_eq_none (by omega)]; simp
end Go.Proofs.Ytfdnfdakejabaaa
