/-
  The walk of the book's mark: a text for each number.
-/
import Derived.Test.YtelanneckjgnbaaDoorLxw
import Derived.Deep.RegionWith
import Derived.Laws.IdiomStrings
namespace Go.Proofs.YtelanneckjgnbaaDoor
open Go.RowKit

theorem ret1s {a b : ByteArray} (h : a = b) : Ending.returned (.string a) = .returned (.string b) := by rw [h]
/-- One byte as a text. -/
theorem conv1 (x : Int) (c : UInt8) (hx : x = c.toNat) (w : World) :
    (convert 181 9 (.slice (some ⟨w.heap.size, 0, none⟩) 1 1)).run Tryd.prog (w.alloc (.cells #[.int .u8 x] 5)) = .ok (.string ⟨#[c]⟩) (w.alloc (.cells #[.int .u8 x] 5)) := by
  have := run_convert_bytes_back (P := Tryd.prog) (w.alloc (.cells #[.int .u8 x] 5)) 181 9 5 ⟨w.heap.size, 0, none⟩ 1 [c] Tryd.underlying181 Tryd.underlying5 Tryd.underlying9 (fun j hj => by
    obtain rfl : j = 0 := by simp at hj; exact hj
    rw [hx]
    exact World.cell?_alloc_mark w _ _ _ _)
  exact this
def mrk (n : Nat) : List UInt8 := if n < 26 then [UInt8.ofNat (97 + n)] else mrk (n / 26) ++ [UInt8.ofNat (97 + n % 26)]
termination_by n
decreasing_by omega
def mrkP (n : Nat) : ByteArray := ⟨(mrk n).toArray⟩
def mrkI (n : Int) : ByteArray := if n < 0 then (⟨#[45]⟩ : ByteArray) ++ mrkP n.natAbs else mrkP n.natAbs
theorem mrk_len : ∀ (k n : Nat), n ≤ k → (mrk n).length ≤ n + 1 := by
  intro k
  induction k with
  | zero => intro n h; rw [mrk, if_pos (by omega)]; simp
  | succ k ih =>
    intro n h
    by_cases h26 : n < 26
    · rw [mrk, if_pos h26]; simp
    · rw [mrk, if_neg h26, List.length_append]
      have := ih (n / 26) (by omega)
      simp only [List.length_singleton]
      omega
theorem mrkP_size (n : Nat) : (mrkP n).size ≤ n + 1 := by
  have := mrk_len n n (Nat.le_refl _)
  unfold mrkP
  simpa [ByteArray.size] using this
theorem low_byte (m : Nat) (h : m < 26) : ((UInt8.ofNat (97 + m)).toNat : Int) = 97 + m := by
  rw [UInt8.toNat_ofNat_of_lt' (by show _ < 256; omega)]; omega
set_option maxRecDepth 100000 in
set_option maxHeartbeats 1000000 in
theorem mark_small (n : Nat) (h : n < 26) (w : World) : Calls Tryd.prog 71 #[.int .i64 n] w fun e w' => e = .returned (.string (mrkP n)) ∧ Below w.heap.size w w' := by
  obtain ⟨c, ec⟩ : ∃ c, c = UInt8.ofNat (97 + n) := ⟨_, rfl⟩
  have hcv := conv1 (97 + (n : Int) % 26) c (by rw [ec, low_byte n h]; omega)
  have HR : Hid (mrkP n = ⟨#[c]⟩) := by show _ = _; unfold mrkP; rw [mrk, if_pos h, ← ec]
  have h' : (n : Int) < 26 := by omega
  clear ec h
  go_enter Tryd.func71, Tryd.ntmps71
  go_wp2_with fail
  go_ret
  exact ⟨ret1s HR.out.symm, (Below.refl _ _).alloc (Nat.le_refl _) _⟩
set_option maxRecDepth 100000 in
set_option maxHeartbeats 1000000 in
theorem mark_pos (k : Nat) : ∀ (n : Nat) (w : World), n ≤ 1000000000 → n ≤ k → Calls Tryd.prog 71 #[.int .i64 n] w fun e w' => e = .returned (.string (mrkP n)) ∧ Below w.heap.size w w' := by
  induction k with
  | zero => intro n w _ h; exact mark_small n (by omega) w
  | succ k ih =>
    intro n w hn hk
    by_cases h : n < 26
    · exact mark_small n h w
    · obtain ⟨c, ec⟩ : ∃ c, c = UInt8.ofNat (97 + n % 26) := ⟨_, rfl⟩
      obtain ⟨E, eE⟩ : ∃ E, E = mrkP (n / 26) := ⟨_, rfl⟩
      have hEs : E.size ≤ 1000000001 := by rw [eE]; have := mrkP_size (n / 26); omega
      have hcv := conv1 (97 + (n : Int) % 26) c (by rw [ec, low_byte _ (by omega)]; omega)
      have HR : Hid (mrkP n = E ++ ⟨#[c]⟩) := by
        show _ = _
        refine str_eq ?_
        rw [eE]
        unfold mrkP
        rw [mrk, if_neg h, ← ec]
        simp
      have cE : ∀ w, Calls Tryd.prog 71 #[.int .i64 ((n : Int) / 26)] w fun e w' => e = .returned (.string E) ∧ Below w.heap.size w w' := fun w => by
        rw [eE, show ((n : Int) / 26) = ((n / 26 : Nat) : Int) by omega]; exact ih (n / 26) w (by omega) (by omega)
      have h' : ¬ (n : Int) < 26 := by omega
      clear ec eE ih h
      go_enter Tryd.func71, Tryd.ntmps71
      go_wp2_with (go_at_call 71; refine (cE _).mono ?_; rintro e w1 ⟨rfl, hb1⟩)
      go_ret
      exact ⟨ret1s HR.out.symm, (below_new w _).trans (hb1.mono (below_new w _).size)⟩
set_option maxRecDepth 100000 in
set_option maxHeartbeats 1000000 in
theorem mark_any' (n : Int) (h1 : -1000000000 ≤ n) (h2 : n ≤ 1000000000) (w : World) : Calls Tryd.prog 71 #[.int .i64 n] w fun e w' => e = .returned (.string (mrkI n)) ∧ Below w.heap.size w w' := by
  by_cases h : n < 0
  · obtain ⟨E, eE⟩ : ∃ E, E = mrkP n.natAbs := ⟨_, rfl⟩
    have hEs : E.size ≤ 1000000001 := by rw [eE]; have := mrkP_size n.natAbs; omega
    have HR : Hid (mrkI n = (⟨#[45]⟩ : ByteArray) ++ E) := by show _ = _; unfold mrkI; rw [if_pos h, eE]
    have cE : ∀ w, Calls Tryd.prog 71 #[.int .i64 (-n)] w fun e w' => e = .returned (.string E) ∧ Below w.heap.size w w' := fun w => by
      rw [eE, show -n = ((n.natAbs : Nat) : Int) by omega]; exact mark_pos n.natAbs n.natAbs w (by omega) (Nat.le_refl _)
    clear eE
    go_enter Tryd.func71, Tryd.ntmps71
    go_wp2_with (go_at_call 71; refine (cE _).mono ?_; rintro e w1 ⟨rfl, hb1⟩)
    go_ret
    exact ⟨ret1s HR.out.symm, hb1⟩
  · have e : n = ((n.natAbs : Nat) : Int) := by omega
    have HR : mrkI n = mrkP n.natAbs := by unfold mrkI; rw [if_neg h]
    rw [HR]
    have := mark_pos n.natAbs n.natAbs w (by omega) (Nat.le_refl _)
    rw [← e] at this
    exact this
end Go.Proofs.YtelanneckjgnbaaDoor
