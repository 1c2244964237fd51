/-
  The walks of the document's answer for layer 2: Digits, Print.
-/
import Derived.Test.YtkbadigpagijjaaDoorPrint
import Derived.Deep.RegionWith
import Derived.Laws.IdiomStrings
namespace Go.Proofs.YtkbadigpagijjaaDoor
open Go.RowKit

theorem ret1s {a b : ByteArray} (h : a = b) : Ending.returned (.string a) = .returned (.string b) := by rw [h]

/-- One byte as a text. -/
theorem conv1 (x : Int) (c : UInt8) (hx : x = c.toNat) (w : World) :
    (convert 54 9 (.slice (some ⟨w.heap.size, 0, none⟩) 1 1)).run Tryd.prog (w.alloc (.cells #[.int .u8 x] 5)) = .ok (.string ⟨#[c]⟩) (w.alloc (.cells #[.int .u8 x] 5)) := by
  have := run_convert_bytes_back (P := Tryd.prog) (w.alloc (.cells #[.int .u8 x] 5)) 54 9 5 ⟨w.heap.size, 0, none⟩ 1 [c] Tryd.underlying54 Tryd.underlying5 Tryd.underlying9 (fun j hj => by
    obtain rfl : j = 0 := by simp at hj; exact hj
    rw [hx]
    exact World.cell?_alloc_mark w _ _ _ _)
  exact this

/-- .. in a later world. -/
theorem conv2 {x : Int} {c : UInt8} (hx : x = c.toNat) {w w1 : World} (hb : Below (w.alloc (.cells #[.int .u8 x] 5)).drew.heap.size (w.alloc (.cells #[.int .u8 x] 5)).drew w1) :
    (convert 54 9 (.slice (some ⟨w.heap.size, 0, none⟩) 1 1)).run Tryd.prog w1 = .ok (.string ⟨#[c]⟩) w1 := by
  have := run_convert_bytes_back (P := Tryd.prog) w1 54 9 5 ⟨w.heap.size, 0, none⟩ 1 [c] Tryd.underlying54 Tryd.underlying5 Tryd.underlying9 (fun j hj => by
    obtain rfl : j = 0 := by simp at hj; exact hj
    rw [hb.cell (by show w.heap.size < (w.heap.push _).size; simp)]
    rw [hx]
    exact World.cell?_alloc_mark w _ _ _ _)
  exact this

theorem itoa_small {n : Int} (h0 : 0 ≤ n) (h1 : n < 10) : Lib.itoa n = [UInt8.ofNat (48 + n.natAbs)] := by
  rw [itoa_p (by omega), Lib.decDigits_one (by omega)]
theorem itoa_step {n : Int} (h : 10 ≤ n) : Lib.itoa n = Lib.itoa (n / 10) ++ [UInt8.ofNat (48 + n.natAbs % 10)] := by
  rw [itoa_p (by omega), itoa_p (by omega), Lib.decDigits, dif_neg (by omega), show (n / 10).natAbs = n.natAbs / 10 by omega]
theorem itoa_turn {n : Int} (h : n < 0) : Lib.itoa n = 45 :: Lib.itoa (-n) := by
  rw [itoa_n h, itoa_p (by omega), Int.natAbs_neg]
theorem itoa_down {n : Int} (h : n ≤ -10) : Lib.itoa n = Lib.itoa (-(-n / 10)) ++ [UInt8.ofNat (48 + n.natAbs % 10)] := by
  rw [itoa_n (by omega), itoa_n (by omega), Lib.decDigits, dif_neg (by omega), show (-(-n / 10)).natAbs = n.natAbs / 10 by omega]; rfl
theorem dig_byte (m : Nat) (h : m < 10) : ((UInt8.ofNat (48 + m)).toNat : Int) = 48 + m := by
  rw [UInt8.toNat_ofNat_of_lt' (by show _ < 256; omega)]; omega
theorem itoa_size (n : Int) (h0 : -9223372036854775808 ≤ n) (h1 : n ≤ 9223372036854775807) : (bytes (Lib.itoa n)).size ≤ 20 := by
  rw [bytes_size]
  have := digits_len n h0 h1
  by_cases h : n < 0
  · rw [itoa_n h, List.length_cons]; omega
  · rw [itoa_p h]; omega

set_option maxHeartbeats 400000 in
theorem digits_small (n : Int) (h0 : 0 ≤ n) (h1 : n < 10) (w : World) :
    Calls Tryd.prog 22 #[.int .i64 n] w fun e w' => e = .returned (.string (bytes (Lib.itoa n))) ∧ Below w.heap.size w w' := by
  obtain ⟨c, ec⟩ : ∃ c, c = UInt8.ofNat (48 + n.natAbs) := ⟨_, rfl⟩
  have hcv := conv1 (48 + n % 10) c (by rw [ec, dig_byte _ (by omega)]; omega)
  have HR : Hid (bytes (Lib.itoa n) = ⟨#[c]⟩) := by show _ = _; rw [itoa_small h0 h1, ← ec]; rfl
  clear ec
  go_enter Tryd.func22, Tryd.ntmps22
  go_wp2_with fail
  go_ret
  exact ⟨ret1s HR.out.symm, (Below.refl _ _).alloc (Nat.le_refl _) _⟩

set_option maxHeartbeats 400000 in
theorem digits_pos (k : Nat) : ∀ (n : Int) (w : World), 0 ≤ n → n ≤ 9223372036854775807 → n.natAbs ≤ k →
    Calls Tryd.prog 22 #[.int .i64 n] w fun e w' => e = .returned (.string (bytes (Lib.itoa n))) ∧ Below w.heap.size w w' := by
  induction k with
  | zero => intro n w h0 h1 hk; exact digits_small n h0 (by omega) w
  | succ k ih =>
    intro n w h0 h1 hk
    by_cases h10 : n < 10
    · exact digits_small n h0 h10 w
    · have h10' : 10 ≤ n := by omega
      obtain ⟨c, ec⟩ : ∃ c, c = UInt8.ofNat (48 + n.natAbs % 10) := ⟨_, rfl⟩
      obtain ⟨E, eE⟩ : ∃ E, E = bytes (Lib.itoa (n / 10)) := ⟨_, rfl⟩
      have hEs : E.size ≤ 20 := by rw [eE]; exact itoa_size _ (by omega) (by omega)
      have hcv := conv1 (48 + n % 10) c (by rw [ec, dig_byte _ (by omega)]; omega)
      have HR : Hid (bytes (Lib.itoa n) = E ++ ⟨#[c]⟩) := by show _ = _; apply ba_ext; rw [itoa_step h10', ← ec, eE]; simp [bytes]
      have cE : ∀ w, Calls Tryd.prog 22 #[.int .i64 (n / 10)] w fun e w' => e = .returned (.string E) ∧ Below w.heap.size w w' := fun w => by rw [eE]; exact ih (n / 10) w (by omega) (by omega) (by omega)
      clear ec eE ih
      go_enter Tryd.func22, Tryd.ntmps22
      go_wp2_with (go_at_call 22; refine (cE _).mono ?_; rintro e w1 ⟨rfl, hb1⟩)
      go_ret
      exact ⟨ret1s HR.out.symm, below2 ((Below.refl _ _).alloc (Nat.le_refl _) _) hb1⟩

set_option maxHeartbeats 400000 in
theorem digits_turn (n : Int) (h0 : -10 < n) (h1 : n < 0) (w : World) :
    Calls Tryd.prog 22 #[.int .i64 n] w fun e w' => e = .returned (.string (bytes (Lib.itoa n))) ∧ Below w.heap.size w w' := by
  obtain ⟨E, eE⟩ : ∃ E, E = bytes (Lib.itoa (-n)) := ⟨_, rfl⟩
  have hEs : E.size ≤ 20 := by rw [eE]; exact itoa_size _ (by omega) (by omega)
  have HR : Hid (bytes (Lib.itoa n) = ⟨#[45]⟩ ++ E) := by show _ = _; apply ba_ext; rw [itoa_turn h1, eE]; simp [bytes]
  have cE : ∀ w, Calls Tryd.prog 22 #[.int .i64 (-n)] w fun e w' => e = .returned (.string E) ∧ Below w.heap.size w w' := fun w => by rw [eE]; exact digits_small (-n) (by omega) (by omega) w
  clear eE
  go_enter Tryd.func22, Tryd.ntmps22
  go_wp2_with (go_at_call 22; refine (cE _).mono ?_; rintro e w1 ⟨rfl, hb1⟩)
  go_ret
  exact ⟨ret1s HR.out.symm, hb1⟩

set_option maxHeartbeats 1000000 in
theorem digits_neg (k : Nat) : ∀ (n : Int) (w : World), n < 0 → -9223372036854775808 ≤ n → n.natAbs ≤ k →
    Calls Tryd.prog 22 #[.int .i64 n] w fun e w' => e = .returned (.string (bytes (Lib.itoa n))) ∧ Below w.heap.size w w' := by
  induction k with
  | zero => intro n w h0 h1 hk; omega
  | succ k ih =>
    intro n w h0 h1 hk
    by_cases h10 : -10 < n
    · exact digits_turn n h10 h0 w
    · have h10' : n ≤ -10 := by omega
      obtain ⟨c, ec⟩ : ∃ c, c = UInt8.ofNat (48 + n.natAbs % 10) := ⟨_, rfl⟩
      obtain ⟨m, em⟩ : ∃ m, m = -(-n / 10) := ⟨_, rfl⟩
      obtain ⟨E, eE⟩ : ∃ E, E = bytes (Lib.itoa m) := ⟨_, rfl⟩
      have hEs : E.size ≤ 20 := by rw [eE]; exact itoa_size _ (by omega) (by omega)
      have HR : Hid (bytes (Lib.itoa n) = E ++ ⟨#[c]⟩) := by show _ = _; apply ba_ext; rw [itoa_down h10', ← ec, eE, em]; simp [bytes]
      have cE : ∀ w, Calls Tryd.prog 22 #[.int .i64 m] w fun e w' => e = .returned (.string E) ∧ Below w.heap.size w w' := fun w => by rw [eE]; exact ih m w (by omega) (by omega) (by omega)
      have hq : n.tdiv 10 = m := by
        have h := Int.neg_tdiv (-n) 10
        rw [Int.neg_neg] at h
        rw [h, em, Int.tdiv_eq_ediv_of_nonneg (by omega)]
      obtain ⟨d, ed⟩ : ∃ d, d = (c.toNat : Int) := ⟨_, rfl⟩
      have hr : 48 - n.tmod 10 = d := by
        rw [ed, ec, dig_byte _ (by omega)]
        have := Int.tmod_def n 10
        omega
      have hd := c.toNat_lt
      have hw0 : IntKind.i64.wrap m = m := by rw [IntKind.wrap_i64]; omega
      have hw1 : IntKind.i64.wrap d = d := by rw [IntKind.wrap_i64]; omega
      have hw2 : IntKind.u8.wrap d = d := by rw [IntKind.wrap_u8]; omega
      have hcv := conv1 d c ed
      have hcv2 : ∀ {w1 : World}, Below (w.alloc (.cells #[.int .u8 d] 5)).drew.heap.size (w.alloc (.cells #[.int .u8 d] 5)).drew w1 → _ := fun {w1} hb => conv2 (w1 := w1) ed hb
      have HC : Hid (∀ {w1 : World}, Below (w.alloc (.cells #[.int .u8 d] 5)).drew.heap.size (w.alloc (.cells #[.int .u8 d] 5)).drew w1 → (convert 54 9 (.slice (some ⟨w.heap.size, 0, none⟩) 1 1)).run Tryd.prog w1 = .ok (.string ⟨#[c]⟩) w1) := hcv2
      have hcv4 := HC.out (Below.refl _ (w.alloc (.cells #[.int .u8 d] 5)).drew)
      clear ec eE ih em hcv2 ed hd
      go_enter Tryd.func22, Tryd.ntmps22
      go_wp2_with fail
      go_region_with (go_at_call 22; refine (cE _).mono ?_; rintro e w1 ⟨rfl, hb1⟩; try have hcv3 := HC.out hb1)
      all_goals
        go_wp2_with fail
        go_ret
        refine ⟨ret1s HR.out.symm, ?_⟩
      · exact (below2 (below_d (Below.refl _ w) 1) hb1).alloc (by have := hb1.size; exact this) _
      · exact below2 (below_d ((Below.refl _ w).alloc (Nat.le_refl _) _) 1) hb1
      · exact below2 (below_d ((Below.refl _ w).alloc (Nat.le_refl _) _) 1) hb1

theorem digits_any (n : Int) (h0 : -9223372036854775808 ≤ n) (h1 : n ≤ 9223372036854775807) (w : World) :
    Calls Tryd.prog 22 #[.int .i64 n] w fun e w' => e = .returned (.string (bytes (Lib.itoa n))) ∧ Below w.heap.size w w' := by
  by_cases h : n < 0
  · exact digits_neg n.natAbs n w h h0 (Nat.le_refl _)
  · exact digits_pos n.natAbs n w (by omega) h1 (Nat.le_refl _)
end Go.Proofs.YtkbadigpagijjaaDoor
