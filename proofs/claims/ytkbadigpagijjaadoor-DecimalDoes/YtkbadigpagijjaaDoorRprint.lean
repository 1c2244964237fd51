/-
  The walk of the document's answer for layer 2: Print.
-/
import Derived.Test.YtkbadigpagijjaaDoorDigits
namespace Go.Proofs.YtkbadigpagijjaaDoor
open Go.RowKit

def sizeV : Value → Nat
  | .string S => S.size
  | _ => 0

theorem nought_ahead (j : Nat) (ds : List UInt8) : (⟨#[48]⟩ : ByteArray) ++ bytes (List.replicate j 48 ++ ds) = bytes (List.replicate (j + 1) 48 ++ ds) := by
  apply ba_ext; rw [bytes_list]; simp [bytes, List.replicate_succ]

set_option maxHeartbeats 1000000 in
theorem rprint_neg (n : Int) (p : Nat) (hp : p ≤ 9) (h0 : -9223372036854775808 ≤ n) (h1 : n ≤ 9223372036854775807) (hn : n < 0) (hp0 : ¬ (p : Int) = 0) (w : World) :
    Calls Tryd.prog 11 #[.int .i64 n, .int .i64 p] w fun e w' => e = .returned (.tuple #[.string (bytes (printL n p)), .int .i64 0]) ∧ Below w.heap.size w w' := by
  obtain ⟨l1, l2⟩ := digits_len n h0 h1
  obtain ⟨D, eD⟩ : ∃ D, D = bytes (Lib.itoa n) := ⟨_, rfl⟩
  obtain ⟨ds, eds⟩ : ∃ ds, ds = Lib.decDigits n.natAbs := ⟨_, rfl⟩
  obtain ⟨E, eE⟩ : ∃ E, E = bytes ds := ⟨_, rfl⟩
  rw [← eds] at l1 l2
  have hDs : D.size = ds.length + 1 := by rw [eD, eds, itoa_n hn, bytes_size]; rfl
  have hE : D.extract 1 D.size = E := by apply ba_ext; rw [eD, eE, eds, itoa_n hn, bytes_size, bytes_list]; simp [bytes]
  have cF := digits_any n h0 h1 w
  rw [← eD] at cF
  have HP : Hid (printL n p = 45 :: pointed p (padD p ds)) := by show _ = _; rw [printL_neg hn (by omega), eds]
  have g1 : 1 < D.size := by omega
  have g3 : D.size ≤ 20 := by omega
  have HE : Hid (E = bytes ds) := eE
  have hn' : ¬ 0 ≤ n := by omega
  clear eD eds eE hDs
  go_enter Tryd.func11, Tryd.ntmps11
  go_wp2_with (go_at_call 22; refine cF.mono ?_; rintro e w1 ⟨rfl, hb1⟩)
  go_loop [6] (fun s => ∃ (j : Nat) (S : ByteArray), s = .string S ∧ Hid (S = bytes (List.replicate j 48 ++ ds)) ∧ j ≤ p + 1 - ds.length ∧ Hid (S.size = j + ds.length)) (fun s => p + 1 - sizeV s)
  case atStart => exact ⟨0, E, rfl, HE, Nat.zero_le _, by show _ = _; rw [HE.out, bytes_size]; simp⟩
  case round =>
    obtain ⟨j, S, rfl, HS, hj, hS⟩ := hrel
    have hSs : S.size ≤ 30 := by have := hS.out; omega
    by_cases hlt : (S.size : Int) ≤ p
    · go_wp2_with fail
      go_round
      case rel =>
        exact ⟨j + 1, _, rfl, by show _ = _; rw [HS.out, nought_ahead], by have := hS.out; omega, by show _ = _; rw [ByteArray.size_append, hS.out]; show 1 + _ = _; omega⟩
      case measure =>
        have e1 : (⟨#[48]⟩ : ByteArray).size = 1 := rfl
        simp only [sizeV, ByteArray.size_append]
        omega
    · obtain ⟨k, ek⟩ : ∃ k, k = S.size - p := ⟨_, rfl⟩
      have hk : (S.size : Int) - p = k := by omega
      have hkS : k ≤ S.size := by omega
      have HR : Hid (bytes (printL n p) = (((⟨#[45]⟩ : ByteArray) ++ S.extract 0 k) ++ (⟨#[46]⟩ : ByteArray)) ++ S.extract k S.size) := by
        show _ = _
        rw [splice (p := p) _ _ _ ek, HP.out, HS.out, bytes_list]
        unfold padD
        rw [show p + 1 - ds.length = j by have := hS.out; omega]
        rfl
      clear ek
      go_wp2_with fail
      go_quiet (fail)
      go_wp2_with fail
      go_ret2
      refine ⟨ret2s HR.out.symm rfl, ?_⟩
      simpa using below_d hb1 _
set_option maxHeartbeats 1000000 in
theorem rprint_pos (n : Int) (p : Nat) (hp : p ≤ 9) (h0 : -9223372036854775808 ≤ n) (h1 : n ≤ 9223372036854775807) (hn : ¬ n < 0) (hp0 : ¬ (p : Int) = 0) (w : World) :
    Calls Tryd.prog 11 #[.int .i64 n, .int .i64 p] w fun e w' => e = .returned (.tuple #[.string (bytes (printL n p)), .int .i64 0]) ∧ Below w.heap.size w w' := by
  obtain ⟨l1, l2⟩ := digits_len n h0 h1
  obtain ⟨D, eD⟩ : ∃ D, D = bytes (Lib.itoa n) := ⟨_, rfl⟩
  obtain ⟨ds, eds⟩ : ∃ ds, ds = Lib.decDigits n.natAbs := ⟨_, rfl⟩
  obtain ⟨E, eE⟩ : ∃ E, E = bytes ds := ⟨_, rfl⟩
  rw [← eds] at l1 l2
  have hDs : D.size = ds.length := by rw [eD, eds, itoa_p hn, bytes_size]
  have hDE : D = E := by rw [eD, eE, eds, itoa_p hn]
  have cF := digits_any n h0 h1 w
  rw [← eD, hDE] at cF
  have HP : Hid (printL n p = pointed p (padD p ds)) := by show _ = _; rw [printL_pos hn (by omega), eds]
  have g3 : E.size ≤ 20 := by rw [← hDE]; omega
  have HE : Hid (E = bytes ds) := eE
  clear eD eds eE hDs hDE
  go_enter Tryd.func11, Tryd.ntmps11
  go_wp2_with (go_at_call 22; refine cF.mono ?_; rintro e w1 ⟨rfl, hb1⟩)
  go_loop [6] (fun s => ∃ (j : Nat) (S : ByteArray), s = .string S ∧ Hid (S = bytes (List.replicate j 48 ++ ds)) ∧ j ≤ p + 1 - ds.length ∧ Hid (S.size = j + ds.length)) (fun s => p + 1 - sizeV s)
  case atStart => exact ⟨0, E, rfl, HE, Nat.zero_le _, by show _ = _; rw [HE.out, bytes_size]; simp⟩
  case round =>
    obtain ⟨j, S, rfl, HS, hj, hS⟩ := hrel
    have hSs : S.size ≤ 30 := by have := hS.out; omega
    by_cases hlt : (S.size : Int) ≤ p
    · go_wp2_with fail
      go_round
      case rel =>
        exact ⟨j + 1, _, rfl, by show _ = _; rw [HS.out, nought_ahead], by have := hS.out; omega, by show _ = _; rw [ByteArray.size_append, hS.out]; show 1 + _ = _; omega⟩
      case measure =>
        have e1 : (⟨#[48]⟩ : ByteArray).size = 1 := rfl
        simp only [sizeV, ByteArray.size_append]
        omega
    · obtain ⟨k, ek⟩ : ∃ k, k = S.size - p := ⟨_, rfl⟩
      have hk : (S.size : Int) - p = k := by omega
      have hkS : k ≤ S.size := by omega
      have HR : Hid (bytes (printL n p) = (((⟨#[]⟩ : ByteArray) ++ S.extract 0 k) ++ (⟨#[46]⟩ : ByteArray)) ++ S.extract k S.size) := by
        show _ = _
        rw [splice (p := p) _ _ _ ek, HP.out, HS.out, bytes_list]
        unfold padD
        rw [show p + 1 - ds.length = j by have := hS.out; omega]
        rfl
      clear ek
      go_wp2_with fail
      go_quiet (fail)
      go_wp2_with fail
      go_ret2
      refine ⟨ret2s (by first | exact HR.out.symm | (rw [HR.out]; simp)) rfl, ?_⟩
      simpa using below_d hb1 _
theorem rprint_any (n p : Int) (h0 : -9223372036854775808 ≤ n) (h1 : n ≤ 9223372036854775807) (w : World) :
    Calls Tryd.prog 11 #[.int .i64 n, .int .i64 p] w fun e w' => e = .returned (.tuple #[.string (bytes (prL n p)), .int .i64 (prE p)]) ∧ Below w.heap.size w w' := by
  by_cases hpl : plB p = true
  · have hb := plB_iff.1 hpl
    rw [prL_yes hpl, prE_yes hpl]
    obtain ⟨q, rfl⟩ : ∃ q : Nat, p = q := ⟨p.toNat, by omega⟩
    rw [show ((q : Int)).toNat = q by omega]
    by_cases hp0 : (q : Int) = 0
    · obtain rfl : q = 0 := by omega
      have cF := digits_any n h0 h1 w
      go_enter Tryd.func11, Tryd.ntmps11
      go_wp2_with (go_at_call 22; refine cF.mono ?_; rintro e w1 ⟨rfl, hb1⟩)
      go_ret2
      exact ⟨ret2s (by rw [printL_0]) rfl, hb1⟩
    · by_cases hn : n < 0
      · exact rprint_neg n q (by omega) h0 h1 hn hp0 w
      · exact rprint_pos n q (by omega) h0 h1 hn hp0 w
  · have hpl : plB p = false := by simpa using hpl
    rw [prL_no hpl, prE_no hpl]
    by_cases hp : p < 0
    · go_enter Tryd.func11, Tryd.ntmps11
      go_wp2_with fail
      go_ret2
      exact ⟨rfl, Below.refl _ _⟩
    · have h9 : 9 < p := by
        by_cases h9 : 9 < p
        · exact h9
        · exact absurd (plB_true (p := p) (by omega) (by omega)) (by rw [hpl]; decide)
      go_enter Tryd.func11, Tryd.ntmps11
      go_wp2_with fail
      go_ret2
      exact ⟨rfl, Below.refl _ _⟩
end Go.Proofs.YtkbadigpagijjaaDoor
