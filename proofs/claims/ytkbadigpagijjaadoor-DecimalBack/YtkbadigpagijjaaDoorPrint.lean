/-
  The walk of decimal.Print.
-/
import Derived.Test.YtkbadigpagijjaaDoorShelf
import Derived.Test.YtkbadigpagijjaaDoorForm
import Derived.Test.YtkbadigpagijjaaDoorDec
import Derived.Lib.AppendIntMem
namespace Go.Proofs.YtkbadigpagijjaaDoor
open Go.RowKit

/-- The table of powers of ten lies as the program's text lays it. -/
def Tab (w : World) : Prop := Lib.TabIs Tryd.prog w "internal/strconv.uint64pow10" .u64 Lib.pow10Tab
theorem Tab.on {w w' : World} (h : Tab w) (hb : Below w.heap.size w w') : Tab w' := Lib.tabBelow_of_tabIs h w' hb

theorem format_any (n : Int) (h0 : -9223372036854775808 ≤ n) (h1 : n ≤ 9223372036854775807) (w : World) (ht : Tab w) :
    Calls Tryd.prog 20 #[.int .i64 n, .int .i64 10] w fun e w' => e = .returned (.string ⟨(Lib.itoa n).toArray⟩) ∧ Below w.heap.size w w' := by
  refine (Tryd.strconv_FormatInt_10 n h0 h1 w ht).mono ?_
  rintro e w' ⟨rfl, k, os, rfl⟩
  exact ⟨rfl, Lib.below_grow _ w (Nat.le_refl _) k os⟩

theorem repeat_any (c : Nat) (hc : c ≤ 10) (w : World) :
    Calls Tryd.prog 21 #[.string ⟨#[48]⟩, .int .i64 c] w fun e w' => e = .returned (.string ⟨(List.replicate c (48 : UInt8)).toArray⟩) ∧ Below w.heap.size w w' := by
  refine (Tryd.strings_Repeat ⟨#[48]⟩ c w (by omega) (by show 1 * c ≤ _; omega)).mono ?_
  rintro e w' ⟨rfl, hb⟩
  refine ⟨?_, hb⟩
  have := Lib.repeatL_replicate 48 1 c
  rw [Nat.mul_one] at this
  rw [← this]
  rfl

theorem ret2s {a b : ByteArray} {c d : Int} (h : a = b) (h' : c = d) : Ending.returned (.tuple #[.string a, .int .i64 c]) = .returned (.tuple #[.string b, .int .i64 d]) := by rw [h, h']

theorem below2 {w w1 w2 : World} (h1 : Below w.heap.size w w1) (h2 : Below w1.heap.size w1 w2) : Below w.heap.size w w2 := h1.trans (h2.mono h1.size)
theorem below_d {w w1 : World} (h1 : Below w.heap.size w w1) (n : Nat) : Below w.heap.size w (w1.drewN n) := h1.trans ⟨rfl, rfl, rfl, Nat.le_refl _, fun _ _ => rfl⟩

set_option maxHeartbeats 400000 in
theorem print_neg_short (n : Int) (p : Nat) (hp : p ≤ 9) (h0 : -9223372036854775808 ≤ n) (h1 : n ≤ 9223372036854775807) (hn : n < 0) (hp0 : ¬ (p : Int) = 0) (hsh : (Lib.decDigits n.natAbs).length < p + 1) (w : World) (ht : Tab w) :
    Calls Tryd.prog 10 #[.int .i64 n, .int .i64 p] w fun e w' => e = .returned (.tuple #[.string (bytes (printL n p)), .int .i64 0]) ∧ Below w.heap.size w w' := by
  have hpl := plB_true (p := (p : Int)) (by omega) (by omega)
  obtain ⟨l1, l2⟩ := digits_len n h0 h1
  obtain ⟨D, eD⟩ : ∃ D, D = bytes (Lib.itoa n) := ⟨_, rfl⟩
  obtain ⟨E, eE⟩ : ∃ E, E = bytes (Lib.decDigits n.natAbs) := ⟨_, rfl⟩
  obtain ⟨c, ec⟩ : ∃ c, c = p + 1 - (Lib.decDigits n.natAbs).length := ⟨_, rfl⟩
  obtain ⟨F, eF⟩ : ∃ F, F = bytes (padD p (Lib.decDigits n.natAbs)) := ⟨_, rfl⟩
  obtain ⟨k, ek⟩ : ∃ k, k = F.size - p := ⟨_, rfl⟩
  obtain ⟨R, eR⟩ : ∃ R : ByteArray, R = ⟨(List.replicate c (48 : UInt8)).toArray⟩ := ⟨_, rfl⟩
  have hF1 : F.size = p + 1 - E.size + E.size := by rw [eF, eE, bytes_size, padD_len, bytes_size]
  have hE1 : E.size = (Lib.decDigits n.natAbs).length := by rw [eE, bytes_size]
  have hDs : D.size = E.size + 1 := by rw [eD, eE, itoa_n hn, bytes_size, bytes_size]; rfl
  have hS : D.extract 0 1 = ⟨#[45]⟩ := by apply ba_ext; rw [eD, itoa_n hn]; simp [bytes]
  have hE : D.extract 1 D.size = E := by apply ba_ext; rw [eD, eE, itoa_n hn, bytes_size, bytes_list]; simp [bytes]
  have hc : (p : Int) + 1 - E.size = c := by omega
  have hc0 : 0 < (c : Int) := by omega
  have hcE : R ++ E = F := by apply ba_ext; rw [eF, eE, eR]; unfold padD; rw [← ec]; simp [bytes]
  have hk : (F.size : Int) - p = k := by omega
  have HR : Hid (bytes (printL n p) = (((⟨#[45]⟩ : ByteArray) ++ F.extract 0 k) ++ (⟨#[46]⟩ : ByteArray)) ++ F.extract k F.size) := by
    show _ = _
    rw [splice (p := p) _ _ _ ek, printL_neg hn (by omega), eF, bytes_list]; rfl
  have cF : Calls Tryd.prog 20 #[.int .i64 n, .int .i64 10] w fun e w' => e = .returned (.string D) ∧ Below w.heap.size w w' := by rw [eD]; exact format_any n h0 h1 w ht
  have cR : ∀ w, Calls Tryd.prog 21 #[.string ⟨#[48]⟩, .int .i64 c] w fun e w' => e = .returned (.string R) ∧ Below w.heap.size w w' := fun w => by rw [eR]; exact repeat_any c (by omega) w
  have g1 : 0 < D.size := by omega
  have g2 : k ≤ F.size := by omega
  have g3 : D.size ≤ 20 := by omega
  have g4 : F.size ≤ 20 := by omega
  have g6 : R.size ≤ 10 := by rw [eR]; show (List.replicate c (48 : UInt8)).toArray.size ≤ 10; simp; omega
  have g7 : E.size ≤ 19 := by omega
  have g5 : 1 < D.size := by omega
  clear eD eE eF ec ek eR hE1 hDs hsh l1 l2 hF1
  go_enter Tryd.func10, Tryd.ntmps10
  go_wp2_with (first | (go_at_call 13; refine (places_any _ _).mono ?_; rintro e w1 ⟨rfl, rfl⟩) | (go_at_call 20; refine cF.mono ?_; rintro e w1 ⟨rfl, hb1⟩))
  go_quiet (fail)
  go_wp2_with (go_at_call 21; refine (cR _).mono ?_; rintro e w2 ⟨rfl, hb2⟩)
  go_quiet (fail)
  go_wp2_with fail
  go_ret2
  refine ⟨ret2s HR.out.symm rfl, ?_⟩
  simpa using below_d (below2 (below_d hb1 _) hb2) _

set_option maxHeartbeats 400000 in
theorem print_neg_long (n : Int) (p : Nat) (hp : p ≤ 9) (h0 : -9223372036854775808 ≤ n) (h1 : n ≤ 9223372036854775807) (hn : n < 0) (hp0 : ¬ (p : Int) = 0) (hsh : p + 1 ≤ (Lib.decDigits n.natAbs).length) (w : World) (ht : Tab w) :
    Calls Tryd.prog 10 #[.int .i64 n, .int .i64 p] w fun e w' => e = .returned (.tuple #[.string (bytes (printL n p)), .int .i64 0]) ∧ Below w.heap.size w w' := by
  have hpl := plB_true (p := (p : Int)) (by omega) (by omega)
  obtain ⟨l1, l2⟩ := digits_len n h0 h1
  obtain ⟨D, eD⟩ : ∃ D, D = bytes (Lib.itoa n) := ⟨_, rfl⟩
  obtain ⟨E, eE⟩ : ∃ E, E = bytes (Lib.decDigits n.natAbs) := ⟨_, rfl⟩
  obtain ⟨c, ec⟩ : ∃ c, c = p + 1 - (Lib.decDigits n.natAbs).length := ⟨_, rfl⟩
  obtain ⟨F, eF⟩ : ∃ F, F = bytes (padD p (Lib.decDigits n.natAbs)) := ⟨_, rfl⟩
  obtain ⟨k, ek⟩ : ∃ k, k = F.size - p := ⟨_, rfl⟩
  obtain ⟨R, eR⟩ : ∃ R : ByteArray, R = ⟨(List.replicate c (48 : UInt8)).toArray⟩ := ⟨_, rfl⟩
  have hF1 : F.size = p + 1 - E.size + E.size := by rw [eF, eE, bytes_size, padD_len, bytes_size]
  have hE1 : E.size = (Lib.decDigits n.natAbs).length := by rw [eE, bytes_size]
  have hDs : D.size = E.size + 1 := by rw [eD, eE, itoa_n hn, bytes_size, bytes_size]; rfl
  have hS : D.extract 0 1 = ⟨#[45]⟩ := by apply ba_ext; rw [eD, itoa_n hn]; simp [bytes]
  have hE : D.extract 1 D.size = E := by apply ba_ext; rw [eD, eE, itoa_n hn, bytes_size, bytes_list]; simp [bytes]
  have hc0 : ¬ 0 < (p : Int) + 1 - E.size := by omega
  have hEF : E = F := by rw [eF, eE, padD_long hsh]
  have hk : (F.size : Int) - p = k := by omega
  have HR : Hid (bytes (printL n p) = (((⟨#[45]⟩ : ByteArray) ++ F.extract 0 k) ++ (⟨#[46]⟩ : ByteArray)) ++ F.extract k F.size) := by
    show _ = _
    rw [splice (p := p) _ _ _ ek, printL_neg hn (by omega), eF, bytes_list]; rfl
  have cF : Calls Tryd.prog 20 #[.int .i64 n, .int .i64 10] w fun e w' => e = .returned (.string D) ∧ Below w.heap.size w w' := by rw [eD]; exact format_any n h0 h1 w ht
  have cR : ∀ w, Calls Tryd.prog 21 #[.string ⟨#[48]⟩, .int .i64 c] w fun e w' => e = .returned (.string R) ∧ Below w.heap.size w w' := fun w => by rw [eR]; exact repeat_any c (by omega) w
  have g1 : 0 < D.size := by omega
  have g2 : k ≤ F.size := by omega
  have g3 : D.size ≤ 20 := by omega
  have g4 : F.size ≤ 20 := by omega
  have g6 : R.size ≤ 10 := by rw [eR]; show (List.replicate c (48 : UInt8)).toArray.size ≤ 10; simp; omega
  have g7 : E.size ≤ 19 := by omega
  have g5 : 1 < D.size := by omega
  clear eD eE eF ec ek eR hE1 hDs hsh l1 l2 hF1
  clear cR
  subst hEF
  go_enter Tryd.func10, Tryd.ntmps10
  go_wp2_with (first | (go_at_call 13; refine (places_any _ _).mono ?_; rintro e w1 ⟨rfl, rfl⟩) | (go_at_call 20; refine cF.mono ?_; rintro e w1 ⟨rfl, hb1⟩))
  go_quiet (fail)
  go_wp2_with fail
  go_quiet (fail)
  go_wp2_with fail
  go_ret2
  refine ⟨ret2s HR.out.symm rfl, ?_⟩
  simpa using below_d hb1 _

set_option maxHeartbeats 400000 in
theorem print_pos_short (n : Int) (p : Nat) (hp : p ≤ 9) (h0 : -9223372036854775808 ≤ n) (h1 : n ≤ 9223372036854775807) (hn : ¬ n < 0) (hp0 : ¬ (p : Int) = 0) (hsh : (Lib.decDigits n.natAbs).length < p + 1) (w : World) (ht : Tab w) :
    Calls Tryd.prog 10 #[.int .i64 n, .int .i64 p] w fun e w' => e = .returned (.tuple #[.string (bytes (printL n p)), .int .i64 0]) ∧ Below w.heap.size w w' := by
  have hpl := plB_true (p := (p : Int)) (by omega) (by omega)
  obtain ⟨l1, l2⟩ := digits_len n h0 h1
  obtain ⟨D, eD⟩ : ∃ D, D = bytes (Lib.itoa n) := ⟨_, rfl⟩
  obtain ⟨E, eE⟩ : ∃ E, E = bytes (Lib.decDigits n.natAbs) := ⟨_, rfl⟩
  obtain ⟨c, ec⟩ : ∃ c, c = p + 1 - (Lib.decDigits n.natAbs).length := ⟨_, rfl⟩
  obtain ⟨F, eF⟩ : ∃ F, F = bytes (padD p (Lib.decDigits n.natAbs)) := ⟨_, rfl⟩
  obtain ⟨k, ek⟩ : ∃ k, k = F.size - p := ⟨_, rfl⟩
  obtain ⟨R, eR⟩ : ∃ R : ByteArray, R = ⟨(List.replicate c (48 : UInt8)).toArray⟩ := ⟨_, rfl⟩
  have hF1 : F.size = p + 1 - E.size + E.size := by rw [eF, eE, bytes_size, padD_len, bytes_size]
  have hE1 : E.size = (Lib.decDigits n.natAbs).length := by rw [eE, bytes_size]
  have hDE : D = E := by rw [eD, eE, itoa_p hn]
  have hDs : D.size = E.size := by rw [hDE]
  have hc : (p : Int) + 1 - E.size = c := by omega
  have hc0 : 0 < (c : Int) := by omega
  have hcE : R ++ E = F := by apply ba_ext; rw [eF, eE, eR]; unfold padD; rw [← ec]; simp [bytes]
  have hk : (F.size : Int) - p = k := by omega
  have HR : Hid (bytes (printL n p) = (((⟨#[]⟩ : ByteArray) ++ F.extract 0 k) ++ (⟨#[46]⟩ : ByteArray)) ++ F.extract k F.size) := by
    show _ = _
    rw [splice (p := p) _ _ _ ek, printL_pos hn (by omega), eF, bytes_list]; rfl
  have cF : Calls Tryd.prog 20 #[.int .i64 n, .int .i64 10] w fun e w' => e = .returned (.string E) ∧ Below w.heap.size w w' := by rw [← hDE]; rw [eD]; exact format_any n h0 h1 w ht
  have cR : ∀ w, Calls Tryd.prog 21 #[.string ⟨#[48]⟩, .int .i64 c] w fun e w' => e = .returned (.string R) ∧ Below w.heap.size w w' := fun w => by rw [eR]; exact repeat_any c (by omega) w
  have g1 : 0 < D.size := by omega
  have g2 : k ≤ F.size := by omega
  have g3 : D.size ≤ 20 := by omega
  have g4 : F.size ≤ 20 := by omega
  have g6 : R.size ≤ 10 := by rw [eR]; show (List.replicate c (48 : UInt8)).toArray.size ≤ 10; simp; omega
  have g7 : E.size ≤ 19 := by omega
  clear eD eE eF ec ek eR hE1 hDs hsh l1 l2 hF1 hDE
  go_enter Tryd.func10, Tryd.ntmps10
  go_wp2_with (first | (go_at_call 13; refine (places_any _ _).mono ?_; rintro e w1 ⟨rfl, rfl⟩) | (go_at_call 20; refine cF.mono ?_; rintro e w1 ⟨rfl, hb1⟩) | (go_at_call 21; refine (cR _).mono ?_; rintro e w2 ⟨rfl, hb2⟩))
  go_quiet (fail)
  go_wp2_with fail
  go_ret2
  refine ⟨ret2s (by first | exact HR.out.symm | (rw [HR.out]; simp)) rfl, ?_⟩
  simpa using below_d (below2 hb1 hb2) _

set_option maxHeartbeats 400000 in
theorem print_pos_long (n : Int) (p : Nat) (hp : p ≤ 9) (h0 : -9223372036854775808 ≤ n) (h1 : n ≤ 9223372036854775807) (hn : ¬ n < 0) (hp0 : ¬ (p : Int) = 0) (hsh : p + 1 ≤ (Lib.decDigits n.natAbs).length) (w : World) (ht : Tab w) :
    Calls Tryd.prog 10 #[.int .i64 n, .int .i64 p] w fun e w' => e = .returned (.tuple #[.string (bytes (printL n p)), .int .i64 0]) ∧ Below w.heap.size w w' := by
  have hpl := plB_true (p := (p : Int)) (by omega) (by omega)
  obtain ⟨l1, l2⟩ := digits_len n h0 h1
  obtain ⟨D, eD⟩ : ∃ D, D = bytes (Lib.itoa n) := ⟨_, rfl⟩
  obtain ⟨E, eE⟩ : ∃ E, E = bytes (Lib.decDigits n.natAbs) := ⟨_, rfl⟩
  obtain ⟨c, ec⟩ : ∃ c, c = p + 1 - (Lib.decDigits n.natAbs).length := ⟨_, rfl⟩
  obtain ⟨F, eF⟩ : ∃ F, F = bytes (padD p (Lib.decDigits n.natAbs)) := ⟨_, rfl⟩
  obtain ⟨k, ek⟩ : ∃ k, k = F.size - p := ⟨_, rfl⟩
  obtain ⟨R, eR⟩ : ∃ R : ByteArray, R = ⟨(List.replicate c (48 : UInt8)).toArray⟩ := ⟨_, rfl⟩
  have hF1 : F.size = p + 1 - E.size + E.size := by rw [eF, eE, bytes_size, padD_len, bytes_size]
  have hE1 : E.size = (Lib.decDigits n.natAbs).length := by rw [eE, bytes_size]
  have hDE : D = E := by rw [eD, eE, itoa_p hn]
  have hDs : D.size = E.size := by rw [hDE]
  have hc0 : ¬ 0 < (p : Int) + 1 - E.size := by omega
  have hEF : E = F := by rw [eF, eE, padD_long hsh]
  have hk : (F.size : Int) - p = k := by omega
  have HR : Hid (bytes (printL n p) = (((⟨#[]⟩ : ByteArray) ++ F.extract 0 k) ++ (⟨#[46]⟩ : ByteArray)) ++ F.extract k F.size) := by
    show _ = _
    rw [splice (p := p) _ _ _ ek, printL_pos hn (by omega), eF, bytes_list]; rfl
  have cF : Calls Tryd.prog 20 #[.int .i64 n, .int .i64 10] w fun e w' => e = .returned (.string E) ∧ Below w.heap.size w w' := by rw [← hDE]; rw [eD]; exact format_any n h0 h1 w ht
  have cR : ∀ w, Calls Tryd.prog 21 #[.string ⟨#[48]⟩, .int .i64 c] w fun e w' => e = .returned (.string R) ∧ Below w.heap.size w w' := fun w => by rw [eR]; exact repeat_any c (by omega) w
  have g1 : 0 < D.size := by omega
  have g2 : k ≤ F.size := by omega
  have g3 : D.size ≤ 20 := by omega
  have g4 : F.size ≤ 20 := by omega
  have g6 : R.size ≤ 10 := by rw [eR]; show (List.replicate c (48 : UInt8)).toArray.size ≤ 10; simp; omega
  have g7 : E.size ≤ 19 := by omega
  clear eD eE eF ec ek eR hE1 hDs hsh l1 l2 hF1 hDE
  clear cR
  subst hEF
  go_enter Tryd.func10, Tryd.ntmps10
  go_wp2_with (first | (go_at_call 13; refine (places_any _ _).mono ?_; rintro e w1 ⟨rfl, rfl⟩) | (go_at_call 20; refine cF.mono ?_; rintro e w1 ⟨rfl, hb1⟩))
  go_quiet (fail)
  go_wp2_with fail
  go_ret2
  refine ⟨ret2s (by first | exact HR.out.symm | (rw [HR.out]; simp)) rfl, ?_⟩
  simpa using below_d hb1 _

/-- Print's two answers. -/
def prL (n p : Int) : List UInt8 := if plB p = true then printL n p.toNat else []
def prE (p : Int) : Int := if plB p = true then 0 else 1
theorem prL_yes {n p : Int} (h : plB p = true) : prL n p = printL n p.toNat := by unfold prL; rw [if_pos h]
theorem prL_no {n p : Int} (h : plB p = false) : prL n p = [] := by unfold prL; rw [if_neg (by rw [h]; decide)]
theorem prE_yes {p : Int} (h : plB p = true) : prE p = 0 := by unfold prE; rw [if_pos h]
theorem prE_no {p : Int} (h : plB p = false) : prE p = 1 := by unfold prE; rw [if_neg (by rw [h]; decide)]
theorem plB_iff {p : Int} : plB p = true ↔ 0 ≤ p ∧ p ≤ 9 := by unfold plB; exact decide_eq_true_iff

theorem print_any (n p : Int) (h0 : -9223372036854775808 ≤ n) (h1 : n ≤ 9223372036854775807) (w : World) (ht : Tab w) :
    Calls Tryd.prog 10 #[.int .i64 n, .int .i64 p] w fun e w' => e = .returned (.tuple #[.string (bytes (prL n p)), .int .i64 (prE p)]) ∧ Below w.heap.size w w' := by
  by_cases hpl : plB p = true
  · have hb := plB_iff.1 hpl
    rw [prL_yes hpl, prE_yes hpl]
    obtain ⟨q, rfl⟩ : ∃ q : Nat, p = q := ⟨p.toNat, by omega⟩
    rw [show ((q : Int)).toNat = q by omega]
    by_cases hp0 : (q : Int) = 0
    · obtain rfl : q = 0 := by omega
      have cF := format_any n h0 h1 w ht
      go_enter Tryd.func10, Tryd.ntmps10
      go_wp2_with (first | (go_at_call 13; refine (places_any _ _).mono ?_; rintro e w1 ⟨rfl, rfl⟩) | (go_at_call 20; refine cF.mono ?_; rintro e w1 ⟨rfl, hb1⟩))
      go_ret2
      exact ⟨ret2s (by rw [printL_0]; rfl) rfl, hb1⟩
    · by_cases hn : n < 0
      · by_cases hs : (Lib.decDigits n.natAbs).length < q + 1
        · exact print_neg_short n q (by omega) h0 h1 hn hp0 hs w ht
        · exact print_neg_long n q (by omega) h0 h1 hn hp0 (by omega) w ht
      · by_cases hs : (Lib.decDigits n.natAbs).length < q + 1
        · exact print_pos_short n q (by omega) h0 h1 hn hp0 hs w ht
        · exact print_pos_long n q (by omega) h0 h1 hn hp0 (by omega) w ht
  · have hpl : plB p = false := by simpa using hpl
    rw [prL_no hpl, prE_no hpl]
    go_enter Tryd.func10, Tryd.ntmps10
    go_wp2_with (go_at_call 13; refine (places_any _ _).mono ?_; rintro e w1 ⟨rfl, rfl⟩)
    go_ret2
    exact ⟨rfl, Below.refl _ _⟩
end Go.Proofs.YtkbadigpagijjaaDoor
