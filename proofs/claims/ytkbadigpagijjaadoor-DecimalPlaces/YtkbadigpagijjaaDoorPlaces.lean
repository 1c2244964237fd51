/-
  The walk of the statement DecimalPlaces.
-/
import Derived.Test.YtkbadigpagijjaaDoorWorks
import Derived.Test.YtkbadigpagijjaaDoorAgain
namespace Go.Proofs.YtkbadigpagijjaaDoor
open Go.RowKit

set_option maxHeartbeats 1000000 in
theorem places_one_fit (n x a : Int) (S : ByteArray) (hS3 : 3 ≤ S.size) (hS40 : S.size ≤ 40) (hL : a = S.size - 2) (w : World) (ht : Tab w)
    (cP : ∀ w, Tab w → Calls Tryd.prog 10 #[.int .i64 n, .int .i64 1] w fun e w' => e = .returned (.tuple #[.string S, .int .i64 0]) ∧ Below w.heap.size w w')
    (cM : ∀ w, Calls Tryd.prog 8 #[.string S, .int .i64 2] w fun e w' => e = .returned (.tuple #[.int .i64 (fitN (n * 10)), .int .i64 0, .int .i64 0]) ∧ w' = w)
    (cN : ∀ w, Calls Tryd.prog 12 #[.int .i64 n, .int .i64 10] w fun e w' => e = .returned (.tuple #[.int .i64 (fitN (n * 10)), .bool true]) ∧ w' = w)
    (cL : ∀ w, Calls Tryd.prog 8 #[.string S, .int .i64 0] w fun e w' => e = .returned (.tuple #[.int .i64 x, .int .i64 20, .int .i64 a]) ∧ w' = w) :
    Calls Tryd.prog 6 #[.int .i64 n, .int .i64 1] w fun e w' => e = .returned (.bool true) ∧ Below w.heap.size w w' := by
  have cW := works_any w ht
  go_enter Tryd.func6, Tryd.ntmps6
  go_wp2_with fail
  refine cW.mono ?_
  rintro e w1 ⟨rfl, hb1⟩
  go_wp2_with fail
  refine (cP _ (ht.on hb1)).mono ?_
  rintro e w2 ⟨rfl, hb2⟩
  go_wp2_with fail
  refine (cM _).mono ?_
  rintro e w3 ⟨rfl, rfl⟩
  go_wp2_with fail
  refine (cN _).mono ?_
  rintro e w3 ⟨rfl, rfl⟩
  go_wp2_with fail
  refine (cL _).mono ?_
  rintro e w3 ⟨rfl, rfl⟩
  go_wp2_with fail
  go_ret
  exact ⟨retb (by first | rfl | simp), below2 hb1 hb2⟩

set_option maxHeartbeats 1000000 in
theorem places_one_far (n x a : Int) (S : ByteArray) (hS3 : 3 ≤ S.size) (hS40 : S.size ≤ 40) (hL : a = S.size - 2) (w : World) (ht : Tab w)
    (cP : ∀ w, Tab w → Calls Tryd.prog 10 #[.int .i64 n, .int .i64 1] w fun e w' => e = .returned (.tuple #[.string S, .int .i64 0]) ∧ Below w.heap.size w w')
    (cM : ∀ w, Calls Tryd.prog 8 #[.string S, .int .i64 2] w fun e w' => e = .returned (.tuple #[.int .i64 0, .int .i64 21, .int .i64 0]) ∧ w' = w)
    (cN : ∀ w, Calls Tryd.prog 12 #[.int .i64 n, .int .i64 10] w fun e w' => e = .returned (.tuple #[.int .i64 (fitN (n * 10)), .bool false]) ∧ w' = w)
    (cL : ∀ w, Calls Tryd.prog 8 #[.string S, .int .i64 0] w fun e w' => e = .returned (.tuple #[.int .i64 x, .int .i64 20, .int .i64 a]) ∧ w' = w) :
    Calls Tryd.prog 6 #[.int .i64 n, .int .i64 1] w fun e w' => e = .returned (.bool true) ∧ Below w.heap.size w w' := by
  have cW := works_any w ht
  go_enter Tryd.func6, Tryd.ntmps6
  go_wp2_with fail
  refine cW.mono ?_
  rintro e w1 ⟨rfl, hb1⟩
  go_wp2_with fail
  refine (cP _ (ht.on hb1)).mono ?_
  rintro e w2 ⟨rfl, hb2⟩
  go_wp2_with fail
  refine (cM _).mono ?_
  rintro e w3 ⟨rfl, rfl⟩
  go_wp2_with fail
  refine (cN _).mono ?_
  rintro e w3 ⟨rfl, rfl⟩
  go_wp2_with fail
  refine (cL _).mono ?_
  rintro e w3 ⟨rfl, rfl⟩
  go_wp2_with fail
  go_ret
  exact ⟨retb (by first | rfl | simp), below2 hb1 hb2⟩

set_option maxHeartbeats 1000000 in
theorem places_more_fit (n x a : Int) (p p1 p0 : Int) (hp1 : 1 ≤ p) (hp8 : p ≤ 8) (hne : ¬ p = 1) (hk1 : p + 1 = p1) (hk0 : p - 1 = p0) (S : ByteArray) (hS3 : 3 ≤ S.size) (hS40 : S.size ≤ 40) (hL : a = S.size - 1) (w : World) (ht : Tab w)
    (cP : ∀ w, Tab w → Calls Tryd.prog 10 #[.int .i64 n, .int .i64 p] w fun e w' => e = .returned (.tuple #[.string S, .int .i64 0]) ∧ Below w.heap.size w w')
    (cM : ∀ w, Calls Tryd.prog 8 #[.string S, .int .i64 p1] w fun e w' => e = .returned (.tuple #[.int .i64 (fitN (n * 10)), .int .i64 0, .int .i64 0]) ∧ w' = w)
    (cN : ∀ w, Calls Tryd.prog 12 #[.int .i64 n, .int .i64 10] w fun e w' => e = .returned (.tuple #[.int .i64 (fitN (n * 10)), .bool true]) ∧ w' = w)
    (cL : ∀ w, Calls Tryd.prog 8 #[.string S, .int .i64 p0] w fun e w' => e = .returned (.tuple #[.int .i64 x, .int .i64 20, .int .i64 a]) ∧ w' = w) :
    Calls Tryd.prog 6 #[.int .i64 n, .int .i64 p] w fun e w' => e = .returned (.bool true) ∧ Below w.heap.size w w' := by
  have cW := works_any w ht
  go_enter Tryd.func6, Tryd.ntmps6
  go_wp2_with fail
  refine cW.mono ?_
  rintro e w1 ⟨rfl, hb1⟩
  go_wp2_with fail
  refine (cP _ (ht.on hb1)).mono ?_
  rintro e w2 ⟨rfl, hb2⟩
  go_wp2_with fail
  refine (cM _).mono ?_
  rintro e w3 ⟨rfl, rfl⟩
  go_wp2_with fail
  refine (cN _).mono ?_
  rintro e w3 ⟨rfl, rfl⟩
  go_wp2_with fail
  refine (cL _).mono ?_
  rintro e w3 ⟨rfl, rfl⟩
  go_wp2_with fail
  go_ret
  exact ⟨retb (by first | rfl | simp), below2 hb1 hb2⟩

set_option maxHeartbeats 1000000 in
theorem places_more_far (n x a : Int) (p p1 p0 : Int) (hp1 : 1 ≤ p) (hp8 : p ≤ 8) (hne : ¬ p = 1) (hk1 : p + 1 = p1) (hk0 : p - 1 = p0) (S : ByteArray) (hS3 : 3 ≤ S.size) (hS40 : S.size ≤ 40) (hL : a = S.size - 1) (w : World) (ht : Tab w)
    (cP : ∀ w, Tab w → Calls Tryd.prog 10 #[.int .i64 n, .int .i64 p] w fun e w' => e = .returned (.tuple #[.string S, .int .i64 0]) ∧ Below w.heap.size w w')
    (cM : ∀ w, Calls Tryd.prog 8 #[.string S, .int .i64 p1] w fun e w' => e = .returned (.tuple #[.int .i64 0, .int .i64 21, .int .i64 0]) ∧ w' = w)
    (cN : ∀ w, Calls Tryd.prog 12 #[.int .i64 n, .int .i64 10] w fun e w' => e = .returned (.tuple #[.int .i64 (fitN (n * 10)), .bool false]) ∧ w' = w)
    (cL : ∀ w, Calls Tryd.prog 8 #[.string S, .int .i64 p0] w fun e w' => e = .returned (.tuple #[.int .i64 x, .int .i64 20, .int .i64 a]) ∧ w' = w) :
    Calls Tryd.prog 6 #[.int .i64 n, .int .i64 p] w fun e w' => e = .returned (.bool true) ∧ Below w.heap.size w w' := by
  have cW := works_any w ht
  go_enter Tryd.func6, Tryd.ntmps6
  go_wp2_with fail
  refine cW.mono ?_
  rintro e w1 ⟨rfl, hb1⟩
  go_wp2_with fail
  refine (cP _ (ht.on hb1)).mono ?_
  rintro e w2 ⟨rfl, hb2⟩
  go_wp2_with fail
  refine (cM _).mono ?_
  rintro e w3 ⟨rfl, rfl⟩
  go_wp2_with fail
  refine (cN _).mono ?_
  rintro e w3 ⟨rfl, rfl⟩
  go_wp2_with fail
  refine (cL _).mono ?_
  rintro e w3 ⟨rfl, rfl⟩
  go_wp2_with fail
  go_ret
  exact ⟨retb (by first | rfl | simp), below2 hb1 hb2⟩

theorem places_in (n : Int) (q : Nat) (hq1 : 1 ≤ q) (hq9 : q ≤ 8) (h0 : -9223372036854775808 ≤ n) (h1 : n ≤ 9223372036854775807) (w : World) (ht : Tab w) :
    Calls Tryd.prog 6 #[.int .i64 n, .int .i64 q] w fun e w' => e = .returned (.bool true) ∧ Below w.heap.size w w' := by
  have hpl := plB_true (p := (q : Int)) (by omega) (by omega)
  obtain ⟨S, hS⟩ : ∃ S, S = bytes (printL n q) := ⟨_, rfl⟩
  have hSl : S.data.toList = printL n q := by rw [hS, bytes_list]
  have hSz : S.size = (printL n q).length := by rw [hS, bytes_size]
  have hS3 : 3 ≤ S.size := by rw [hSz]; exact print_len2 n q hq1
  have hS40 : S.size ≤ 40 := by rw [hSz]; exact printL_len n q h0 h1 (by omega)
  have cP : ∀ w, Tab w → Calls Tryd.prog 10 #[.int .i64 n, .int .i64 q] w fun e w' => e = .returned (.tuple #[.string S, .int .i64 0]) ∧ Below w.heap.size w w' := fun w ht => by
    have := print_any n q h0 h1 w ht
    rw [prL_yes hpl, prE_yes hpl] at this
    rw [hS]; exact this
  obtain ⟨m1, m2, m3⟩ := print_more n q (by omega)
  obtain ⟨l1, l2⟩ := print_less n q hq1 (by omega)
  have cM := fun w => parse_any S ((q + 1 : Nat) : Int) (by omega) w
  have cL := fun w => parse_any S ((q - 1 : Nat) : Int) (by omega) w
  rw [hSl, m1, m2, m3] at cM
  rw [hSl, l1] at cL
  rw [← hSz] at l2
  have cN := fun w => mul_any n 10 h0 h1 (by omega) (by omega) w
  cases hf : fitB (n * 10) with
  | true =>
    rw [hf, if_pos rfl] at cM
    rw [hf] at cN
    by_cases hq : q = 1
    · subst hq
      rw [if_pos rfl] at l2
      exact places_one_fit n _ _ S hS3 hS40 (by omega) w ht cP cM cN cL
    · rw [if_neg hq] at l2
      exact places_more_fit n _ _ _ _ _ (by omega) (by omega) (by omega) (by omega) (by omega) S hS3 hS40 (by omega) w ht cP cM cN cL
  | false =>
    rw [hf, if_neg (by decide), fitN_false hf] at cM
    rw [hf] at cN
    by_cases hq : q = 1
    · subst hq
      rw [if_pos rfl] at l2
      exact places_one_far n _ _ S hS3 hS40 (by omega) w ht cP cM cN cL
    · rw [if_neg hq] at l2
      exact places_more_far n _ _ _ _ _ (by omega) (by omega) (by omega) (by omega) (by omega) S hS3 hS40 (by omega) w ht cP cM cN cL

theorem places_law (n p : Int) (h0 : -9223372036854775808 ≤ n) (h1 : n ≤ 9223372036854775807) (w : World) (ht : Tab w) :
    Calls Tryd.prog 6 #[.int .i64 n, .int .i64 p] w fun e w' => e = .returned (.bool true) ∧ Below w.heap.size w w' := by
  have cW := works_any w ht
  by_cases hlo : p < 1
  · go_enter Tryd.func6, Tryd.ntmps6
    go_wp2_with fail
    refine cW.mono ?_
    rintro e w1 ⟨rfl, hb1⟩
    go_wp2_with fail
    go_ret
    exact ⟨rfl, hb1⟩
  · by_cases hhi : 9 ≤ p
    · go_enter Tryd.func6, Tryd.ntmps6
      go_wp2_with fail
      refine cW.mono ?_
      rintro e w1 ⟨rfl, hb1⟩
      go_wp2_with fail
      go_ret
      exact ⟨rfl, hb1⟩
    · obtain ⟨q, rfl⟩ : ∃ q : Nat, p = q := ⟨p.toNat, by omega⟩
      exact places_in n q (by omega) (by omega) h0 h1 w ht
end Go.Proofs.YtkbadigpagijjaaDoor
