/-
  Walks of package decimal: shifted, worthOf, Parse.
-/
import Derived.Test.YtkbadigpagijjaaDoorForm
import Derived.Test.YtkbadigpagijjaaDoorWorth
namespace Go.Proofs.YtkbadigpagijjaaDoor
open Go.RowKit

/-- fixnum.Add, fixnum.Sub as values. -/
def putF (neg : Bool) : Value := if neg = true then .func (.func 29) #[] #[] else .func (.func 28) #[] #[]

theorem shifted_any (neg : Bool) (t d : Int) (t1 : -9223372036854775808 ≤ t) (t2 : t ≤ 9223372036854775807) (d1 : 0 ≤ d) (d2 : d ≤ 255) (w : World) :
    Calls Tryd.prog 30 #[.int .i64 t, .int .i64 d, putF neg] w fun e w' => e = .returned (.tuple #[.int .i64 (shN neg t d), .bool (shB neg t d)]) ∧ w' = w := by
  have hb := fitN_bd (t * 10)
  by_cases hf : fitB (t * 10) = true
  · have e10 : Hid (fitN (t * 10) = t * 10) := fitN_true hf
    cases neg with
    | false =>
      show Calls Tryd.prog 30 #[.int .i64 t, .int .i64 d, .func (.func 28) #[] #[]] w _
      go_enter Tryd.func30, Tryd.ntmps30
      go_wp2_with (first | (go_at_call 12; refine (mul_any _ _ t1 t2 (by omega) (by omega) _).mono ?_; rintro e w1 ⟨rfl, rfl⟩) | (go_at_call 28; refine (add_any _ _ hb.1 hb.2 (by omega) (by omega) _).mono ?_; rintro e w1 ⟨rfl, rfl⟩))
      go_ret2
      exact ⟨ret2i (by rw [shN_up hf, e10.out]) (by rw [shB_up hf, e10.out]), rfl⟩
    | true =>
      show Calls Tryd.prog 30 #[.int .i64 t, .int .i64 d, .func (.func 29) #[] #[]] w _
      go_enter Tryd.func30, Tryd.ntmps30
      go_wp2_with (first | (go_at_call 12; refine (mul_any _ _ t1 t2 (by omega) (by omega) _).mono ?_; rintro e w1 ⟨rfl, rfl⟩) | (go_at_call 29; refine (sub_any _ _ hb.1 hb.2 (by omega) (by omega) _).mono ?_; rintro e w1 ⟨rfl, rfl⟩))
      go_ret2
      exact ⟨ret2i (by rw [shN_down hf, e10.out]) (by rw [shB_down hf, e10.out]), rfl⟩
  · have hf : fitB (t * 10) = false := by simpa using hf
    go_enter Tryd.func30, Tryd.ntmps30
    go_wp2_with (go_at_call 12; refine (mul_any _ _ t1 t2 (by omega) (by omega) _).mono ?_; rintro e w1 ⟨rfl, rfl⟩)
    go_ret2
    exact ⟨ret2i (by rw [shN_no hf]) (by rw [shB_no hf]), rfl⟩

theorem take_at (s : ByteArray) (k : Nat) (h : k < s.size) : s.data.toList.take (k + 1) = s.data.toList.take k ++ [s[k]] := by
  rw [List.take_succ_eq_append_getElem (by simpa using h)]; rfl

set_option maxHeartbeats 1000000 in
theorem worthOf_any (s : ByteArray) (p : Nat) (hs : s.size ≤ 140737488355328) (hp : p ≤ 9) (w : World) :
    Calls Tryd.prog 15 #[.string s, .int .i64 p] w fun e w' => e = .returned (.tuple #[.int .i64 (worthN s.data.toList p), .bool (worthB s.data.toList p)]) ∧ w' = w := by
  go_enter Tryd.func15, Tryd.ntmps15
  go_wp2_with fail
  go_loop [6, 7, 8, 9, 10, 11] (fun f t m o b i => ∃ (k : Nat) (st : Wst), k ≤ s.size ∧ Hid (st = endW (s.data.toList.take k) p) ∧ i = .int .i64 k ∧ f = putF st.neg ∧ t = .int .i64 st.t ∧ m = .int .i64 st.m ∧ o = .bool st.ok ∧ b = .bool st.behind) (fun _ _ _ _ _ i => s.size - (intOf i).toNat)
  case atStart => exact ⟨0, fromW p, Nat.zero_le _, rfl, rfl, rfl, rfl, rfl, rfl, rfl⟩
  case round =>
    obtain ⟨k, ⟨neg, behind, ok, t, m⟩, hk, HS, rfl, rfl, rfl, rfl, rfl, rfl⟩ := hrel
    have hbd := goW_bd p (s.data.toList.take k)
    have hl : ((s.data.toList.take k).length : Int) ≤ k := by have := List.length_take_le k s.data.toList; omega
    rw [← HS.out] at hbd
    obtain ⟨t1, t2, m1, m2⟩ := hbd
    dsimp only at t1 t2 m1 m2
    have m3 : -140737488355328 ≤ m := by omega
    have m4 : m ≤ 9 := by omega
    clear m1 m2 hl
    by_cases hlt : k < s.size
    · cases ok with
      | true =>
        have HT : Hid (endW (s.data.toList.take (k + 1)) p = stepW ⟨neg, behind, true, t, m⟩ s[k]) := by
          show _ = _
          rw [take_at s k hlt]; unfold endW; rw [goW_snoc]; show stepW (endW _ p) _ = _; rw [← HS.out]
        by_cases h45 : s[k] = 45
        · have hc : (s[k].toNat : Int) = 45 := (byte_is (d := 45) rfl).2 h45
          go_wp2_with fail
          go_round
          case rel => exact ⟨k + 1, ⟨true, behind, true, t, m⟩, by omega, by show _ = _; rw [HT.out, stepW_minus rfl h45], by go_num, rfl, rfl, rfl, rfl, rfl⟩
          case measure => simp [intOf]; omega
        · have hc : ¬ (s[k].toNat : Int) = 45 := fun h => h45 ((byte_is (d := 45) rfl).1 h)
          by_cases h46 : s[k] = 46
          · have hc2 : (s[k].toNat : Int) = 46 := (byte_is (d := 46) rfl).2 h46
            go_wp2_with fail
            go_round
            case rel => exact ⟨k + 1, ⟨neg, true, true, t, m⟩, by omega, by show _ = _; rw [HT.out, stepW_point rfl h45 h46], by go_num, rfl, rfl, rfl, rfl, rfl⟩
            case measure => simp [intOf]; omega
          · have hc2 : ¬ (s[k].toNat : Int) = 46 := fun h => h46 ((byte_is (d := 46) rfl).1 h)
            cases behind with
            | true =>
              go_wp2_with (go_at_call 30; refine (shifted_any neg t (digV s[k]) t1 t2 (digV_bd _).1 (digV_bd _).2 _).mono ?_; rintro e w1 ⟨rfl, rfl⟩)
              go_round
              case rel => exact ⟨k + 1, ⟨neg, true, shB neg t (digV s[k]), shN neg t (digV s[k]), m - 1⟩, by omega, by show _ = _; rw [HT.out, stepW_digit rfl h45 h46]; rfl, by go_num, rfl, rfl, rfl, rfl, rfl⟩
              case measure => simp [intOf]; omega
            | false =>
              go_wp2_with (go_at_call 30; refine (shifted_any neg t (digV s[k]) t1 t2 (digV_bd _).1 (digV_bd _).2 _).mono ?_; rintro e w1 ⟨rfl, rfl⟩)
              go_round
              case rel => exact ⟨k + 1, ⟨neg, false, shB neg t (digV s[k]), shN neg t (digV s[k]), m⟩, by omega, by show _ = _; rw [HT.out, stepW_digit rfl h45 h46]; rfl, by go_num, rfl, rfl, rfl, rfl, rfl⟩
              case measure => simp [intOf]; omega
      | false =>
        have HE : Hid (worthM s.data.toList p = padW m.toNat neg t false) := by
          show _ = _
          have e : endW s.data.toList p = ⟨neg, behind, false, t, m⟩ := by
            rw [HS.out]; unfold endW
            conv => lhs; rw [← List.take_append_drop k s.data.toList, goW_append]
            exact goW_no (by show (endW _ p).ok = false; rw [← HS.out]) _
          unfold worthM; rw [e]
        go_wp2_with fail
        go_loop [7, 8, 9] (fun t' m' o' => ∃ (tt mm : Int) (oo : Bool), -9223372036854775808 ≤ tt ∧ tt ≤ 9223372036854775807 ∧ -140737488355328 ≤ mm ∧ mm ≤ 9 ∧ Hid (worthM s.data.toList p = padW mm.toNat neg tt oo) ∧ t' = .int .i64 tt ∧ m' = .int .i64 mm ∧ o' = .bool oo) (fun _ m' _ => (intOf m').toNat)
        case atStart => exact ⟨t, m, _, t1, t2, m3, m4, HE, rfl, rfl, rfl⟩
        case round =>
          obtain ⟨tt, mm, oo, b1, b2, b3, b4, HW, rfl, rfl, rfl⟩ := hrel
          by_cases hmm : 0 < mm
          · cases oo with
            | true =>
              have hb := shN_bd neg tt 0
              go_wp2_with (go_at_call 30; refine (shifted_any neg tt 0 b1 b2 (by omega) (by omega) _).mono ?_; rintro e w1 ⟨rfl, rfl⟩)
              go_round
              case rel => exact ⟨shN neg tt 0, mm - 1, shB neg tt 0, hb.1, hb.2, by omega, by omega, by show _ = _; rw [HW.out, show mm.toNat = (mm - 1).toNat + 1 by omega, padW_succ], rfl, rfl, rfl⟩
              case measure => simp [intOf]; omega
            | false =>
              go_wp2_with fail
              go_ret2
              exact ⟨ret2i (by unfold worthN; rw [HW.out, padW_no]) (by unfold worthB; rw [HW.out, padW_no]), rfl⟩
          · go_wp2_with fail
            go_ret2
            exact ⟨ret2i (by unfold worthN; rw [HW.out, show mm.toNat = 0 by omega]; rfl) (by unfold worthB; rw [HW.out, show mm.toNat = 0 by omega]; rfl), rfl⟩
    · have HE : Hid (worthM s.data.toList p = padW m.toNat neg t ok) := by
        show _ = _
        have e : endW s.data.toList p = ⟨neg, behind, ok, t, m⟩ := by
          rw [HS.out, List.take_of_length_le (by rw [len_of]; omega)]
        unfold worthM; rw [e]
      go_wp2_with fail
      go_loop [7, 8, 9] (fun t' m' o' => ∃ (tt mm : Int) (oo : Bool), -9223372036854775808 ≤ tt ∧ tt ≤ 9223372036854775807 ∧ -140737488355328 ≤ mm ∧ mm ≤ 9 ∧ Hid (worthM s.data.toList p = padW mm.toNat neg tt oo) ∧ t' = .int .i64 tt ∧ m' = .int .i64 mm ∧ o' = .bool oo) (fun _ m' _ => (intOf m').toNat)
      case atStart => exact ⟨t, m, _, t1, t2, m3, m4, HE, rfl, rfl, rfl⟩
      case round =>
        obtain ⟨tt, mm, oo, b1, b2, b3, b4, HW, rfl, rfl, rfl⟩ := hrel
        by_cases hmm : 0 < mm
        · cases oo with
          | true =>
            have hb := shN_bd neg tt 0
            go_wp2_with (go_at_call 30; refine (shifted_any neg tt 0 b1 b2 (by omega) (by omega) _).mono ?_; rintro e w1 ⟨rfl, rfl⟩)
            go_round
            case rel => exact ⟨shN neg tt 0, mm - 1, shB neg tt 0, hb.1, hb.2, by omega, by omega, by show _ = _; rw [HW.out, show mm.toNat = (mm - 1).toNat + 1 by omega, padW_succ], rfl, rfl, rfl⟩
            case measure => simp [intOf]; omega
          | false =>
            go_wp2_with fail
            go_ret2
            exact ⟨ret2i (by unfold worthN; rw [HW.out, padW_no]) (by unfold worthB; rw [HW.out, padW_no]), rfl⟩
        · go_wp2_with fail
          go_ret2
          exact ⟨ret2i (by unfold worthN; rw [HW.out, show mm.toNat = 0 by omega]; rfl) (by unfold worthB; rw [HW.out, show mm.toNat = 0 by omega]; rfl), rfl⟩
end Go.Proofs.YtkbadigpagijjaaDoor
