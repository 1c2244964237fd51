/-
  A number at a place: the document's Take.
-/
import Derived.Test.YtldipdbcmehioaaTake
namespace Go.Proofs.Ytldipdbcmehioaa
open Go.RowKit

set_option maxRecDepth 100000 in
set_option maxHeartbeats 1000000 in
theorem rtake_in (s : ByteArray) (a : Nat) (hs : s.size ≤ 1099511627776) (ha : a ≤ s.size) (n p e : Int) (hG : Goal a (s.data.toList.drop a) 0 0 n p e) (w : World) :
    Calls Try.prog 27 #[.string s, .int .i64 a] w fun r w' => r = .returned (.tuple #[.int .u64 n, .int .i64 p, .int .i64 e]) ∧ w' = w := by
  have HG : Hid (Goal a (s.data.toList.drop a) 0 0 n p e) := hG
  clear hG
  have hd1 : decide ((a : Int) < 0) = false := decide_eq_false (by omega)
  have hd2 : decide ((s.size : Int) < (a : Int)) = false := decide_eq_false (by omega)
  have hd3 : decide (s.size < a) = false := decide_eq_false (by omega)
  go_enter Try.func27, Try.ntmps27
  go_wp2_with fail
  go_loop [7, 8, 9] (fun t u j => ∃ (i : Nat) (x S : Int), i ≤ 9 ∧ a + i ≤ s.size ∧ 0 ≤ x ∧ 0 ≤ S ∧ x < S ∧ S ≤ 9223372036854775808 ∧ Hid (S = ((128 ^ i : Nat) : Int)) ∧ j = .int .i64 i ∧ t = .int .u64 x ∧ u = .int .u64 S ∧ Hid (Goal a (s.data.toList.drop (a + i)) i x n p e)) (fun _ _ j => 10 - (intOf j).toNat)
  case atStart => exact ⟨0, 0, 1, by omega, by omega, by decide, by decide, by decide, by decide, rfl, rfl, rfl, rfl, HG⟩
  case round =>
    obtain ⟨i, x, S, hi, hai, hx0, hS0, hx1, hS1, HS, rfl, rfl, rfl, HR⟩ := hrel
    have h10 : (i : Int) < 10 := by omega
    by_cases hend : a + i = s.size
    · have hend' : (a : Int) + (i : Int) = (s.size : Int) := by omega
      have HE := HR.out
      rw [drop_end s _ (by omega)] at HE
      obtain ⟨e1, e2, e3⟩ := goal_nil (by omega) HE
      have E1 : Hid (n = 0) := e1
      have E2 : Hid (p = a) := e2
      have E3 : Hid (e = 30) := e3
      clear HE e1 e2 e3
      go_wp2_with fail
      go_ret3
      exact ⟨ret3 E1.out.symm E2.out.symm E3.out.symm, rfl⟩
    · have hend' : ¬ (a : Int) + (i : Int) = (s.size : Int) := by omega
      have hlt : a + i < s.size := by omega
      obtain ⟨c, Ec⟩ : ∃ c : Int, Hid (((s[a + i].toNat : Nat) : Int) = c) := ⟨((s[a + i].toNat : Nat) : Int), (rfl : ((s[a + i].toNat : Nat) : Int) = _)⟩
      have hc255 := s[a + i].toNat_lt
      have ec : IntKind.u64.wrap ((s[a + i].toNat : Nat) : Int) = c := by rw [IntKind.wrap_u64, ← Ec.out]; omega
      have hc0 : 0 ≤ c := by rw [← Ec.out]; omega
      have hc1 : c ≤ 255 := by rw [← Ec.out]; omega
      obtain ⟨m, em⟩ : ∃ m : Int, c % 128 = m := ⟨_, rfl⟩
      have em2 : c.tmod 128 = m := by rw [Int.tmod_eq_emod_of_nonneg hc0, em]
      obtain ⟨M, eM⟩ : ∃ M : Int, IntKind.u64.wrap (m * S) = M := ⟨_, rfl⟩
      obtain ⟨Y, eY⟩ : ∃ Y : Int, IntKind.u64.wrap (x + M) = Y := ⟨_, rfl⟩
      obtain ⟨S2, eS⟩ : ∃ S2 : Int, IntKind.u64.wrap (S * 128) = S2 := ⟨_, rfl⟩
      have HY : Hid ((i < 9 ∨ (i = 9 ∧ s[a + i].toNat % 128 = 1)) → Y = x + ((128 ^ i * (s[a + i].toNat % 128) : Nat) : Int)) := by
        intro hh
        have hg := or_group x.toNat (s[a + i].toNat % 128) i (by have := HS.out; omega) (by omega) hh
        have hSm : m * S = ((128 ^ i * (s[a + i].toNat % 128) : Nat) : Int) := by
          rw [HS.out, ← em, ← Ec.out, Nat.mul_comm]
          simp
        rw [← eY, ← eM, hSm]
        rw [IntKind.wrap_u64, IntKind.wrap_u64]
        omega
      have HD := HR.out
      rw [drop_at s (a + i) hlt] at HD
      by_cases h9 : i = 9
      · have h9' : ((i : Int) == 9) = true := by simp; omega
        by_cases hc : c = 1
        · have hb1 : (c == 1) = true := by simp [hc]
          have hb2 : (c != 1) = false := by simp [hc]
          have hb3 : (c == 0) = false := by simp [hc]
          have hb4 : c < 128 := by omega
          obtain ⟨e1, e2, e3⟩ := goal_end (by omega) (by rw [Ec.out]; omega) (by rw [Ec.out]; unfold endB; exact decide_eq_true (by omega)) HD
          have E1 : Hid (n = Y) := by
            show _ = _
            have h1 : s[a + i].toNat = 1 := by have := Ec.out; omega
            have := HY.out (.inr ⟨h9, by omega⟩)
            rw [show s[a + i].toNat % 128 = s[a + i].toNat by omega] at this
            rw [e1, this]
          have E2 : Hid (p = a + i + 1) := e2
          have E3 : Hid (e = 0) := e3
          clear e1 e2 e3 HD hc h9
          go_wp2_with fail
          go_ret3
          exact ⟨ret3 E1.out.symm E2.out.symm E3.out.symm, rfl⟩
        · have hb1 : (c == 1) = false := by simp [hc]
          have hb2 : (c != 1) = true := by simp [hc]
          have HL : Hid (n = 0 ∧ p = a ∧ e = 31) := by
            by_cases h128 : c < 128
            · exact goal_bad (by omega) (by rw [Ec.out]; omega) (by rw [Ec.out]; unfold endB; exact decide_eq_false (by omega)) HD
            · exact goal_ten (by omega) (goal_more (by omega) (by rw [Ec.out]; omega) HD)
          clear HD hc h9
          go_wp2_with fail
          go_ret3
          exact ⟨ret3 HL.out.1.symm HL.out.2.1.symm HL.out.2.2.symm, rfl⟩
      · have h9' : ((i : Int) == 9) = false := by simp; omega
        by_cases hc : c < 128
        · by_cases hbad : c = 0 ∧ 0 < i
          · have hb3 : (c == 0) = true := by simp [hbad.1]
            have hb5 : (0 : Int) < (i : Int) := by omega
            have HL : Hid (n = 0 ∧ p = a ∧ e = 31) := goal_bad (by omega) (by rw [Ec.out]; omega) (by rw [Ec.out]; unfold endB; exact decide_eq_false (by omega)) HD
            clear HD h9 hbad
            go_wp2_with fail
            go_ret3
            exact ⟨ret3 HL.out.1.symm HL.out.2.1.symm HL.out.2.2.symm, rfl⟩
          · obtain ⟨e1, e2, e3⟩ := goal_end (by omega) (by rw [Ec.out]; omega) (by rw [Ec.out]; unfold endB; exact decide_eq_true (by omega)) HD
            have E1 : Hid (n = Y) := by
              show _ = _
              have := HY.out (.inl (by omega))
              have h1 := Ec.out
              rw [show s[a + i].toNat % 128 = s[a + i].toNat by omega] at this
              rw [e1, this]
            have E2 : Hid (p = a + i + 1) := e2
            have E3 : Hid (e = 0) := e3
            by_cases h0 : c = 0
            · have hb3 : (c == 0) = true := by simp [h0]
              have hb5 : ¬ (0 : Int) < (i : Int) := by omega
              have hb6 : decide ((0 : Int) < (i : Int)) = false := decide_eq_false hb5
              clear e1 e2 e3 HD h9 hbad h0
              go_wp2_with fail
              go_ret3
              exact ⟨ret3 E1.out.symm E2.out.symm E3.out.symm, rfl⟩
            · have hb3 : (c == 0) = false := by simp [h0]
              clear e1 e2 e3 HD h9 hbad h0
              go_wp2_with fail
              go_ret3
              exact ⟨ret3 E1.out.symm E2.out.symm E3.out.symm, rfl⟩
        · have hc' : ¬ c < 128 := hc
          have hc'' : decide (c < 128) = false := decide_eq_false hc
          have HM := goal_more (by omega) (by rw [Ec.out]; omega) HD
          have hy := HY.out (.inl (by omega))
          have hpow : (128 ^ (i + 1) : Nat) = 128 ^ i * 128 := Nat.pow_succ _ _
          have hS8 : S ≤ 72057594037927936 := by
            rw [HS.out]
            have h8 : 128 ^ i ≤ 128 ^ 8 := Nat.pow_le_pow_right (by omega) (by omega)
            have h7 : 128 ^ 8 = 72057594037927936 := by decide
            omega
          have hS2 : S2 = S * 128 := by rw [← eS, IntKind.wrap_u64]; omega
          have hSn := HS.out
          have hY1 : 0 ≤ Y := by rw [hy]; omega
          have hY2 : Y < S2 := by
            have h2 : 128 ^ i * (s[a + i].toNat % 128) ≤ 128 ^ i * 127 := Nat.mul_le_mul_left _ (by omega)
            rw [hy, hS2]
            omega
          have hS3 : S2 ≤ 9223372036854775808 := by omega
          have hS4 : 0 ≤ S2 := by omega
          have HS2 : Hid (S2 = ((128 ^ (i + 1) : Nat) : Int)) := by show _ = _; rw [hpow, hS2]; omega
          have HN : Hid (Goal a (s.data.toList.drop (a + (i + 1))) (i + 1) Y n p e) := by show Goal _ _ _ _ _ _ _; rw [← Nat.add_assoc, hy]; exact HM
          have hi9 : i + 1 ≤ 9 := by omega
          clear HD HM h9 hc hS2 hSn hpow hy
          go_wp2_with fail
          go_round
          case rel => exact ⟨i + 1, Y, S2, hi9, by omega, hY1, hS4, hY2, hS3, HS2, by go_num, rfl, rfl, HN⟩
          case measure => simp [intOf]; omega

theorem rtake_any (s : ByteArray) (a : Int) (hs : s.size ≤ 1099511627776) (w : World) :
    Calls Try.prog 27 #[.string s, .int .i64 a] w fun r w' => r = .returned (.tuple #[.int .u64 (takeN s.data.toList a : Nat), .int .i64 (takeP s.data.toList a), .int .i64 (takeE s.data.toList a : Nat)]) ∧ w' = w := by
  have hl := len_of s
  by_cases h0 : a < 0
  · have hE : takeE s.data.toList a = 1 := takeE_arg (.inl h0)
    rw [hE, takeN_no (by rw [hE]; decide), takeP_no (by rw [hE]; decide)]
    go_enter Try.func27, Try.ntmps27
    go_wp2_with fail
    go_ret3
    exact ⟨rfl, rfl⟩
  · by_cases h1 : (s.size : Int) < a
    · have hE : takeE s.data.toList a = 1 := takeE_arg (.inr (by rw [hl]; exact h1))
      rw [hE, takeN_no (by rw [hE]; decide), takeP_no (by rw [hE]; decide)]
      go_enter Try.func27, Try.ntmps27
      go_wp2_with fail
      go_ret3
      exact ⟨rfl, rfl⟩
    · obtain ⟨k, rfl⟩ := Int.eq_ofNat_of_zero_le (show 0 ≤ a by omega)
      have hG := goal_start s.data.toList k (by omega) (by omega)
      rw [Int.toNat_natCast] at hG
      exact rtake_in s k hs (by omega) _ _ _ hG w
end Go.Proofs.Ytldipdbcmehioaa
