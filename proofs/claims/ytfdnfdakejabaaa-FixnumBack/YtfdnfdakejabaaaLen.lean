/-
  Walks: math/bits.Len64, LeadingZeros64; Div64 where the high word is 0.
-/
import Derived.Test.YtfdnfdakejabaaaMul
import Derived.Test.YtfdnfdakejabaaaKnuth
import Derived.Deep.QuietTactic
import Derived.BigQuiet
import Derived.WalkLawsBesides
import Derived.WalkSpells
import Derived.Lib.BitFns
import Derived.Deep.Light
namespace Go.Proofs.Ytfdnfdakejabaaa
open Go.RowKit Go.Lib

theorem ret2u {k : IntKind} {a b r : Int} (h : a = b) : Ending.returned (.tuple #[.int k a, .int k r]) = .returned (.tuple #[.int k b, .int k r]) := by rw [h]
theorem quoN (a b : Nat) (ha : a < 18446744073709551616) : IntKind.u64.wrap ((a : Int) / (b : Int)) = ((a / b : Nat) : Int) := by
  have e : (a : Int) / (b : Int) = ((a / b : Nat) : Int) := (Int.natCast_ediv a b).symm
  have h := Nat.lt_of_le_of_lt (Nat.div_le_self a b) ha
  rw [e]
  generalize a / b = q at *
  rw [IntKind.wrap_u64]
  omega

set_option maxHeartbeats 1000000 in
theorem div64_low (lo y : Nat) (hl : lo < 18446744073709551616) (h0 : 0 < y) (hy : y < 18446744073709551616) (w : World) :
    Calls Try.prog 35 #[.int .u64 0, .int .u64 lo, .int .u64 y] w fun e w' => (∃ r : Int, e = .returned (.tuple #[.int .u64 ((lo / y : Nat) : Int), .int .u64 r])) ∧ ∃ n, w' = w.drewN n := by
  have hb : ((y : Int) == 0) = false := by simp; omega
  have hb2 : decide ((y : Int) ≤ 0) = false := by simp; omega
  go_enter Try.func35, Try.ntmps35
  go_wp2
  go_quiet (fail)
  go_wp2
  go_ret2
  exact ⟨⟨_, ret2u (quoN lo y hl)⟩, _, rfl⟩
theorem len8_get (z : Int) (h : z.toNat < Lib.len8tab.size) (h0 : 0 ≤ z) (h1 : z < 256) : ((Lib.len8tab[z.toNat]'h).toNat : Int) = (Lib.bitLen z.toNat : Int) := by
  rw [← Lib.len8_of z h0 (by omega)]
  unfold Lib.len8
  rw [getElem?_pos Lib.len8tab z.toNat h]
  rfl
theorem bitLen_256 (n : Nat) (h : n < 256) : Lib.bitLen n ≤ 8 := Lib.bitLen_le8 ⟨n, h⟩
theorem wrap_len (k b c : Nat) (hk : k ≤ 56) (hb : b ≤ 8) (e : c = k + b) : wrap64 ((k : Int) + wrap64 (b : Int)) = (c : Int) := by
  unfold wrap64
  omega
theorem wrap_len0 (b : Nat) (hb : b ≤ 8) : wrap64 (wrap64 (b : Int)) = (b : Int) := by
  unfold wrap64
  omega
theorem lt_pow64 (x : Int) (hx : x ≤ 18446744073709551615) : x.toNat < 2 ^ 64 := by
  have e : (2 : Nat) ^ 64 = 18446744073709551616 := by decide
  rw [e]; omega
theorem len_way (k : Nat) (hk : k ≤ 56) (x z : Int) (hx : x ≤ 18446744073709551615) (d : Nat) (hd : 2 ^ k = d) (hz : z.toNat = x.toNat / d) (hz0 : 0 ≤ z) (hz1 : z < 256) (hge : d ≤ x.toNat)
    (h : z.toNat < Lib.len8tab.size) : wrap64 ((k : Int) + wrap64 ((Lib.len8tab[z.toNat]'h).toNat : Int)) = (Lib.bitLen x.toNat : Int) := by
  rw [len8_get z h hz0 hz1]
  have l := bitLen_256 z.toNat (by omega)
  have e := Lib.bitLen_shift k x.toNat (by rw [hd]; exact hge) (lt_pow64 x hx)
  rw [hd, ← hz] at e
  exact wrap_len k _ _ hk l e
theorem len_way0 (x : Int) (h0 : 0 ≤ x) (h1 : x < 256) (h : x.toNat < Lib.len8tab.size) : wrap64 (wrap64 ((Lib.len8tab[x.toNat]'h).toNat : Int)) = (Lib.bitLen x.toNat : Int) := by
  rw [len8_get x h h0 h1]
  have l := bitLen_256 x.toNat (by omega)
  exact wrap_len0 _ l

set_option maxRecDepth 100000 in
set_option maxHeartbeats 4000000 in
theorem len64_any (x : Int) (h0 : 0 ≤ x) (hy : x ≤ 18446744073709551615) (w : World) :
    Calls Try.prog 40 #[.int .u64 x] w fun e w' => (e = .returned (.int .i64 ((Lib.bitLen x.toNat : Nat) : Int))) ∧ w' = w := by
  have hsz : (Lib.len8tab.size : Int) = 256 := by rw [Lib.len8tab_size]; rfl
  go_enter Try.func40, Try.ntmps40
  go_wp2
  all_goals (go_ret; refine ⟨ret1 ?_, rfl⟩; go_light)
  · exact len_way 56 (by decide) x _ hy 72057594037927936 (by decide) (by omega) (by omega) (by omega) (by omega) _
  · exact len_way 48 (by decide) x _ hy 281474976710656 (by decide) (by omega) (by omega) (by omega) (by omega) _
  · exact len_way 40 (by decide) x _ hy 1099511627776 (by decide) (by omega) (by omega) (by omega) (by omega) _
  · exact len_way 32 (by decide) x _ hy 4294967296 (by decide) (by omega) (by omega) (by omega) (by omega) _
  · exact len_way 24 (by decide) x _ hy 16777216 (by decide) (by omega) (by omega) (by omega) (by omega) _
  · exact len_way 16 (by decide) x _ hy 65536 (by decide) (by omega) (by omega) (by omega) (by omega) _
  · exact len_way 8 (by decide) x _ hy 256 (by decide) (by omega) (by omega) (by omega) (by omega) _
  · exact len_way0 x h0 (by omega) _

theorem bitLen_lower (x : Nat) (h0 : 0 < x) (h : x < 2 ^ 64) : 1 ≤ Lib.bitLen x ∧ Lib.bitLen x ≤ 64 ∧ 2 ^ (Lib.bitLen x - 1) ≤ x := by
  have h1 := Lib.bitLen_half x (by omega) h
  refine ⟨by omega, Lib.bitLen_le x 64 (Nat.le_refl _) h, ?_⟩
  apply Nat.le_of_not_lt
  intro hlt
  have h2 := Lib.bitLen_le x 64 (Nat.le_refl _) h
  have := Lib.bitLen_le x (Lib.bitLen x - 1) (by omega) hlt
  omega
theorem bitLen_upper (x : Nat) (h : x < 2 ^ 64) : x < 2 ^ Lib.bitLen x := by
  apply Nat.lt_of_not_le
  intro hle
  have h1 := Lib.bitLen_shift (Lib.bitLen x) x hle h
  have hp : 0 < 2 ^ Lib.bitLen x := Nat.two_pow_pos _
  have h3 : 1 ≤ x / 2 ^ Lib.bitLen x := by rw [Nat.le_div_iff_mul_le hp]; omega
  have h4 : x / 2 ^ Lib.bitLen x ≤ x := Nat.div_le_self _ _
  have h2 := Lib.bitLen_half (x / 2 ^ Lib.bitLen x) (by omega) (by omega)
  omega
/-- How far a number is moved so that its highest bit is the word's. -/
theorem norm_exists (y : Nat) (h0 : 0 < y) (h : y < 18446744073709551616) : 9223372036854775808 ≤ y * 2 ^ (64 - Lib.bitLen y) ∧ y * 2 ^ (64 - Lib.bitLen y) < 18446744073709551616 := by
  have e64 : (2 : Nat) ^ 64 = 18446744073709551616 := rfl
  have e63 : (2 : Nat) ^ 63 = 9223372036854775808 := rfl
  obtain ⟨l1, l2, l3⟩ := bitLen_lower y h0 (by omega)
  have u := bitLen_upper y (by omega)
  generalize Lib.bitLen y = n at *
  have hp : 0 < 2 ^ (64 - n) := Nat.two_pow_pos _
  have a1 : 2 ^ (n - 1) * 2 ^ (64 - n) = 2 ^ 63 := by rw [← Nat.pow_add]; congr 1; omega
  have a2 : 2 ^ n * 2 ^ (64 - n) = 2 ^ 64 := by rw [← Nat.pow_add]; congr 1; omega
  constructor
  · rw [← e63, ← a1]; exact Nat.mul_le_mul_right _ l3
  · rw [← e64, ← a2]; exact Nat.mul_lt_mul_of_pos_right u hp

set_option maxHeartbeats 400000 in
theorem zeros64_any (x : Int) (h0 : 0 ≤ x) (hy : x ≤ 18446744073709551615) (h64 : Lib.bitLen x.toNat ≤ 64) (w : World) :
    Calls Try.prog 39 #[.int .u64 x] w fun e w' => (e = .returned (.int .i64 ((64 - Lib.bitLen x.toNat : Nat) : Int))) ∧ w' = w := by
  go_enter Try.func39, Try.ntmps39
  go_wp2_with fail
  refine (len64_any x h0 hy _).mono ?_
  rintro e w' ⟨rfl, rfl⟩
  go_wp2_with fail
  go_ret
  exact ⟨ret1 (by omega), rfl⟩
end Go.Proofs.Ytfdnfdakejabaaa
