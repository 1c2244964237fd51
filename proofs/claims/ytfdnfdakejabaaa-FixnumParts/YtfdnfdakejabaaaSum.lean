/-
  The walk of fixnum.Sum: two words hold the sum.
-/
import Derived.Test.YtfdnfdakejabaaaLeaf
import Derived.Laws.Externs
namespace Go.Proofs.Ytfdnfdakejabaaa
open Go.RowKit

theorem add64_run (x y c : Int) (hx : 0 ≤ x) (hy : 0 ≤ y) (hc0 : 0 ≤ c) (hc : c ≤ 1) (w : World) :
    (callFunc 36 #[.int .u64 x, .int .u64 y, .int .u64 c]).run Try.prog w =
      .ok (.value (.tuple #[.int .u64 ((x + y + c) % 18446744073709551616), .int .u64 ((x + y + c) / 18446744073709551616)])) w := by
  rw [run_callFunc_extern Try.func36 (by kernel_rfl) (by kernel_rfl) (by kernel_rfl) (e := add64Entry) (by kernel_rfl), run_add64 x y c hx hy hc0 hc]
  rfl

/-- The upper word of a number that is widened to two. -/
def swN (n : Int) : Int := if n < 0 then 18446744073709551615 else 0
theorem swN_eq (n : Int) (h1 : -9223372036854775808 ≤ n) (h2 : n ≤ 9223372036854775807) : IntKind.u64.wrap (n / 9223372036854775808) = swN n := by
  unfold swN
  rw [IntKind.wrap_u64]
  split <;> omega
theorem swN_cases (n : Int) : (n < 0 ∧ swN n = 18446744073709551615) ∨ (0 ≤ n ∧ swN n = 0) := by
  unfold swN; split <;> omega

set_option maxHeartbeats 400000 in
theorem signWord_any (n : Int) (w : World) (h1 : -9223372036854775808 ≤ n) (h2 : n ≤ 9223372036854775807) :
    Calls Try.prog 37 #[.int .i64 n] w fun e w' => e = .returned (.int .u64 (swN n)) ∧ w' = w := by
  go_enter Try.func37, Try.ntmps37
  go_wp2
  go_ret
  exact ⟨ret1 (swN_eq n h1 h2), rfl⟩

/-- The two words of a sum. -/
def lowW (T : Int) : Int := T % 18446744073709551616
def highW (T : Int) : Int := T / 18446744073709551616 % 18446744073709551616
theorem lowW_b (T : Int) : 0 ≤ lowW T ∧ lowW T ≤ 18446744073709551615 := by unfold lowW; omega
theorem highW_b (T : Int) : 0 ≤ highW T ∧ highW T ≤ 18446744073709551615 := by unfold highW; omega
theorem words_add (T n : Int) (h1 : -9223372036854775808 ≤ n) (h2 : n ≤ 9223372036854775807) :
    (lowW T + IntKind.u64.wrap n + 0) % 18446744073709551616 = lowW (T + n) ∧
    (highW T + swN n + (lowW T + IntKind.u64.wrap n + 0) / 18446744073709551616) % 18446744073709551616 = highW (T + n) := by
  rw [IntKind.wrap_u64]
  have := swN_cases n
  generalize swN n = s at *
  unfold lowW highW
  omega
theorem wrap_low (T : Int) : -9223372036854775808 ≤ wrap64 (lowW T) ∧ wrap64 (lowW T) ≤ 9223372036854775807 := ⟨wrap64_lo _, wrap64_hi _⟩
theorem words_end (T : Int) (h1 : -85070591730234615865843651857942052864 ≤ T) (h2 : T ≤ 85070591730234615865843651857942052864) :
    (highW T = swN (wrap64 (lowW T)) ∧ fitB T = true ∧ wrap64 (lowW T) = fitN T) ∨ (highW T ≠ swN (wrap64 (lowW T)) ∧ fitB T = false) := by
  have hs := swN_cases (wrap64 (lowW T))
  generalize hq : swN (wrap64 (lowW T)) = s at *
  by_cases hf : -9223372036854775808 ≤ T ∧ T ≤ 9223372036854775807
  · left
    have hb := fitB_true hf.1 hf.2
    refine ⟨?_, hb, ?_⟩
    · unfold lowW wrap64 at hs; unfold highW; omega
    · rw [fitN_true hb]; unfold lowW wrap64; omega
  · right
    refine ⟨?_, fitB_false (by omega)⟩
    unfold lowW wrap64 at hs; unfold highW; omega

theorem take_sum (zs : List Int) (k : Nat) (h : k < zs.length) : (zs.take (k + 1)).sum = (zs.take k).sum + zs[k]?.getD 0 := by
  rw [List.take_succ_eq_append_getElem h, List.sum_append]
  simp [List.getElem?_eq_getElem h]

theorem take_sum_bound (zs : List Int) (hr : ∀ j : Nat, -9223372036854775808 ≤ zs[j]?.getD 0 ∧ zs[j]?.getD 0 ≤ 9223372036854775807) (k : Nat) (h : k ≤ zs.length) :
    -9223372036854775808 * (k : Int) ≤ (zs.take k).sum ∧ (zs.take k).sum ≤ 9223372036854775808 * (k : Int) := by
  induction k with
  | zero => simp
  | succ k ih =>
    rw [take_sum zs k (by omega)]
    have := ih (by omega)
    have := hr k
    omega

set_option maxHeartbeats 1000000 in
theorem sum_any (b off len cap : Nat) (zs : List Int) (w : World) (hz : len ≤ zs.length) (hmax : len ≤ 4611686018427387904)
    (hc : ∀ j, j < zs.length → w.cell? ⟨b, off + j, none⟩ = some (.int .i64 (zs.getD j 0)))
    (hr : ∀ j : Nat, -9223372036854775808 ≤ zs[j]?.getD 0 ∧ zs[j]?.getD 0 ≤ 9223372036854775807) :
    Calls Try.prog 26 #[.slice (some ⟨b, off, none⟩) len cap] w fun e w' => e = .returned (.tuple #[.int .i64 (fitN (zs.take len).sum), .bool (fitB (zs.take len).sum)]) ∧ w' = w := by
  have hbnd : Hid (-85070591730234615865843651857942052864 ≤ (zs.take len).sum ∧ (zs.take len).sum ≤ 85070591730234615865843651857942052864) := by
    have := take_sum_bound zs hr len hz
    show _ ∧ _
    omega
  go_enter Try.func26, Try.ntmps26
  go_wp2
  go_loop [4, 5, 6, 8, 12] (fun hi lo ca _ i => ∃ (k : Nat) (c : Int), k ≤ len ∧ i = .int .i64 k ∧ hi = .int .u64 (highW (zs.take k).sum) ∧ lo = .int .u64 (lowW (zs.take k).sum) ∧ ca = .int .u64 c) (fun _ _ _ _ i => len - (intOf i).toNat)
  case atStart => exact ⟨0, 0, by omega, rfl, rfl, rfl, rfl⟩
  case round =>
    obtain ⟨k, c, hk, rfl, rfl, rfl, rfl⟩ := hrel
    by_cases hlt : k < len
    · have hcell : w.cell? ⟨b, off + k, none⟩ = some (.int .i64 (zs.getD k 0)) := hc k (by omega)
      have hrk := hr k
      have hT := take_sum zs k (by omega)
      obtain ⟨T, hT0⟩ : ∃ T, (zs.take k).sum = T := ⟨_, rfl⟩
      rw [hT0] at hT
      have HT : Hid ((zs.take (k + 1)).sum = T + zs[k]?.getD 0) := hT
      rw [hT0]
      obtain ⟨e1, e2⟩ := words_add T (zs[k]?.getD 0) hrk.1 hrk.2
      have lb := lowW_b T
      have hb := highW_b T
      have hw : 0 ≤ IntKind.u64.wrap (zs[k]?.getD 0) ∧ IntKind.u64.wrap (zs[k]?.getD 0) ≤ 18446744073709551615 := by rw [IntKind.wrap_u64]; omega
      have hsw : 0 ≤ swN (zs[k]?.getD 0) := by have := swN_cases (zs[k]?.getD 0); omega
      obtain ⟨cy, hcy⟩ : ∃ cy, (lowW T + IntKind.u64.wrap (zs[k]?.getD 0) + 0) / 18446744073709551616 = cy := ⟨_, rfl⟩
      have f1 := add64_run (lowW T) (IntKind.u64.wrap (zs[k]?.getD 0)) 0 lb.1 hw.1 (by omega) (by omega)
      have f2 := add64_run (highW T) (swN (zs[k]?.getD 0)) cy hb.1 hsw (by omega) (by omega)
      rw [hcy] at f1 e2
      rw [e1] at f1
      rw [e2] at f2
      clear e1 e2 hT hT0 hc hr hcy
      go_wp2_with fail
      refine (signWord_any _ _ hrk.1 hrk.2).mono ?_
      rintro e w' ⟨rfl, rfl⟩
      go_wp2_with fail
      go_round
      case rel => exact ⟨k + 1, cy, by omega, by go_num, by rw [HT.out], by rw [HT.out], rfl⟩
      case measure => simp [intOf]; omega
    · have hke : k = len := by omega
      subst hke
      have hend := words_end (zs.take k).sum hbnd.out.1 hbnd.out.2
      have hwl := wrap_low (zs.take k).sum
      obtain ⟨T, hT0⟩ : ∃ T, (zs.take k).sum = T := ⟨_, rfl⟩
      rw [hT0] at hend hwl ⊢
      have HT : Hid ((zs.take k).sum = T) := hT0
      clear hT0 hbnd hc hr
      have hlow := lowW_b T
      rcases hend with ⟨h1, h2, h3⟩ | ⟨h1, h2⟩
      · have H2 : Hid (fitB T = true ∧ wrap64 (lowW T) = fitN T) := ⟨h2, h3⟩
        have h1' : (highW T == swN (wrap64 (lowW T))) = true := by simp [h1]
        clear h1 h2 h3
        go_wp2_with fail
        refine (signWord_any _ _ hwl.1 hwl.2).mono ?_
        rintro e w' ⟨rfl, rfl⟩
        go_wp2_with fail
        go_ret2
        exact ⟨ret2 (by rw [HT.out]; exact H2.out.2) (by rw [HT.out]; exact H2.out.1.symm), rfl⟩
      · have H2 : Hid (fitB T = false) := h2
        have h1' : (highW T == swN (wrap64 (lowW T))) = false := by simp [h1]
        clear h1 h2
        go_wp2_with fail
        refine (signWord_any _ _ hwl.1 hwl.2).mono ?_
        rintro e w' ⟨rfl, rfl⟩
        go_wp2_with fail
        go_ret2
        exact ⟨ret2 (by rw [HT.out, fitN_false H2.out]) (by rw [HT.out, H2.out]), rfl⟩

set_option maxHeartbeats 1000000 in
/-- No number: 0. -/
theorem sum_none (a : Option Addr) (cap : Nat) (w : World) :
    Calls Try.prog 26 #[.slice a 0 cap] w fun e w' => e = .returned (.tuple #[.int .i64 0, .bool true]) ∧ w' = w := by
  go_enter Try.func26, Try.ntmps26
  go_wp2
  refine wp_loop_rounds 1 ?_
  rw [rounds_succ]
  go_wp2_with fail
  refine (signWord_any _ _ (by decide) (by decide)).mono ?_
  rintro e w' ⟨rfl, rfl⟩
  have h0 : swN 0 = 0 := by decide
  go_wp2_with fail
  go_ret2
  exact ⟨rfl, rfl⟩
end Go.Proofs.Ytfdnfdakejabaaa
