/-
  The walk of math/bits.Div64 at every dividend whose quotient fits one word.
-/
import Derived.Test.YtfdnfdakejabaaaLen
import Derived.Test.YtfdnfdakejabaaaDig
namespace Go.Proofs.Ytfdnfdakejabaaa
open Go.RowKit Go.Lib

theorem zeros64_s (x : Int) (s : Nat) (h0 : 0 ≤ x) (hy : x ≤ 18446744073709551615) (h64 : Lib.bitLen x.toNat ≤ 64) (hs : s = 64 - Lib.bitLen x.toNat) (w : World) :
    Calls Try.prog 39 #[.int .u64 x] w fun e w' => (e = .returned (.int .i64 (s : Int))) ∧ w' = w := by
  subst hs; exact zeros64_any x h0 hy h64 w

set_option maxRecDepth 100000 in
set_option maxHeartbeats 4000000 in
theorem div64_walk (hi lo y Y D : Int) (U v1 v0 d1 d0 g1 e1 Q1 R1 g0 e0 Q0 : Int) (s : Nat) (h1 : 1 ≤ hi) (hhy : hi < y) (_hl0 : 0 ≤ lo) (_hl : lo ≤ 18446744073709551615) (hy : y ≤ 18446744073709551615)
    (h64 : Lib.bitLen y.toNat ≤ 64) (hs : Hid (s = 64 - Lib.bitLen y.toNat)) (hs64 : s ≤ 63) (hY : IntKind.u64.wrap (y * 2 ^ s) = Y) (hv1 : Y / 4294967296 = v1) (hv0 : bits BinOp.and IntKind.u64 Y 4294967295 = v0)
    (hU : bits BinOp.or IntKind.u64 (IntKind.u64.wrap (hi * 2 ^ s)) (lo / 2 ^ (64 - s)) = U) (hD : IntKind.u64.wrap (lo * 2 ^ s) = D)
    (hd1 : D / 4294967296 = d1) (hd0 : bits BinOp.and IntKind.u64 D 4294967295 = d0) (hv1b : 2147483648 ≤ v1) (hv1c : v1 ≤ 4294967295) (hU0 : 0 ≤ U) (hUm : U ≤ 18446744073709551615) (hv00 : 0 ≤ v0) (hv0c : v0 ≤ 4294967295)
    (hd10 : 0 ≤ d1) (hd1c : d1 ≤ 4294967295) (hd00 : 0 ≤ d0) (hd0c : d0 ≤ 4294967295)
    (hg1 : U / v1 = g1) (he1 : IntKind.u64.wrap (U - IntKind.u64.wrap (g1 * v1)) = e1) (hg10 : 0 ≤ g1) (hg1c : g1 ≤ 4294967297) (he10 : 0 ≤ e1) (he1c : e1 ≤ 4294967295) (hDG1 : Hid (DG U d1 v1 v0 g1 e1 Q1)) (hQ10 : 0 ≤ Q1) (hQ1c : Q1 ≤ 4294967295)
    (hR1 : IntKind.u64.wrap (IntKind.u64.wrap (IntKind.u64.wrap (U * 4294967296) + d1) - IntKind.u64.wrap (Q1 * Y)) = R1) (hR10 : 0 ≤ R1) (hR1c : R1 ≤ 18446744073709551615)
    (hg0 : R1 / v1 = g0) (he0 : IntKind.u64.wrap (R1 - IntKind.u64.wrap (g0 * v1)) = e0) (hg00 : 0 ≤ g0) (hg0c : g0 ≤ 4294967297) (he00 : 0 ≤ e0) (he0c : e0 ≤ 4294967295) (hDG0 : Hid (DG R1 d0 v1 v0 g0 e0 Q0)) (hQ00 : 0 ≤ Q0) (hQ0c : Q0 ≤ 4294967295) (w : World) :
    Calls Try.prog 35 #[.int .u64 hi, .int .u64 lo, .int .u64 y] w fun e w' => (∃ r : Int, e = .returned (.tuple #[.int .u64 (Q1 * 4294967296 + Q0), .int .u64 r])) ∧ w' = w := by
  have hb : (y == 0) = false := by simp; omega
  have hb2 : decide (y ≤ hi) = false := by simp; omega
  have hb3 : (hi == 0) = false := by simp; omega
  have hv : (v1 == 0) = false := by simp; omega
  go_enter Try.func35, Try.ntmps35
  go_wp2_with fail
  refine (zeros64_s y s (by omega) hy h64 hs.out _).mono ?_
  rintro e w' ⟨rfl, rfl⟩
  go_wp2_with fail
  go_loop [15, 16] (fun a b => ∃ q r : Int, a = .int .u64 q ∧ b = .int .u64 r ∧ 0 ≤ q ∧ 0 ≤ r ∧ q ≤ 4294967297 ∧ r ≤ 4294967295 ∧ Hid (DG U d1 v1 v0 q r Q1)) (fun a _ => (intOf a).toNat)
  case atStart => exact ⟨g1, e1, by rw [hg1], by first | rfl | rw [he1] | rw [hg1, he1], hg10, he10, hg1c, he1c, hDG1⟩
  case round =>
    obtain ⟨q, r, rfl, rfl, hq0, hr0, hq, hr, hqr⟩ := hrel
    by_cases ht : q < 4294967296 ∧ IntKind.u64.wrap (q * v0) ≤ 4294967296 * r + d1
    · obtain ⟨ht1, ht2⟩ := ht
      have hx := loop_stop U d1 v1 v0 q r Q1 hq0 hr0 hQ10 hd10 hv1b hv00 hv0c hqr.out ht1 ht2
      subst hx
      go_wp2_with fail
      go_loop [18, 16] (fun a b => ∃ q r : Int, a = .int .u64 q ∧ b = .int .u64 r ∧ 0 ≤ q ∧ 0 ≤ r ∧ q ≤ 4294967297 ∧ r ≤ 4294967295 ∧ Hid (DG R1 d0 v1 v0 q r Q0)) (fun a _ => (intOf a).toNat)
      case atStart => exact ⟨g0, e0, rfl, rfl, hg00, he00, hg0c, he0c, hDG0⟩
      case round =>
        obtain ⟨q', r', rfl, rfl, hq0', hr0', hq', hr', hqr'⟩ := hrel
        by_cases ht2 : q' < 4294967296 ∧ IntKind.u64.wrap (q' * v0) ≤ 4294967296 * r' + d0
        · obtain ⟨ht3, ht4⟩ := ht2
          have hx' := loop_stop R1 d0 v1 v0 q' r' Q0 hq0' hr0' hQ00 hd00 hv1b hv00 hv0c hqr'.out ht3 ht4
          subst hx'
          go_wp2_with fail
          go_ret2
          exact ⟨⟨_, rfl⟩, rfl⟩
        · have ht' : 4294967296 ≤ q' ∨ 4294967296 * r' + d0 < IntKind.u64.wrap (q' * v0) := by omega
          obtain ⟨hq1', hn⟩ := loop_next R1 d0 v1 v0 q' r' Q0 hq0' hr0' hQ00 hd00 hv1b hv00 hv0c hQ0c hqr'.out ht'
          by_cases hbr : r' + v1 < 4294967296
          · have hn' : Hid (DG R1 d0 v1 v0 (q' - 1) (r' + v1) Q0) := hn
            clear hn
            go_wp2_with fail
            all_goals exact ⟨⟨q' - 1, r' + v1, rfl, rfl, by omega, by omega, by omega, by omega, hn'⟩, by simp only [intOf]; omega⟩
          · have hx' := loop_break R1 d0 v1 v0 (q' - 1) (r' + v1) Q0 (by omega) hQ00 hv1b hv00 hv0c hn (by omega) (by omega)
            clear hn
            have hbr' : 4294967296 ≤ r' + v1 := by omega
            clear hbr
            go_wp2_with fail
            all_goals (go_ret2; exact ⟨⟨_, rfl⟩, rfl⟩)
    · have ht' : 4294967296 ≤ q ∨ 4294967296 * r + d1 < IntKind.u64.wrap (q * v0) := by omega
      obtain ⟨hq1, hn⟩ := loop_next U d1 v1 v0 q r Q1 hq0 hr0 hQ10 hd10 hv1b hv00 hv0c hQ1c hqr.out ht'
      by_cases hbr : r + v1 < 4294967296
      · have hn' : Hid (DG U d1 v1 v0 (q - 1) (r + v1) Q1) := hn
        clear hn
        go_wp2_with fail
        all_goals exact ⟨⟨by omega, by omega, by omega⟩, by simp only [intOf]; omega⟩
      · have hx := loop_break U d1 v1 v0 (q - 1) (r + v1) Q1 (by omega) hQ10 hv1b hv00 hv0c hn (by omega) (by omega)
        clear hn
        have hbr' : 4294967296 ≤ r + v1 := by omega
        clear hbr ht
        go_wp2_with fail
        all_goals
          go_loop [18, 16] (fun a b => ∃ q r : Int, a = .int .u64 q ∧ b = .int .u64 r ∧ 0 ≤ q ∧ 0 ≤ r ∧ q ≤ 4294967297 ∧ r ≤ 4294967295 ∧ Hid (DG R1 d0 v1 v0 q r Q0)) (fun a _ => (intOf a).toNat)
          case atStart => exact ⟨g0, e0, rfl, rfl, hg00, he00, hg0c, he0c, hDG0⟩
          case round =>
            obtain ⟨q', r', rfl, rfl, hq0', hr0', hq', hr', hqr'⟩ := hrel
            by_cases ht2 : q' < 4294967296 ∧ IntKind.u64.wrap (q' * v0) ≤ 4294967296 * r' + d0
            · obtain ⟨ht3, ht4⟩ := ht2
              have hx' := loop_stop R1 d0 v1 v0 q' r' Q0 hq0' hr0' hQ00 hd00 hv1b hv00 hv0c hqr'.out ht3 ht4
              subst hx'
              go_wp2_with fail
              go_ret2
              exact ⟨⟨_, rfl⟩, rfl⟩
            · have ht' : 4294967296 ≤ q' ∨ 4294967296 * r' + d0 < IntKind.u64.wrap (q' * v0) := by omega
              obtain ⟨hq1', hn⟩ := loop_next R1 d0 v1 v0 q' r' Q0 hq0' hr0' hQ00 hd00 hv1b hv00 hv0c hQ0c hqr'.out ht'
              by_cases hbr : r' + v1 < 4294967296
              · have hn' : Hid (DG R1 d0 v1 v0 (q' - 1) (r' + v1) Q0) := hn
                clear hn
                go_wp2_with fail
                all_goals exact ⟨⟨q' - 1, r' + v1, rfl, rfl, by omega, by omega, by omega, by omega, hn'⟩, by simp only [intOf]; omega⟩
              · have hx' := loop_break R1 d0 v1 v0 (q' - 1) (r' + v1) Q0 (by omega) hQ00 hv1b hv00 hv0c hn (by omega) (by omega)
                clear hn
                have hbr' : 4294967296 ≤ r' + v1 := by omega
                clear hbr
                go_wp2_with fail
                all_goals (go_ret2; exact ⟨⟨_, rfl⟩, rfl⟩)
end Go.Proofs.Ytfdnfdakejabaaa
