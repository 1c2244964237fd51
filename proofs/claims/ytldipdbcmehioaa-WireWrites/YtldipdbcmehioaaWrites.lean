/-
  The walk of the statement WireWrites.
-/
import Derived.Test.YtldipdbcmehioaaLent
import Derived.Deep.Cut
namespace Go.Proofs.Ytldipdbcmehioaa
open Go.RowKit

set_option maxRecDepth 100000 in
set_option maxHeartbeats 4000000 in
theorem writes_any (b s : ByteArray) (ao : Option Addr) (len cap : Nat) (zs : List Int) (n : Int) (w : World) (hL : Lies w ao len zs) (hn : ao = none → cap = 0) (hf : Fits zs) (n0 : -9223372036854775808 ≤ n) (n1 : n ≤ 9223372036854775807)
    (hb : b.size ≤ 140737488355328) (hs : s.size ≤ 140737488355328) (hlen : len ≤ 9223372036854775807) :
    Calls Try.prog 3 #[.string b, .slice ao len cap, .string s, .int .i64 n] w fun e w' => e = .returned (.bool true) ∧ Below w.heap.size w w' := by
  have cW := works_any w
  by_cases hbig : (b.size : Int) + (s.size : Int) ≤ 33554431
  · have hb1' : decide (33554431 < (b.size : Int) + (s.size : Int)) = false := decide_eq_false (by omega)
    by_cases hln : (len : Int) ≤ 3355443
    · have hb2' : decide (3355443 < (len : Int)) = false := decide_eq_false (by omega)
      obtain ⟨P, eP⟩ : ∃ P, P = bytes (b.data.toList ++ putL (nats zs)) := ⟨_, rfl⟩
      obtain ⟨T, eT⟩ : ∃ T, T = bytes (b.data.toList ++ text1 s.data.toList) := ⟨_, rfl⟩
      obtain ⟨Z, eZ⟩ : ∃ Z, Z = zigN n := ⟨_, rfl⟩
      obtain ⟨C, eC⟩ : ∃ C : Int, C = (sumL s.data.toList : Nat) := ⟨_, rfl⟩
      obtain ⟨F, eF⟩ : ∃ F, F = bytes (frS s.data.toList) := ⟨_, rfl⟩
      obtain ⟨E, eE⟩ : ∃ E : Int, E = (frE s.data.toList : Nat) := ⟨_, rfl⟩
      have c5 := fun w => putText_any b s (by omega) (by omega) w
      have c6 := fun w => rputText_any b s (by omega) (by omega) w
      have c7 := fun w => zig_any n n0 n1 w
      have c8 := fun w => rzig_any n n0 n1 w
      have c9 := fun w => sum_any s hs w
      have c10 := fun w => rsum_any s hs w
      have c11 := fun w => frame_any s w
      have c12 := fun w => rframe_any s w
      rw [← eT] at c5 c6
      rw [← eZ] at c7 c8
      rw [← eC] at c9 c10
      rw [← eF, ← eE] at c11 c12
      have c1 : ∀ w1, Below w.heap.size w w1 → Calls Try.prog 10 #[.slice ao len cap] w1 fun e w' => e = .returned (.slice (some ⟨w1.heap.size, 0, none⟩) len (len + 2)) ∧ w1.heap.size < w'.heap.size ∧
          Lies w' (some ⟨w1.heap.size, 0, none⟩) len zs ∧ w'.cell? ⟨w1.heap.size, len, none⟩ = some (.int .u64 8999229) ∧ w'.cell? ⟨w1.heap.size, len + 1, none⟩ = some (.int .u64 8999228) ∧ Below w1.heap.size w1 w' := fun w1 h =>
        lent_at w1.heap.size ao len cap zs w1 rfl (hL.below h) hn (by omega)
      have c2 : ∀ B w2, Lies w2 (some ⟨B, 0, none⟩) len zs → Calls Try.prog 11 #[.string b, .slice (some ⟨B, 0, none⟩) len (len + 2)] w2 fun e w' => e = .returned (.string P) ∧ Below w2.heap.size w2 w' := fun B w2 h => by
        rw [eP]; exact put_lies b _ len (len + 2) zs w2 h (by omega) hf
      have c3 : ∀ B w2, Lies w2 (some ⟨B, 0, none⟩) len zs → Below w.heap.size w w2 → w2.cell? ⟨B, len, none⟩ = some (.int .u64 8999229) → w2.cell? ⟨B, len + 1, none⟩ = some (.int .u64 8999228) →
          Calls Try.prog 12 #[.slice (some ⟨B, 0, none⟩) len (len + 2), .slice ao len cap] w2 fun e w' => e = .returned (.bool true) ∧ ∃ n, w' = w2.drewN n := fun B w2 h1 h2 m1 m2 =>
        whole_lies B ao len cap zs w2 h1 (hL.below h2) (by omega) m1 m2
      have c4 : ∀ w2, Below w.heap.size w w2 → Calls Try.prog 13 #[.string b, .slice ao len cap] w2 fun e w' => e = .returned (.string P) ∧ Below w2.heap.size w2 w' := fun w2 h => by
        rw [eP]; exact rput_lies b ao len cap zs w2 (hL.below h) (by omega) hf
      have HL : Hid (Lies w ao len zs) := hL
      have HF : Hid (Fits zs) := hf
      have hlen' : len ≤ 3355443 := by omega
      have HN : Hid (ao = none → cap = 0) := hn
      clear eP eT eZ eC eF eE hL hf hn
      go_enter Try.func3, Try.ntmps3
      go_wp2_with fail
      refine cW.mono ?_
      rintro e w1 ⟨rfl, hb1⟩
      go_wp2_with fail
      refine (c1 _ hb1).mono ?_
      rintro e w2 ⟨rfl, hB, hL2, hm1, hm2, hb2⟩
      go_wp2_with fail
      refine (c2 _ _ hL2).mono ?_
      rintro e w3 ⟨rfl, hb3⟩
      have hm1' := hb3.cell (p := ⟨w1.heap.size, len, none⟩) hB
      have hm2' := hb3.cell (p := ⟨w1.heap.size, len + 1, none⟩) hB
      rw [hm1] at hm1'
      rw [hm2] at hm2'
      have hb13 := below2 (below2 hb1 hb2) hb3
      have hL3 := hL2.below hb3
      clear hm1 hm2
      go_wp2_with fail
      refine (c3 _ _ hL3 hb13 hm1' hm2').mono ?_
      rintro e w4 ⟨rfl, nn, rfl⟩
      have hb14 := below_d hb13 nn
      clear hm1' hm2' hL3 hL2 hB
      go_wp2_with fail
      refine (c4 _ hb14).mono ?_
      rintro e w5 ⟨rfl, hb5⟩
      have hb15 := below2 hb14 hb5
      clear hb1 hb2 hb3 hb13 hb14 hb5 c1 c2 c3 c4
      go_wp2_with fail
      go_loopw [14] (fun i wr => ∃ k : Nat, k ≤ len ∧ i = .int .i64 k ∧ Below w.heap.size w wr) (fun i _ => len - (intOf i).toNat)
      case atStart => exact ⟨0, Nat.zero_le _, rfl, hb15⟩
      case round =>
        obtain ⟨k, hk, rfl, hbr⟩ := hrel
        clear hb15
        by_cases hlt : k < len
        · have hlt' : (k : Int) < (len : Int) := by omega
          obtain ⟨bb, off, rfl, hbb, hcell⟩ := HL.out.addr (by omega)
          obtain ⟨z, ez⟩ : ∃ z, z = zs.getD k 0 := ⟨_, rfl⟩
          have hz := HF.out k
          have hc := hbr.cell (p := ⟨bb, off + k, none⟩) hbb
          rw [hcell k hlt] at hc
          rw [← ez] at hz hc
          obtain ⟨z0, z1⟩ := hz
          obtain ⟨q, eq⟩ : ∃ q, q = bytes (put1 z.toNat) := ⟨_, rfl⟩
          have d1 : ∀ w, Calls Try.prog 14 #[.int .u64 z] w fun e w' => e = .returned (.int .i64 (q.size : Nat)) ∧ w' = w := fun w => size_any z z0 z1 _ (by show _ = _; rw [eq, bytes_size]) w
          have d2 : ∀ w, Calls Try.prog 15 #[.int .u64 z] w fun e w' => e = .returned (.string q) ∧ Below w.heap.size w w' := fun w => by rw [eq]; exact rone_any z z0 z1 w
          have d3 := fun w => zag_any z z0 z1 w
          have d4 := fun w => rzag_any z z0 z1 w
          have hqs : q.size ≤ 10 := by rw [eq, bytes_size]; exact put1_ten (by omega)
          generalize zagN z = zz at d3 d4
          clear hcell eq ez
          go_wp2_with fail
          refine (d1 _).mono ?_
          rintro e w6 ⟨rfl, rfl⟩
          go_wp2_with fail
          refine (d2 _).mono ?_
          rintro e w7 ⟨rfl, hb7⟩
          have hc7 := hb7.cell (p := ⟨bb, off + k, none⟩) (Nat.lt_of_lt_of_le hbb hbr.size)
          rw [hc] at hc7
          clear hc
          go_wp2_with fail
          refine (d3 _).mono ?_
          rintro e w8 ⟨rfl, rfl⟩
          go_wp2_with fail
          refine (d4 _).mono ?_
          rintro e w8 ⟨rfl, rfl⟩
          go_wp2_with fail
          go_round
          case rel => exact ⟨k + 1, by omega, by go_num, below2 hbr hb7⟩
          case measure => simp [intOf]; omega
        · have hlt' : ¬ (k : Int) < (len : Int) := by omega
          go_wp2_with fail
          refine (c5 _).mono ?_
          rintro e w6 ⟨rfl, hb6⟩
          go_wp2_with fail
          refine (c6 _).mono ?_
          rintro e w7 ⟨rfl, hb7⟩
          go_wp2_with fail
          refine (c7 _).mono ?_
          rintro e w8 ⟨rfl, rfl⟩
          go_wp2_with fail
          refine (c8 _).mono ?_
          rintro e w8 ⟨rfl, rfl⟩
          go_wp2_with fail
          refine (c9 _).mono ?_
          rintro e w8 ⟨rfl, rfl⟩
          go_wp2_with fail
          refine (c10 _).mono ?_
          rintro e w8 ⟨rfl, rfl⟩
          go_wp2_with fail
          refine (c11 _).mono ?_
          rintro e w9 ⟨rfl, hb9⟩
          go_wp2_with fail
          refine (c12 _).mono ?_
          rintro e w10 ⟨rfl, hb10⟩
          go_wp2_with fail
          go_ret
          exact ⟨rfl, below2 (below2 (below2 (below2 hbr hb6) hb7) hb9) hb10⟩
    · have hb2' : decide (3355443 < (len : Int)) = true := decide_eq_true (by omega)
      go_enter Try.func3, Try.ntmps3
      go_wp2_with fail
      refine cW.mono ?_
      rintro e w1 ⟨rfl, hb1⟩
      go_wp2_with fail
      go_ret
      exact ⟨rfl, hb1⟩
  · have hb1' : decide (33554431 < (b.size : Int) + (s.size : Int)) = true := decide_eq_true (by omega)
    go_enter Try.func3, Try.ntmps3
    go_wp2_with fail
    refine cW.mono ?_
    rintro e w1 ⟨rfl, hb1⟩
    go_wp2_with fail
    go_ret
    exact ⟨rfl, hb1⟩
end Go.Proofs.Ytldipdbcmehioaa
