/-
  Walks of the statements' own helpers over []uint64: a copy with marks behind it, and whether it is as it was.
-/
import Derived.Test.YtldipdbcmehioaaWorks
namespace Go.Proofs.Ytldipdbcmehioaa
open Go.RowKit

theorem Try.info29 : (Try.prog.info? 29).map (fun i => (i.zero, i.size, i.bytes)) = some (some (.int .u64 0), 1, 8) := by kernel_rfl

theorem Lies.news {w w' : World} {ao : Option Addr} {len : Nat} {zs : List Int} (h : Lies w ao len zs) (hg : w.grownBy w' none) : ∀ ad, ao = some ad → ∀ j u, (zs.map (Value.int .u64))[j]? = some u → w'.cell? (ad.add j) = some u := by
  intro ad had j u hu
  have hj : j < len := by
    have := (List.getElem?_eq_some_iff.1 hu).1
    simpa [h.1] using this
  have e : (zs.map (Value.int .u64))[j]? = some (.int .u64 (zs.getD j 0)) := by simp [List.getD, show j < zs.length by rw [h.1]; exact hj]
  rw [e] at hu
  rw [← hu]
  exact hg.cell (h.2.2 ad had j hj) (fun e => by cases e)

set_option maxHeartbeats 1000000 in
theorem lent_any (ao : Option Addr) (len cap : Nat) (zs : List Int) (w : World) (hL : Lies w ao len zs) (hn : ao = none → len = 0 ∧ cap = 0) (hmax : len ≤ 268435455) :
    Calls Try.prog 10 #[.slice ao len cap] w fun e w' => e = .returned (.slice (some ⟨w.heap.size, 0, none⟩) len (len + 2)) ∧
      w'.ownsRow w.heap.size 29 1 (.slice (some ⟨w.heap.size, 0, none⟩) (len + 2) (len + 2)) (len + 2) ((zs ++ [8999229, 8999228]).map (Value.int .u64)) ∧ Below w.heap.size w w' := by
  obtain ⟨i0, hi, hz0, hz1, hz2⟩ := info_parts Try.info29
  go_enter Try.func10, Try.ntmps10
  go_wp2_with (at_make; refine wpList_make_own _ rfl _ _ 22 rfl w.heap.size 29 i0 (.int .u64 0) 1 Try.underlying22 hi hz0 hz1 _ _ _ (len + 2) rfl rfl (by omega) ?b2 ?b3 (Nat.le_refl _) ?_)
  case b2 => rw [hz2]; omega
  case b3 => unfold maxLen; omega
  intro w0 hown0 hgrow0
  go_wp2_with (first
    | (at_builtin; refine wpList_append_fits_any _ rfl (.tmp 8) (.tmp 9) 22 rfl w.heap.size 29 i0 1 Try.underlying22 hi hz1 w.heap.size 0 (len + 2) _ rfl hown0 _ len _ (zs.map (Value.int .u64)) rfl (by simp [hL.1]) hn (hL.news hgrow0) (ints_oneCell _ _) (by omega) ?_; intro w1 hown1 hgrow1; simp only [Nat.zero_add, List.nil_append] at hown1)
    | (at_builtin; refine wpList_append_fits _ rfl (.tmp 11) (.tmp 12) 22 rfl w.heap.size 29 i0 1 Try.underlying22 hi hz1 w.heap.size len (len + 2) _ rfl (hown1.alloc _) ⟨w1.heap.size, 0, none⟩ 2 2 [.int .u64 8999229, .int .u64 8999228] rfl rfl (by intro t u ht; match t, ht with | 0, ht => simp at ht; subst ht; simp [Addr.add] | 1, ht => simp at ht; subst ht; simp [Addr.add]) (by intro u hu; simp at hu; rcases hu with rfl | rfl <;> rfl) (by omega) ?_; intro w2 hown2 hgrow2))
  go_ret
  have b0 := (Below.refl w.heap.size w).grown hgrow0 (Nat.le_refl _) (fun k h => by cases h)
  have b1 := b0.grown hgrow1 b0.size (fun k hk => by cases hk; exact Nat.le_refl _)
  have b2 := b1.alloc b1.size (.cells #[.int .u64 8999229, .int .u64 8999228] 29)
  have b3 := b2.grown hgrow2 b2.size (fun k hk => by cases hk; exact Nat.le_refl _)
  exact ⟨rfl, by simpa using hown2, b3⟩

set_option maxHeartbeats 1000000 in
/-- Two lists of the same numbers are the same. -/
theorem same_any (b1 o1 c1 b2 o2 c2 len : Nat) (zs : List Int) (w : World) (hz : zs.length = len) (hmax : len ≤ 268435455)
    (h1 : ∀ j, j < len → w.cell? ⟨b1, o1 + j, none⟩ = some (.int .u64 (zs.getD j 0))) (h2 : ∀ j, j < len → w.cell? ⟨b2, o2 + j, none⟩ = some (.int .u64 (zs.getD j 0))) :
    Calls Try.prog 32 #[.slice (some ⟨b1, o1, none⟩) len c1, .slice (some ⟨b2, o2, none⟩) len c2] w fun e w' => e = .returned (.bool true) ∧ ∃ n, w' = w.drewN n := by
  go_enter Try.func32, Try.ntmps32
  go_wp2
  go_loopw [5] (fun i wr => ∃ (k n : Nat), k ≤ len ∧ i = .int .i64 k ∧ wr = w.drewN n) (fun i _ => len - (intOf i).toNat)
  case atStart => exact ⟨0, 0, by omega, rfl, rfl⟩
  case round =>
    obtain ⟨k, n, hk, rfl, rfl⟩ := hrel
    by_cases hlt : k < len
    · have hc1 := h1 k hlt
      have hc2 := h2 k hlt
      have hlt' : (k : Int) < (len : Int) := by omega
      clear h1 h2
      go_wp2
      go_quiet (fail)
      go_wp2
      exact ⟨⟨k + 1, _, by omega, by go_num, rfl⟩, by simp only [intOf]; omega⟩
    · go_wp2
      go_ret
      exact ⟨rfl, n, rfl⟩

set_option maxHeartbeats 1000000 in
theorem same_none (a1 a2 : Option Addr) (c1 c2 : Nat) (w : World) :
    Calls Try.prog 32 #[.slice a1 0 c1, .slice a2 0 c2] w fun e w' => e = .returned (.bool true) ∧ ∃ n, w' = w.drewN n := by
  go_enter Try.func32, Try.ntmps32
  go_wp2
  refine wp_loop_rounds 1 ?_
  rw [rounds_succ]
  go_wp2
  go_ret
  exact ⟨rfl, 0, rfl⟩

set_option maxHeartbeats 1000000 in
/-- What was lent is whole. -/
theorem whole_any (B b off cap len : Nat) (zs : List Int) (w : World) (hz : zs.length = len) (hmax : len ≤ 268435455)
    (h1 : ∀ j, j < len → w.cell? ⟨B, j, none⟩ = some (.int .u64 (zs.getD j 0))) (h2 : ∀ j, j < len → w.cell? ⟨b, off + j, none⟩ = some (.int .u64 (zs.getD j 0)))
    (hm1 : w.cell? ⟨B, len, none⟩ = some (.int .u64 8999229)) (hm2 : w.cell? ⟨B, len + 1, none⟩ = some (.int .u64 8999228)) :
    Calls Try.prog 12 #[.slice (some ⟨B, 0, none⟩) len (len + 2), .slice (some ⟨b, off, none⟩) len cap] w fun e w' => e = .returned (.bool true) ∧ ∃ n, w' = w.drewN n := by
  have hs := same_any B 0 (len + 2) b off cap len zs w hz hmax (fun j hj => by rw [Nat.zero_add]; exact h1 j hj) h2
  have hS : Hid (Calls Try.prog 32 #[.slice (some ⟨B, 0, none⟩) len (len + 2), .slice (some ⟨b, off, none⟩) len cap] w fun e w' => e = .returned (.bool true) ∧ ∃ n, w' = w.drewN n) := hs
  clear hs h1 h2
  go_enter Try.func12, Try.ntmps12
  go_wp2_with fail
  refine hS.out.mono ?_
  rintro e w' ⟨rfl, ⟨n, rfl⟩⟩
  go_wp2_with fail
  go_ret
  exact ⟨rfl, n, rfl⟩

set_option maxHeartbeats 1000000 in
theorem whole_none (B : Nat) (ao : Option Addr) (cap : Nat) (w : World) (hm1 : w.cell? ⟨B, 0, none⟩ = some (.int .u64 8999229)) (hm2 : w.cell? ⟨B, 1, none⟩ = some (.int .u64 8999228)) :
    Calls Try.prog 12 #[.slice (some ⟨B, 0, none⟩) 0 2, .slice ao 0 cap] w fun e w' => e = .returned (.bool true) ∧ ∃ n, w' = w.drewN n := by
  go_enter Try.func12, Try.ntmps12
  go_wp2_with fail
  refine (same_none _ _ _ _ _).mono ?_
  rintro e w' ⟨rfl, ⟨n, rfl⟩⟩
  go_wp2_with fail
  go_ret
  exact ⟨rfl, n, rfl⟩
theorem whole_lies (B : Nat) (ao : Option Addr) (len cap : Nat) (zs : List Int) (w : World) (hB : Lies w (some ⟨B, 0, none⟩) len zs) (h : Lies w ao len zs) (hmax : len ≤ 268435455)
    (hm1 : w.cell? ⟨B, len, none⟩ = some (.int .u64 8999229)) (hm2 : w.cell? ⟨B, len + 1, none⟩ = some (.int .u64 8999228)) :
    Calls Try.prog 12 #[.slice (some ⟨B, 0, none⟩) len (len + 2), .slice ao len cap] w fun e w' => e = .returned (.bool true) ∧ ∃ n, w' = w.drewN n := by
  by_cases h0 : len = 0
  · subst h0
    exact whole_none B ao cap w hm1 hm2
  · obtain ⟨b, off, rfl, _, hc⟩ := h.addr (by omega)
    refine whole_any B b off cap len zs w h.1 hmax (fun j hj => ?_) hc hm1 hm2
    have := hB.2.2 _ rfl j hj
    rw [Addr.add_lit, Nat.zero_add] at this
    exact this

/-- What the call itself has laid, as a slice of numbers. -/
theorem Lies.own {w : World} {base g n cap : Nat} {xs : List Int} (h : w.ownsRow base 29 1 (.slice (some ⟨g, 0, none⟩) n cap) n (xs.map (Value.int .u64))) (m : Nat) (hm : m ≤ n) : Lies w (some ⟨g, 0, none⟩) m (xs.take m) := by
  have hl : xs.length = n := by have := h.1; simpa using this
  refine ⟨by rw [List.length_take]; omega, (fun e => by cases e), fun ad had j hj => ?_⟩
  cases had
  have hc := h.cellAt j (by omega)
  rw [Addr.add_lit, Nat.zero_add, hc]
  simp [List.getD, hj, show j < xs.length by omega]

/-- The lent copy, its block by a name. -/
theorem lent_at (B : Nat) (ao : Option Addr) (len cap : Nat) (zs : List Int) (w : World) (hB : w.heap.size = B) (hL : Lies w ao len zs) (hn : ao = none → cap = 0) (hmax : len ≤ 268435455) :
    Calls Try.prog 10 #[.slice ao len cap] w fun e w' => e = .returned (.slice (some ⟨B, 0, none⟩) len (len + 2)) ∧ B < w'.heap.size ∧
      Lies w' (some ⟨B, 0, none⟩) len zs ∧ w'.cell? ⟨B, len, none⟩ = some (.int .u64 8999229) ∧ w'.cell? ⟨B, len + 1, none⟩ = some (.int .u64 8999228) ∧ Below B w w' := by
  subst hB
  refine (lent_any ao len cap zs w hL (fun h => ⟨hL.2.1 h, hn h⟩) hmax).mono ?_
  rintro e w' ⟨rfl, hown, hbel⟩
  have hz := hL.1
  refine ⟨rfl, (hown.lt _ rfl).2, ?_, ?_, ?_, hbel⟩
  · have := Lies.own hown len (by omega)
    rw [List.take_append_of_le_length (by omega), List.take_of_length_le (by omega)] at this
    exact this
  · rw [hown.cellAt len (by omega)]
    simp [hz]
  · rw [hown.cellAt (len + 1) (by omega)]
    simp [hz]

/-- A slice of numbers that came in. -/
theorem lies_of_row {w : World} {a : Option Addr} {len cap : Nat} {zs : List Int} (h : (a = none ∧ len = 0 ∧ cap = 0 ∧ zs = []) ∨
    ∃ x, a = some x ∧ len ≤ cap ∧ cap ≤ maxLen ∧ zs.length = cap ∧ (∀ i, i < zs.length → w.cell? (x.add i) = some (.int .u64 (zs.getD i 0))) ∧ ∀ n ∈ zs, (Lit.int .u64 n).wf = true) :
    Lies w a len (zs.take len) ∧ (a = none → cap = 0) ∧ Fits (zs.take len) := by
  rcases h with ⟨rfl, rfl, rfl, rfl⟩ | ⟨x, rfl, hlc, _, hz, hc, hw⟩
  · exact ⟨⟨rfl, fun _ => rfl, (fun ad had => by cases had)⟩, fun _ => rfl, fun j => by simp⟩
  · refine ⟨⟨by rw [List.length_take]; omega, (fun e => by cases e), fun ad had j hj => ?_⟩, (fun e => by cases e), fun j => ?_⟩
    · cases had
      rw [hc j (by omega)]
      simp [List.getD, hj]
    · show 0 ≤ (zs.take len)[j]?.getD 0 ∧ (zs.take len)[j]?.getD 0 ≤ _
      by_cases hj : j < (zs.take len).length
      · rw [List.getElem?_eq_getElem hj, Option.getD_some]
        exact bounds_u64 (hw _ (List.mem_of_mem_take (List.getElem_mem hj)))
      · rw [List.getElem?_eq_none (by omega)]; simp
theorem row_len {w : World} {a : Option Addr} {len cap : Nat} {zs : List Int} (h : (a = none ∧ len = 0 ∧ cap = 0 ∧ zs = []) ∨
    ∃ x, a = some x ∧ len ≤ cap ∧ cap ≤ maxLen ∧ zs.length = cap ∧ (∀ i, i < zs.length → w.cell? (x.add i) = some (.int .u64 (zs.getD i 0))) ∧ ∀ n ∈ zs, (Lit.int .u64 n).wf = true) : len ≤ 9223372036854775807 := by
  rcases h with ⟨_, h, _, _⟩ | ⟨x, _, h1, h2, _⟩
  · omega
  · unfold maxLen at h2; omega
end Go.Proofs.Ytldipdbcmehioaa
