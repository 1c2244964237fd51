/-
  The walk of FixnumSums.
-/
import Derived.Test.YtfdnfdakejabaaaLies
import Derived.Test.YtfdnfdakejabaaaWorks
namespace Go.Proofs.Ytfdnfdakejabaaa
open Go.RowKit

theorem works_below (w : World) (c : Array Value) (t : TypeId) (n : Nat) : Below w.heap.size w ((w.alloc (.cells c t)).drewN n) := below_drewN ((Below.refl _ _).alloc (Nat.le_refl _) _) n

set_option maxRecDepth 100000 in
set_option maxHeartbeats 1000000 in
theorem sums_big (ao : Option Addr) (len cap : Nat) (turn : Int) (w : World) (hbig : 268435455 < len) :
    Calls Try.prog 4 #[.slice ao len cap, .int .i64 turn] w fun e w' => e = .returned (.bool true) ∧ Below w.heap.size w w' := by
  go_enter Try.func4, Try.ntmps4
  go_wp2_with fail
  refine (works_any _).mono ?_
  rintro e w1 ⟨rfl, ⟨n, rfl⟩⟩
  go_wp2_with fail
  go_ret
  exact ⟨rfl, works_below _ _ _ _⟩

set_option maxRecDepth 100000 in
set_option maxHeartbeats 1000000 in
theorem sums_none (ao : Option Addr) (cap : Nat) (turn : Int) (w : World) (h : Lies w ao 0 []) (hn : ao = none → cap = 0) (t1 : -9223372036854775808 ≤ turn) (t2 : turn ≤ 9223372036854775807) :
    Calls Try.prog 4 #[.slice ao 0 cap, .int .i64 turn] w fun e w' => e = .returned (.bool true) ∧ Below w.heap.size w w' := by
  have hF : Fits [] := fun j => by simp
  have e1 : fitN ([] : List Int).sum = 0 := by decide +kernel
  have e2 : fitB ([] : List Int).sum = true := by decide +kernel
  go_enter Try.func4, Try.ntmps4
  go_wp2_with fail
  refine (works_any _).mono ?_
  rintro e w1 ⟨rfl, ⟨n, rfl⟩⟩
  go_wp2_with fail
  refine (lent_at (w.heap.size + 1) ao 0 cap [] _ (by simp) (h.below (works_below _ _ _ _)) hn (by decide)).mono ?_
  rintro e w2 ⟨rfl, hB, hL, hm1, hm2, hbel⟩
  have hb0 : Below w.heap.size w w2 := (works_below _ _ _ _).trans (hbel.mono (by omega))
  clear hbel
  go_wp2_with fail
  refine (sum_lies _ 0 _ [] _ hL (by decide) hF).mono ?_
  rintro e w3 ⟨rfl, rfl⟩
  rw [e1, e2]
  go_wp2_with fail
  refine (whole_lies _ _ 0 _ [] _ hL (h.below hb0) (by decide) hm1 hm2).mono ?_
  rintro e w4 ⟨rfl, ⟨m, rfl⟩⟩
  go_wp2_with fail
  refine (rsum_lies _ 0 _ [] _ ((h.below hb0).below (below_drewN (Below.refl _ _) m)) (by decide) hF).mono ?_
  rintro e w4 ⟨rfl, rfl⟩
  rw [e1, e2]
  by_cases ht : turn < 0
  all_goals
    go_wp2_with fail
    refine wp_loop_rounds 1 ?_
    rw [rounds_succ]
    go_wp2_with fail
    refine (sum_none _ _ _).mono ?_
    rintro e w4 ⟨rfl, rfl⟩
    go_wp2_with fail
    go_ret
    exact ⟨rfl, below_drewN hb0 m⟩

/-- The place that is read in a round. -/
theorem place_nat (len k : Nat) (T : Int) (hk : k < len) :
    (((len : Int) - 1 - (k : Int) + T % (len : Int)) % (len : Int)) = (((len - 1 - k + (T % (len : Int)).toNat) % len : Nat) : Int) := by
  have h0 : 0 ≤ T % (len : Int) := Int.emod_nonneg _ (by omega)
  obtain ⟨t, ht⟩ := Int.eq_ofNat_of_zero_le h0
  rw [ht, Int.toNat_natCast]
  have e : (len : Int) - 1 - (k : Int) + (t : Int) = ((len - 1 - k + t : Nat) : Int) := by omega
  rw [e, ← Int.natCast_emod]

set_option maxRecDepth 100000 in
set_option maxHeartbeats 2000000 in
theorem sums_neg (b off len cap : Nat) (zs : List Int) (turn T : Int) (w : World) (h : Lies w (some ⟨b, off, none⟩) len zs) (hlt : b < w.heap.size) (hpos : 0 < len) (hmax : len ≤ 268435455) (hF : Fits zs)
    (_t1 : -9223372036854775808 ≤ turn) (_t2 : turn ≤ 9223372036854775807) (hT0 : 0 ≤ T) (_hTm : T ≤ 9223372036854775807) (ht : turn < 0) (hTr : -(turn + 1) = T) :
    Calls Try.prog 4 #[.slice (some ⟨b, off, none⟩) len cap, .int .i64 turn] w fun e w' => e = .returned (.bool true) ∧ Below w.heap.size w w' := by
  obtain ⟨i0, hi, hz0, hz1, hz2⟩ := info_parts Try.info2
  have hzl := h.1
  have hm0 : 0 ≤ T % (len : Int) := Int.emod_nonneg _ (by omega)
  have hm1' : T % (len : Int) < (len : Int) := Int.emod_lt_of_pos _ (by omega)
  obtain ⟨t, htt⟩ : ∃ t : Nat, (T % (len : Int)).toNat = t := ⟨_, rfl⟩
  have htl : t < len := by omega
  have HP : Hid (∀ k : Nat, k < len → (((len : Int) - 1 - (k : Int) + T % (len : Int)) % (len : Int)) = (((len - 1 - k + t) % len : Nat) : Int)) := fun k hk => by
    have := place_nat len k T hk
    rw [htt] at this
    exact this
  clear htt
  have HZ : Hid (zs.length = len) := hzl
  clear hzl
  have HS : Hid ((turned zs t len).sum = zs.sum) := by
    have := turned_sum zs t (by rw [HZ.out]; exact htl)
    rw [HZ.out] at this
    exact this
  go_enter Try.func4, Try.ntmps4
  go_wp2_with fail
  refine (works_any _).mono ?_
  rintro e w1 ⟨rfl, ⟨n, rfl⟩⟩
  go_wp2_with fail
  refine (lent_at (w.heap.size + 1) _ len cap zs _ (by simp) (h.below (works_below _ _ _ _)) (by intro h; cases h) hmax).mono ?_
  rintro e w2 ⟨rfl, hB, hL, hm1, hm2, hbel⟩
  have hb0 : Below w.heap.size w w2 := (works_below _ _ _ _).trans (hbel.mono (by omega))
  clear hbel
  go_wp2_with fail
  refine (sum_lies _ len _ zs _ hL (by omega) hF).mono ?_
  rintro e w3 ⟨rfl, rfl⟩
  go_wp2_with fail
  refine (whole_lies _ _ len _ zs _ hL (h.below hb0) hmax hm1 hm2).mono ?_
  rintro e w4 ⟨rfl, ⟨m, rfl⟩⟩
  go_wp2_with fail
  refine (rsum_lies _ len _ zs _ ((h.below hb0).below (below_drewN (Below.refl _ _) m)) hmax hF).mono ?_
  rintro e w4 ⟨rfl, rfl⟩
  have hb1 := below_drewN hb0 m
  clear hL hm1 hm2 hB
  go_wp2_with fail
  go_loopw [12, 14] (fun v i wr => ∃ k : Nat, k ≤ len ∧ i = .int .i64 k ∧ wr.ownsRow w.heap.size 2 1 v k ((turned zs t k).map (Value.int .i64)) ∧ Below w.heap.size w wr) (fun _ i _ => len - (intOf i).toNat)
  case atStart => exact ⟨0, by omega, rfl, World.ownsRow_nil _ _ _ _, hb1⟩
  case round =>
    obtain ⟨k, hk, rfl, hown, hbel⟩ := hrel
    by_cases hkl : k < len
    · obtain ⟨idx, hidx⟩ : ∃ idx : Nat, (len - 1 - k + t) % len = idx := ⟨_, rfl⟩
      have hil : idx < len := by rw [← hidx]; exact Nat.mod_lt _ (by omega)
      have hrule := HP.out k hkl
      rw [hidx] at hrule
      have hcell : wr.cell? ⟨b, off + idx, none⟩ = some (.int .i64 (zs.getD idx 0)) := by
        have hc := h.2.2 _ rfl idx hil
        rw [Addr.add_lit] at hc
        rw [hbel.cell (p := ⟨b, off + idx, none⟩) hlt]
        exact hc
      have hsucc : Hid (turned zs t (k + 1) = turned zs t k ++ [zs.getD idx 0]) := by
        show turned zs t (k + 1) = turned zs t k ++ [zs.getD idx 0]
        rw [turned_succ, HZ.out, hidx]
      clear hidx
      go_wp2_with (at_builtin; refine wpList_append_own _ rfl (.tmp 49) (.tmp 63) 29 rfl w.heap.size 2 i0 (.int .i64 0) 1 8 Try.underlying29 hi hz0 hz1 hz2 rfl (by decide) _ _ _ rfl (hown.alloc _) ⟨wr.heap.size, 0, none⟩ 1 1 [.int .i64 (zs.getD idx 0)] rfl rfl ?c1 ?c2 ?c3 ?c4 ?c5 ?_)
      case c1 =>
        intro j u hj
        match j, hj with
        | 0, hj => simp at hj; subst hj; simp [Addr.add]
      case c2 => intro u hu; simp at hu; subst hu; rfl
      case c3 => unfold maxLen; omega
      case c4 => omega
      case c5 => have := hbel.size; simp; omega
      intro v' w5 hown' hgrow _
      have hbel' : Below w.heap.size w w5 := (hbel.alloc hbel.size _).grown hgrow (by have := hbel.size; simp; omega) (fun g hg => (hown.lt g hg).1)
      have hown2 : w5.ownsRow w.heap.size 2 1 v' (k + 1) ((turned zs t (k + 1)).map (Value.int .i64)) := by rw [hsucc.out, List.map_append]; exact hown'
      clear hown' hgrow hown hcell
      go_wp2_with fail
      go_roundw
      case rel => exact ⟨k + 1, by omega, by go_num, hown2, hbel'⟩
      case measure => simp only [intOf]; omega
    · have hke : k = len := by omega
      subst hke
      have hsh : ∃ g c', u12 = .slice (some ⟨g, 0, none⟩) k c' := by
        rcases hown.2 with ⟨_, h0⟩ | ⟨g, c', _, e, _⟩
        · omega
        · exact ⟨g, c', e⟩
      obtain ⟨g, c', hv⟩ := hsh
      have hL2 : Lies wr (some ⟨g, 0, none⟩) k (turned zs t k) := by
        rw [hv] at hown
        have := Lies.own hown k (Nat.le_refl _)
        rw [List.take_of_length_le (by rw [turned_length]; exact Nat.le_refl _)] at this
        exact this
      rw [hv]
      clear hown hv
      go_wp2_with fail
      refine (sum_lies _ k _ (turned zs t k) _ hL2 (by omega) (turned_fits zs t k hF)).mono ?_
      rintro e w6 ⟨rfl, rfl⟩
      rw [HS.out]
      go_wp2_with fail
      go_ret
      exact ⟨rfl, hbel⟩
set_option maxRecDepth 100000 in
set_option maxHeartbeats 2000000 in
theorem sums_pos (b off len cap : Nat) (zs : List Int) (T : Int) (w : World) (h : Lies w (some ⟨b, off, none⟩) len zs) (hlt : b < w.heap.size) (hpos : 0 < len) (hmax : len ≤ 268435455) (hF : Fits zs)
    (hT0 : 0 ≤ T) (_hTm : T ≤ 9223372036854775807) :
    Calls Try.prog 4 #[.slice (some ⟨b, off, none⟩) len cap, .int .i64 T] w fun e w' => e = .returned (.bool true) ∧ Below w.heap.size w w' := by
  obtain ⟨i0, hi, hz0, hz1, hz2⟩ := info_parts Try.info2
  have hzl := h.1
  have hm0 : 0 ≤ T % (len : Int) := Int.emod_nonneg _ (by omega)
  have hm1' : T % (len : Int) < (len : Int) := Int.emod_lt_of_pos _ (by omega)
  obtain ⟨t, htt⟩ : ∃ t : Nat, (T % (len : Int)).toNat = t := ⟨_, rfl⟩
  have htl : t < len := by omega
  have HP : Hid (∀ k : Nat, k < len → (((len : Int) - 1 - (k : Int) + T % (len : Int)) % (len : Int)) = (((len - 1 - k + t) % len : Nat) : Int)) := fun k hk => by
    have := place_nat len k T hk
    rw [htt] at this
    exact this
  clear htt
  have HZ : Hid (zs.length = len) := hzl
  clear hzl
  have HS : Hid ((turned zs t len).sum = zs.sum) := by
    have := turned_sum zs t (by rw [HZ.out]; exact htl)
    rw [HZ.out] at this
    exact this
  go_enter Try.func4, Try.ntmps4
  go_wp2_with fail
  refine (works_any _).mono ?_
  rintro e w1 ⟨rfl, ⟨n, rfl⟩⟩
  go_wp2_with fail
  refine (lent_at (w.heap.size + 1) _ len cap zs _ (by simp) (h.below (works_below _ _ _ _)) (by intro h; cases h) hmax).mono ?_
  rintro e w2 ⟨rfl, hB, hL, hm1, hm2, hbel⟩
  have hb0 : Below w.heap.size w w2 := (works_below _ _ _ _).trans (hbel.mono (by omega))
  clear hbel
  go_wp2_with fail
  refine (sum_lies _ len _ zs _ hL (by omega) hF).mono ?_
  rintro e w3 ⟨rfl, rfl⟩
  go_wp2_with fail
  refine (whole_lies _ _ len _ zs _ hL (h.below hb0) hmax hm1 hm2).mono ?_
  rintro e w4 ⟨rfl, ⟨m, rfl⟩⟩
  go_wp2_with fail
  refine (rsum_lies _ len _ zs _ ((h.below hb0).below (below_drewN (Below.refl _ _) m)) hmax hF).mono ?_
  rintro e w4 ⟨rfl, rfl⟩
  have hb1 := below_drewN hb0 m
  clear hL hm1 hm2 hB
  go_wp2_with fail
  go_loopw [12, 14] (fun v i wr => ∃ k : Nat, k ≤ len ∧ i = .int .i64 k ∧ wr.ownsRow w.heap.size 2 1 v k ((turned zs t k).map (Value.int .i64)) ∧ Below w.heap.size w wr) (fun _ i _ => len - (intOf i).toNat)
  case atStart => exact ⟨0, by omega, rfl, World.ownsRow_nil _ _ _ _, hb1⟩
  case round =>
    obtain ⟨k, hk, rfl, hown, hbel⟩ := hrel
    by_cases hkl : k < len
    · obtain ⟨idx, hidx⟩ : ∃ idx : Nat, (len - 1 - k + t) % len = idx := ⟨_, rfl⟩
      have hil : idx < len := by rw [← hidx]; exact Nat.mod_lt _ (by omega)
      have hrule := HP.out k hkl
      rw [hidx] at hrule
      have hcell : wr.cell? ⟨b, off + idx, none⟩ = some (.int .i64 (zs.getD idx 0)) := by
        have hc := h.2.2 _ rfl idx hil
        rw [Addr.add_lit] at hc
        rw [hbel.cell (p := ⟨b, off + idx, none⟩) hlt]
        exact hc
      have hsucc : Hid (turned zs t (k + 1) = turned zs t k ++ [zs.getD idx 0]) := by
        show turned zs t (k + 1) = turned zs t k ++ [zs.getD idx 0]
        rw [turned_succ, HZ.out, hidx]
      clear hidx
      go_wp2_with (at_builtin; refine wpList_append_own _ rfl (.tmp 49) (.tmp 63) 29 rfl w.heap.size 2 i0 (.int .i64 0) 1 8 Try.underlying29 hi hz0 hz1 hz2 rfl (by decide) _ _ _ rfl (hown.alloc _) ⟨wr.heap.size, 0, none⟩ 1 1 [.int .i64 (zs.getD idx 0)] rfl rfl ?c1 ?c2 ?c3 ?c4 ?c5 ?_)
      case c1 =>
        intro j u hj
        match j, hj with
        | 0, hj => simp at hj; subst hj; simp [Addr.add]
      case c2 => intro u hu; simp at hu; subst hu; rfl
      case c3 => unfold maxLen; omega
      case c4 => omega
      case c5 => have := hbel.size; simp; omega
      intro v' w5 hown' hgrow _
      have hbel' : Below w.heap.size w w5 := (hbel.alloc hbel.size _).grown hgrow (by have := hbel.size; simp; omega) (fun g hg => (hown.lt g hg).1)
      have hown2 : w5.ownsRow w.heap.size 2 1 v' (k + 1) ((turned zs t (k + 1)).map (Value.int .i64)) := by rw [hsucc.out, List.map_append]; exact hown'
      clear hown' hgrow hown hcell
      go_wp2_with fail
      go_roundw
      case rel => exact ⟨k + 1, by omega, by go_num, hown2, hbel'⟩
      case measure => simp only [intOf]; omega
    · have hke : k = len := by omega
      subst hke
      have hsh : ∃ g c', u12 = .slice (some ⟨g, 0, none⟩) k c' := by
        rcases hown.2 with ⟨_, h0⟩ | ⟨g, c', _, e, _⟩
        · omega
        · exact ⟨g, c', e⟩
      obtain ⟨g, c', hv⟩ := hsh
      have hL2 : Lies wr (some ⟨g, 0, none⟩) k (turned zs t k) := by
        rw [hv] at hown
        have := Lies.own hown k (Nat.le_refl _)
        rw [List.take_of_length_le (by rw [turned_length]; exact Nat.le_refl _)] at this
        exact this
      rw [hv]
      clear hown hv
      go_wp2_with fail
      refine (sum_lies _ k _ (turned zs t k) _ hL2 (by omega) (turned_fits zs t k hF)).mono ?_
      rintro e w6 ⟨rfl, rfl⟩
      rw [HS.out]
      go_wp2_with fail
      go_ret
      exact ⟨rfl, hbel⟩

theorem sums_walk (ao : Option Addr) (len cap : Nat) (zs : List Int) (turn : Int) (w : World) (h : Lies w ao len zs) (hn : ao = none → cap = 0) (hF : Fits zs) (t1 : -9223372036854775808 ≤ turn) (t2 : turn ≤ 9223372036854775807) :
    Calls Try.prog 4 #[.slice ao len cap, .int .i64 turn] w fun e w' => e = .returned (.bool true) ∧ Below w.heap.size w w' := by
  by_cases hbig : 268435455 < len
  · exact sums_big ao len cap turn w hbig
  · by_cases h0 : len = 0
    · subst h0
      have hz : zs = [] := List.eq_nil_of_length_eq_zero h.1
      subst hz
      exact sums_none ao cap turn w h hn t1 t2
    · obtain ⟨b, off, rfl, hlt, _⟩ := h.addr (by omega)
      by_cases ht : turn < 0
      · exact sums_neg b off len cap zs turn (-(turn + 1)) w h hlt (by omega) (by omega) hF t1 t2 (by omega) (by omega) ht rfl
      · exact sums_pos b off len cap zs turn w h hlt (by omega) (by omega) hF (by omega) (by omega)
end Go.Proofs.Ytfdnfdakejabaaa
