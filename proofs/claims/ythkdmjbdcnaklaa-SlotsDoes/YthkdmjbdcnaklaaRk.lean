/-
  The document's arena: the walk of Take.
-/
import Derived.Test.YthkdmjbdcnaklaaRj
namespace Go.Proofs.Ythkdmjbdcnaklaa
open Go.RowKit
set_option linter.unusedVariables false
set_option linter.unusedSimpArgs false

variable {w : World} {f : Rf} {nr room : Nat} {q : Nat → List Nat} {th : Nat → Int}

theorem rtake_no (h : RefAt w f nr room q th) {n : Int} (hn : Non nr q n) :
    Calls Try.prog 36 #[.pointer (some ⟨f.A, 0, none⟩), .int .i64 n] w fun e w' => e = .returned (.tuple #[.int .i64 0, .bool false]) ∧ w' = w := by
  go_enter Try.func36, Try.ntmps36
  go_wp2_with fail
  refine (where_no h hn).mono ?_
  rintro e w1 ⟨rfl, rfl⟩
  go_wp2_with fail
  go_ret2
  exact ⟨rfl, rfl⟩

set_option maxRecDepth 100000 in
set_option maxHeartbeats 2000000 in
theorem rtake (h : RefAt w f nr room q th) (hq : Qk nr room q) {i k n : Nat} (hi : i < nr) (hk : (q i)[k]? = some n) :
    Calls Try.prog 36 #[.pointer (some ⟨f.A, 0, none⟩), .int .i64 n] w fun e w' => e = .returned (.tuple #[.int .i64 (th n), .bool true]) ∧ ∃ f', RefAt w' f' nr room (upd q i ((q i).eraseIdx k)) th ∧ RStp w f w' f' nr := by
  have h0 := h.a0
  have hv := h.v hi
  have hkl := some_lt hk
  obtain ⟨ao, c, hV, hat⟩ := h.form hi
  obtain ⟨g, rfl⟩ := hat (by omega)
  rw [hV] at hv
  obtain ⟨_, t1⟩ := h.thing hi hkl hV
  rw [nth_toNat hk] at t1
  have hrow := h.row i hi
  rw [hV] at hrow
  have hlc : (q i).length ≤ c := by
    rcases hrow.2 with ⟨h0, _⟩ | ⟨g', cap', cur, hv', _, _, hle, _⟩
    · cases h0
    · cases hv'; exact hle
  have hlen := hq.len hi
  have hnr := hq.below i n hi (some_mem hk)
  have hb : (i : Int) < (nr : Int) := by omega
  have hb2 : (k : Int) < ((q i).length : Int) := by omega
  have hb3 : (n : Int) < (room : Int) := by omega
  have hc0 : ¬ c = 0 := by omega
  have hkc : (k : Int) ≤ (c : Int) := by omega
  obtain ⟨i0, hi0, hz0, hz1, hz2⟩ := info_parts Try.info79
  have hnews1 : ∀ j u, ((List.range (k * 2)).map (thF (q i) th))[j]? = some u → w.cell? ((⟨g, 0, none⟩ : Addr).add j) = some u := by
    intro j u hu
    have hj : j < k * 2 := by have := (List.getElem?_eq_some_iff.1 hu).1; simpa using this
    rw [List.getElem?_map, List.getElem?_range hj] at hu
    rw [Addr.add_lit, Nat.zero_add, hrow.cell (by omega)]
    exact hu
  have hone : ∀ (m : Nat) (F : Nat → Nat), ∀ u ∈ (List.range m).map (fun j => thF (q i) th (F j)), u.oneCell' = true := by
    intro m F u hu
    obtain ⟨j, _, rfl⟩ := List.mem_map.1 hu
    exact thF_one _ _ _
  have hmx : 0 + k ≤ maxLen := by simp only [maxLen]; omega
  have hlen1 : ((List.range (k * 2)).map (thF (q i) th)).length = k * 2 := by simp
  obtain ⟨m, hm⟩ : ∃ m, (q i).length - (k + 1) = m := ⟨_, rfl⟩
  obtain ⟨k1, hk1⟩ : ∃ k1 : Nat, k + 1 = k1 := ⟨_, rfl⟩
  have hk1I : (k : Int) + 1 = (k1 : Int) := by omega
  have hk1b : (k1 : Int) ≤ ((q i).length : Int) := by omega
  have hm1 : (q i).length - k1 = m := by omega
  have hwr : IntKind.i64.wrap (k1 : Int) = (k1 : Int) := by rw [IntKind.wrap_i64]; omega
  go_enter Try.func36, Try.ntmps36
  go_wp2_with fail
  refine (where_yes h hq hi hk).mono ?_
  rintro e w1 ⟨rfl, rfl⟩
  go_wp2_with (at_builtin; refine wpList_append_own_at _ rfl (.tmp 31) (.tmp 40) 73 rfl 0 79 i0 (.agg #[.int .i64 0, .int .i64 0]) 2 16 Try.underlying73 hi0 hz0 hz1 hz2 rfl (by decide) (.slice none 0 0) 0 [] rfl (World.ownsRow_nil _ _ _ _) ⟨g, 0, none⟩ k c ((List.range (k * 2)).map (thF (q i) th)) rfl hlen1 hnews1 (hone (k * 2) id) hmx (by omega) (Nat.zero_le _) ?_; intro v1 w2 hown1 hgr1 _ hat1)
  have m2 : Mv w1 w2 (fun _ => False) := ⟨hgr1.os, hgr1.tape, hgr1.output, hgr1.size, fun b hb _ => hgr1.block b hb (by simp [Value.ownBlock])⟩
  have hR2 : RefAt w2 f nr room q th := h.mv m2 (fun _ _ e => e)
  have e0 := hR2.a0
  have ev := hR2.v hi
  rw [hV] at ev
  have hrow2 := m2.row hrow (fun _ _ e => e)
  simp only [Nat.zero_add, List.nil_append] at hown1
  have hlen2 : ((List.range (m * 2)).map (fun j => thF (q i) th ((k + 1) * 2 + j))).length = m * 2 := by simp
  have hmx2 : k + m ≤ maxLen := by simp only [maxLen]; omega
  have hnews2 : ∀ j u, ((List.range (m * 2)).map (fun j => thF (q i) th ((k + 1) * 2 + j)))[j]? = some u → w2.drew.cell? ((⟨g, k1 * 2, none⟩ : Addr).add j) = some u := by
    intro j u hu
    have hj : j < m * 2 := by have := (List.getElem?_eq_some_iff.1 hu).1; simpa using this
    rw [List.getElem?_map, List.getElem?_range hj] at hu
    rw [Addr.add_lit, ← hk1]
    exact (hrow2.cell (by omega)).trans hu
  by_cases hmz : k1 < (q i).length
  · have hck : ¬ c = k1 := by omega
    go_region_law (refine step_append_at rfl (.tmp 47) (.tmp 57) 73 rfl 0 79 i0 (.agg #[.int .i64 0, .int .i64 0]) 2 16 Try.underlying73 hi0 hz0 hz1 hz2 rfl (by decide) v1 k ((List.range (k * 2)).map (thF (q i) th)) (by simp [Act.eval, Act.put]) hown1 ⟨g, k1 * 2, none⟩ m (c - k1) ((List.range (m * 2)).map (fun j => thF (q i) th ((k + 1) * 2 + j))) (by simp [Act.eval, Act.put, hm1]) hlen2 hnews2 (hone (m * 2) (fun j => (k + 1) * 2 + j)) hmx2 (by omega) (Nat.zero_le _) ?_; intro v2 w3 hown2 hgr2 hat2; obtain ⟨ao2, c2, rfl, q0, q1, q2, q3, q4, q5, q6, q7⟩ := rtake_after h hq hi hk hgr1 hat1 (by rw [hm]; exact hown2) hgr2 hat2; rw [hV] at q1)
    all_goals go_wp2_with fail
    all_goals go_ret2
    all_goals exact ⟨rfl, _, q6, q7⟩
  · have hm0 : m = 0 := by omega
    have hvac : ∀ (ad : Addr), ∀ j u, ((List.range (m * 2)).map (fun j => thF (q i) th ((k + 1) * 2 + j)))[j]? = some u → w2.drew.cell? (ad.add j) = some u := by
      intro ad j u hu
      rw [hm0] at hu
      simp at hu
    by_cases hck : c = k1
    · go_region_law (refine step_append_at rfl (.tmp 47) (.tmp 57) 73 rfl 0 79 i0 (.agg #[.int .i64 0, .int .i64 0]) 2 16 Try.underlying73 hi0 hz0 hz1 hz2 rfl (by decide) v1 k ((List.range (k * 2)).map (thF (q i) th)) (by simp [Act.eval, Act.put]) hown1 ⟨g, 0, none⟩ m 0 ((List.range (m * 2)).map (fun j => thF (q i) th ((k + 1) * 2 + j))) (by simp [Act.eval, Act.put, hm1, hm0]) hlen2 (hvac _) (hone (m * 2) (fun j => (k + 1) * 2 + j)) hmx2 (by omega) (Nat.zero_le _) ?_; intro v2 w3 hown2 hgr2 hat2; obtain ⟨ao2, c2, rfl, q0, q1, q2, q3, q4, q5, q6, q7⟩ := rtake_after h hq hi hk hgr1 hat1 (by rw [hm]; exact hown2) hgr2 hat2; rw [hV] at q1)
      all_goals go_wp2_with fail
      all_goals go_ret2
      all_goals exact ⟨rfl, _, q6, q7⟩
    · go_region_law (refine step_append_at rfl (.tmp 47) (.tmp 57) 73 rfl 0 79 i0 (.agg #[.int .i64 0, .int .i64 0]) 2 16 Try.underlying73 hi0 hz0 hz1 hz2 rfl (by decide) v1 k ((List.range (k * 2)).map (thF (q i) th)) (by simp [Act.eval, Act.put]) hown1 ⟨g, k1 * 2, none⟩ m (c - k1) ((List.range (m * 2)).map (fun j => thF (q i) th ((k + 1) * 2 + j))) (by simp [Act.eval, Act.put, hm1, hm0]) hlen2 (hvac _) (hone (m * 2) (fun j => (k + 1) * 2 + j)) hmx2 (by omega) (Nat.zero_le _) ?_; intro v2 w3 hown2 hgr2 hat2; obtain ⟨ao2, c2, rfl, q0, q1, q2, q3, q4, q5, q6, q7⟩ := rtake_after h hq hi hk hgr1 hat1 (by rw [hm]; exact hown2) hgr2 hat2; rw [hV] at q1)
      all_goals go_wp2_with fail
      all_goals go_ret2
      all_goals exact ⟨rfl, _, q6, q7⟩

end Go.Proofs.Ythkdmjbdcnaklaa
