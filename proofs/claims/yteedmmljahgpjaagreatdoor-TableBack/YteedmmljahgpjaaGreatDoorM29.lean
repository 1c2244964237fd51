import Derived.Test.YteedmmljahgpjaaGreatDoorVo
import Derived.Test.YteedmmljahgpjaaGreatDoorUo
/-
  How much a table weighs.
-/
namespace Go.Proofs.YteedmmljahgpjaaGreatDoor
open Go.RowKit
set_option linter.unusedVariables false
set_option linter.unusedSimpArgs false
def StSm (s : StM) (n : Nat) : Prop := s.gs.length ≤ n ∧ ∀ g ∈ s.gs, g.rs.length ≤ n
/-- What is known once n has been counted, i states in. -/
def Wg (t : TbM) (i n : Nat) : Prop := t.x.size + t.rs.length + t.cs.length + t.ds.length + i ≤ n ∧ (n ≤ 1048576 → ∀ k (h : k < t.ts.length), k < i → StSm t.ts[k] n)
structure SmT (t : TbM) : Prop where
  X : t.x.size ≤ 131072
  R : t.rs.length ≤ 131072
  C : t.cs.length ≤ 131072
  D : t.ds.length ≤ 131072
  T : t.ts.length ≤ 131072
  S : ∀ s ∈ t.ts, StSm s 131072
theorem StSm.mono {s : StM} {n m : Nat} (h : StSm s n) (k : n ≤ m) : StSm s m := ⟨Nat.le_trans h.1 k, fun g hg => Nat.le_trans (h.2 g hg) k⟩
theorem Wg.sm {t : TbM} {n : Nat} (h : Wg t t.ts.length n) (k : n ≤ 131072) : SmT t := by
  have h1 := h.1
  refine ⟨by omega, by omega, by omega, by omega, by omega, fun s hs => ?_⟩
  obtain ⟨i, hi, rfl⟩ := List.getElem_of_mem hs
  exact (h.2 (by omega) i hi hi).mono k
set_option maxRecDepth 100000 in
set_option maxHeartbeats 4000000 in
theorem weigh_any (t : TbM) (w : World) (hl : TbL w t) (hz : TbZ t) : Calls Tryz.prog 24 #[.agg t.vals] w fun e w' => ∃ n : Nat, e = .returned (.int .i64 n) ∧ (n ≤ 131072 → SmT t) ∧ Below w.heap.size w w' := by
  have hb1 := below_new w (.cells t.vals 26)
  have hn1 := heap_new w (.cells t.vals 26)
  obtain ⟨W1, e1⟩ : ∃ W, w.alloc (.cells t.vals 26) = W := ⟨_, rfl⟩
  have E1 : Hid (w.alloc (.cells t.vals 26) = W1) := e1
  rw [e1] at hb1 hn1
  have HB1 : Hid (Below w.heap.size w W1) := hb1
  have HL : Hid (TbL W1 t) := hl.on hb1
  have HZ : Hid (TbZ t) := hz
  have c0 : W1.cell? ⟨w.heap.size, 0, none⟩ = some (.string t.x) := cell_of hn1 0
  have c1 : W1.cell? ⟨w.heap.size, 1, none⟩ = some (.slice t.ra t.rs.length t.rc) := cell_of hn1 1
  have c3 : W1.cell? ⟨w.heap.size, 3, none⟩ = some (.slice t.ca t.cs.length t.cc) := cell_of hn1 3
  have c4 : W1.cell? ⟨w.heap.size, 4, none⟩ = some (.slice t.da t.ds.length t.dc) := cell_of hn1 4
  have c5 : W1.cell? ⟨w.heap.size, 5, none⟩ = some (.slice t.ta t.ts.length t.tc) := cell_of hn1 5
  have hX : t.x.size ≤ 140737488355328 := hl.X
  have hR : t.rs.length ≤ 140737488355328 := hz.R
  have hC : t.cs.length ≤ 140737488355328 := hz.C
  have hD : t.ds.length ≤ 140737488355328 := hz.D
  have hT : t.ts.length ≤ 140737488355328 := hz.T
  have a1 : (t.x.size : Int) + (t.rs.length : Int) ≤ 9223372036854775807 := by omega
  have a2 : (t.x.size : Int) + (t.rs.length : Int) + (t.cs.length : Int) ≤ 9223372036854775807 := by omega
  have a3 : (t.x.size : Int) + (t.rs.length : Int) + (t.cs.length : Int) + (t.ds.length : Int) ≤ 9223372036854775807 := by omega
  have HU : Hid (t.x.size + t.rs.length + t.cs.length + t.ds.length ≤ 1125899906842624 ∧ t.ts.length ≤ 140737488355328) := ⟨by omega, hT⟩
  clear hb1 hn1 hl hz e1
  go_enter Tryz.func24, Tryz.ntmps24
  go_upto_region 1 with fail
  rw [E1.out]
  clear E1
  go_wp2_with fail
  clear a1 a2 a3 c0 c1 c3 c4 hX hR hC hD hT
  go_loopw [3, 4] (fun p q wr => ∃ (n i : Nat), i ≤ t.ts.length ∧ n ≤ 1125899906842624 ∧ p = .int .i64 n ∧ q = .int .i64 i ∧ wr = W1 ∧ Hid (Wg t i n)) (fun _ q _ => t.ts.length - (intOf q).toNat)
  case atStart => exact ⟨t.x.size + t.rs.length + t.cs.length + t.ds.length, 0, by omega, HU.out.1, by congr 1, rfl, rfl, ⟨by omega, fun _ k _ h => absurd h (Nat.not_lt_zero _)⟩⟩
  case round =>
    obtain ⟨n, i, hi, hn, rfl, rfl, rfl, HWG⟩ := hrel
    by_cases hlt : i < t.ts.length
    · have hlt' : (i : Int) < (t.ts.length : Int) := by omega
      by_cases hq : n ≤ 1048576
      · have hq' : (n : Int) ≤ 1048576 := by omega
        have hmx : (i : Int) + 1 ≤ 9223372036854775807 := by have := HU.out.2; omega
        have hmn : (n : Int) + 1 ≤ 9223372036854775807 := by omega
        obtain ⟨b1, o1, ea, r1⟩ := els_at StM.sz HL.out.T i hlt
        have HGX : Hid (StL wr t.ts[i]) := HL.out.Ti _ (List.getElem_mem hlt)
        have HGZ : Hid (StZ t.ts[i]) := HZ.out.S _ (List.getElem_mem hlt)
        have HWN : Hid (∀ m : Nat, n + 1 ≤ m → (m ≤ 1048576 → StSm t.ts[i] m) → Wg t (i + 1) m) := fun m h1 h2 => by
          refine ⟨by have := HWG.out.1; omega, fun h3 k hk hki => ?_⟩
          by_cases e : k < i
          · exact (HWG.out.2 hq k hk e).mono (by omega)
          · obtain rfl : k = i := by omega
            exact h2 h3
        obtain ⟨x, ex⟩ : ∃ x, t.ts[i] = x := ⟨_, rfl⟩
        rw [ex] at r1 HGX HGZ HWN
        clear ex HWG
        rw [ea] at c5
        clear ea
        have x0 : wr.cell? ⟨b1, o1 + i, none⟩ = some (.slice x.a x.gs.length x.c) := by have := r1 0 _ rfl; rw [Nat.mul_one, Nat.add_zero] at this; exact this
        clear r1
        go_wp2_with fail
        go_loopw [3, 5] (fun p q wv => ∃ (m j : Nat), j ≤ x.gs.length ∧ n + 1 ≤ m ∧ n + 1 + j ≤ m ∧ m ≤ 1125899906842624 ∧ p = .int .i64 m ∧ q = .int .i64 j ∧ wv = wr ∧ Hid (∀ k (h : k < x.gs.length), k < j → x.gs[k].rs.length ≤ m)) (fun _ q _ => x.gs.length - (intOf q).toNat)
        case atStart => exact ⟨n + 1, 0, by omega, by omega, by omega, by omega, by congr 1, rfl, rfl, fun k _ h => absurd h (Nat.not_lt_zero _)⟩
        case round =>
          obtain ⟨m, j, hj, hm1, hm2, hm3, rfl, rfl, rfl, HJ⟩ := hrel
          by_cases hjl : j < x.gs.length
          · have hjl' : (j : Int) < (x.gs.length : Int) := by omega
            by_cases hp : m ≤ 1048576
            · have hp' : (m : Int) ≤ 1048576 := by omega
              have hmy : (j : Int) + 1 ≤ 9223372036854775807 := by have h1 := HGX.out.1.1; have h2 := HGX.out.1.2.1; rw [List.length_map] at h1; omega
              obtain ⟨b3, o3, ea, r3⟩ := els_at GdM.sz HGX.out.1 j hjl
              have hgz : x.gs[j].rs.length ≤ 140737488355328 := HGZ.out.1 _ (List.getElem_mem hjl)
              have HJS : Hid (∀ m', m ≤ m' → x.gs[j].rs.length ≤ m' → ∀ k (h : k < x.gs.length), k < j + 1 → x.gs[k].rs.length ≤ m') := fun m' h1 h2 k hk hkj => by
                by_cases e : k < j
                · exact Nat.le_trans (HJ.out k hk e) h1
                · obtain rfl : k = j := by omega
                  exact h2
              obtain ⟨g, eg⟩ : ∃ g, x.gs[j] = g := ⟨_, rfl⟩
              rw [eg] at r3 HJS hgz
              rw [ea] at x0
              clear eg ea HJ
              have g4 : wr.cell? ⟨b3, o3 + j * 5 + 4, none⟩ = some (.slice g.a g.rs.length g.c) := r3 4 _ rfl
              clear r3
              have hm5 : (m : Int) + 1 ≤ 9223372036854775807 := by omega
              have hm6 : (m : Int) + 1 + (g.rs.length : Int) ≤ 9223372036854775807 := by omega
              go_wp2_with fail
              exact ⟨⟨m + 1 + g.rs.length, j + 1, hjl, by omega, by omega, by omega, by congr 1, rfl, by trivial, HJS.out _ (by omega) (by omega)⟩, by simp only [intOf]; omega⟩
            · have hp' : ¬ (m : Int) ≤ 1048576 := by omega
              go_wp2_with fail
              exact ⟨⟨m, i + 1, hlt, hm3, rfl, rfl, by trivial, HWN.out m hm1 (fun h => absurd h hp)⟩, by simp only [intOf]; omega⟩
          · obtain rfl : j = x.gs.length := by omega
            have hnot : ¬ (x.gs.length : Int) < (x.gs.length : Int) := by omega
            go_wp2_with fail
            exact ⟨⟨m, i + 1, hlt, hm3, rfl, rfl, by trivial, HWN.out m hm1 (fun h => ⟨by omega, fun g hg => by
              obtain ⟨k, hk, rfl⟩ := List.getElem_of_mem hg
              exact HJ.out k hk hk⟩)⟩, by simp only [intOf]; omega⟩
      · have hq' : ¬ (n : Int) ≤ 1048576 := by omega
        go_wp2_with fail
        go_ret
        exact ⟨n, rfl, fun h => absurd h (by omega), HB1.out⟩
    · obtain rfl : i = t.ts.length := by omega
      have hnot : ¬ (t.ts.length : Int) < (t.ts.length : Int) := by omega
      go_wp2_with fail
      go_ret
      exact ⟨n, rfl, fun h => HWG.out.sm h, HB1.out⟩
set_option maxRecDepth 100000 in
set_option maxHeartbeats 4000000 in
theorem far_any (t : TbM) (w : World) (hl : TbL w t) (hz : TbZ t) : Calls Tryz.prog 9 #[.agg t.vals] w fun e w' => ∃ b, e = .returned (.bool b) ∧ (b = false → SmT t) ∧ Below w.heap.size w w' := by
  have hb1 := below_new w (.cells t.vals 26)
  have hn1 := heap_new w (.cells t.vals 26)
  obtain ⟨W1, e1⟩ : ∃ W, w.alloc (.cells t.vals 26) = W := ⟨_, rfl⟩
  have E1 : Hid (w.alloc (.cells t.vals 26) = W1) := e1
  rw [e1] at hb1 hn1
  have HB1 : Hid (Below w.heap.size w W1) := hb1
  have HN1 : Hid (W1.heap[w.heap.size]? = some (.cells t.vals 26 (0, 0))) := hn1
  have cW := weigh_any t W1 (hl.on hb1) hz
  clear hb1 hn1 hl hz e1
  go_enter Tryz.func9, Tryz.ntmps9
  go_upto_region 1 with fail
  rw [E1.out]
  clear E1
  go_wp2_with (refine wpList_load_row rfl 26 (.tmp 1) rfl w.heap.size rfl 26 t.vals (0, 0) _ HN1.out Tryz.underlying26 rfl size26' ?_)
  refine cW.mono ?_
  rintro e w2 ⟨n, rfl, hn, hb2⟩
  have HB2 : Hid (Below w.heap.size w w2) := below2 HB1.out hb2
  have HNN : Hid (n ≤ 131072 → SmT t) := hn
  clear hn hb2 cW
  by_cases h : n ≤ 131072
  · have h' : ¬ (n : Int) > 131072 := by omega
    go_wp2_with fail
    go_ret
    exact ⟨false, by simp [h'], fun _ => HNN.out h, HB2.out⟩
  · have h' : (n : Int) > 131072 := by omega
    go_wp2_with fail
    go_ret
    exact ⟨true, by simp [h'], fun e => (by cases e), HB2.out⟩
end Go.Proofs.YteedmmljahgpjaaGreatDoor

/-
  The document's index and has.
-/
namespace Go.Proofs.YteedmmljahgpjaaGreatDoor
open Go.RowKit
set_option linter.unusedVariables false
set_option linter.unusedSimpArgs false
theorem two_box {w V : World} {a b : Array Value} {ta tb : TypeId} (e : (w.alloc (.cells a ta)).alloc (.cells b tb) = V) : V.heap[w.heap.size]? = some (.cells a ta (0, 0)) ∧ V.heap[w.heap.size + 1]? = some (.cells b tb (0, 0)) ∧ Below w.heap.size w V ∧ V.heap.size = w.heap.size + 2 := by
  subst e
  refine ⟨by rw [al_get, if_neg (by rw [size_alloc]; omega)]; exact heap_new _ _, by rw [← size_alloc w (.cells a ta)]; exact heap_new _ _, below2 (below_new _ _) (below_new _ _), by rw [size_alloc, size_alloc]⟩
def idxB (t : TbM) (r : RowM) : Bool := withinB (idxN t.sl t.rs.length t.ts.length r.k).1 r.i (idxN t.sl t.rs.length t.ts.length r.k).2
set_option maxRecDepth 100000 in
set_option maxHeartbeats 4000000 in
theorem rindex_any (t : TbM) (r : RowM) (w : World) : Calls Tryz.prog 131 #[.agg t.vals, .agg r.vals] w fun e w' => e = .returned (.bool (idxB t r)) ∧ Below w.heap.size w w' := by
  obtain ⟨W2, e2⟩ : ∃ W, (w.alloc (.cells t.vals 26)).alloc (.cells r.vals 85) = W := ⟨_, rfl⟩
  have E2 : Hid ((w.alloc (.cells t.vals 26)).alloc (.cells r.vals 85) = W2) := e2
  obtain ⟨hn1, hn2, hb2, hs2⟩ := two_box e2
  have HB2 : Hid (Below w.heap.size w W2) := hb2
  have HN1 : Hid (W2.heap[w.heap.size]? = some (.cells t.vals 26 (0, 0))) := hn1
  have HN2 : Hid (W2.heap[w.heap.size + 1]? = some (.cells r.vals 85 (0, 0))) := hn2
  clear e2
  have c1 : W2.cell? ⟨w.heap.size, 1, none⟩ = some (.slice t.ra t.rs.length t.rc) := cell_of hn1 1
  have c2 : W2.cell? ⟨w.heap.size, 2, none⟩ = some (.int .i64 t.sl) := cell_of hn1 2
  have c5 : W2.cell? ⟨w.heap.size, 5, none⟩ = some (.slice t.ta t.ts.length t.tc) := cell_of hn1 5
  have k0 : W2.cell? ⟨w.heap.size + 1, 0, none⟩ = some (.int .u8 r.k) := cell_of hn2 0
  have k2 : W2.cell? ⟨w.heap.size + 1, 2, none⟩ = some (.int .i64 r.i) := cell_of hn2 2
  clear hn1 hn2 hb2 hs2 HN1 HN2
  go_enter Tryz.func131, Tryz.ntmps131
  go_upto_region 1 with fail
  rw [E2.out]
  clear E2
  generalize w.heap.size + 1 = B1 at *
  cases h1 : (r.k == 1) with
  | true =>
    by_cases hA : r.i ≥ 0
    · by_cases hC : r.i ≤ t.sl
      · have hC' := hC
        go_wp2_with fail
        go_ret
        exact ⟨retB (by first | (simp [idxB, idxN, withinB, *]; done) | (simp [idxB, idxN, withinB, *] <;> omega)), HB2.out⟩
      · have hC' := hC
        go_wp2_with fail
        go_ret
        exact ⟨retB (by first | (simp [idxB, idxN, withinB, *]; done) | (simp [idxB, idxN, withinB, *] <;> omega)), HB2.out⟩
    · have hA' := hA
      go_wp2_with fail
      go_ret
      exact ⟨retB (by first | (simp [idxB, idxN, withinB, *]; done) | (simp [idxB, idxN, withinB, *] <;> omega)), HB2.out⟩
  | false =>
    cases h2 : (r.k == 2) with
    | true =>
      by_cases hA : r.i ≥ 1
      · by_cases hC : r.i ≤ t.sl
        · have hC' := hC
          go_wp2_with fail
          go_ret
          exact ⟨retB (by first | (simp [idxB, idxN, withinB, *]; done) | (simp [idxB, idxN, withinB, *] <;> omega)), HB2.out⟩
        · have hC' := hC
          go_wp2_with fail
          go_ret
          exact ⟨retB (by first | (simp [idxB, idxN, withinB, *]; done) | (simp [idxB, idxN, withinB, *] <;> omega)), HB2.out⟩
      · have hA' := hA
        go_wp2_with fail
        go_ret
        exact ⟨retB (by first | (simp [idxB, idxN, withinB, *]; done) | (simp [idxB, idxN, withinB, *] <;> omega)), HB2.out⟩
    | false =>
      cases h3 : (r.k == 3) with
      | true =>
        by_cases hA : r.i ≥ 1
        · by_cases hC : r.i ≤ t.sl
          · have hC' := hC
            go_wp2_with fail
            go_ret
            exact ⟨retB (by first | (simp [idxB, idxN, withinB, *]; done) | (simp [idxB, idxN, withinB, *] <;> omega)), HB2.out⟩
          · have hC' := hC
            go_wp2_with fail
            go_ret
            exact ⟨retB (by first | (simp [idxB, idxN, withinB, *]; done) | (simp [idxB, idxN, withinB, *] <;> omega)), HB2.out⟩
        · have hA' := hA
          go_wp2_with fail
          go_ret
          exact ⟨retB (by first | (simp [idxB, idxN, withinB, *]; done) | (simp [idxB, idxN, withinB, *] <;> omega)), HB2.out⟩
      | false =>
        cases h4 : (r.k == 4) with
        | true =>
          by_cases hA : r.i ≥ 0
          · by_cases hC : r.i < (t.rs.length : Int)
            · have hC' := hC
              go_wp2_with fail
              go_ret
              exact ⟨retB (by first | (simp [idxB, idxN, withinB, *]; done) | (simp [idxB, idxN, withinB, *] <;> omega)), HB2.out⟩
            · have hC' := hC
              go_wp2_with fail
              go_ret
              exact ⟨retB (by first | (simp [idxB, idxN, withinB, *]; done) | (simp [idxB, idxN, withinB, *] <;> omega)), HB2.out⟩
          · have hA' := hA
            go_wp2_with fail
            go_ret
            exact ⟨retB (by first | (simp [idxB, idxN, withinB, *]; done) | (simp [idxB, idxN, withinB, *] <;> omega)), HB2.out⟩
        | false =>
          cases h5 : (r.k == 5) with
          | true =>
            by_cases hA : r.i ≥ 0
            · by_cases hC : r.i < (t.ts.length : Int)
              · have hC' := hC
                go_wp2_with fail
                go_ret
                exact ⟨retB (by first | (simp [idxB, idxN, withinB, *]; done) | (simp [idxB, idxN, withinB, *] <;> omega)), HB2.out⟩
              · have hC' := hC
                go_wp2_with fail
                go_ret
                exact ⟨retB (by first | (simp [idxB, idxN, withinB, *]; done) | (simp [idxB, idxN, withinB, *] <;> omega)), HB2.out⟩
            · have hA' := hA
              go_wp2_with fail
              go_ret
              exact ⟨retB (by first | (simp [idxB, idxN, withinB, *]; done) | (simp [idxB, idxN, withinB, *] <;> omega)), HB2.out⟩
          | false =>
            cases h6 : (r.k == 6) with
            | true =>
              cases h7 : (r.i == 0) with
              | true =>
                go_wp2_with fail
                go_ret
                exact ⟨retB (by simp [idxB, idxN, withinB, *]; have : r.i = 0 := (by simpa using h7); omega), HB2.out⟩
              | false =>
                go_wp2_with fail
                go_ret
                exact ⟨retB (by simp [idxB, idxN, withinB, *]; have : ¬ r.i = 0 := (by simpa using h7); omega), HB2.out⟩
            | false =>
              go_wp2_with fail
              go_ret
              exact ⟨retB (by simp [idxB, idxN, withinB, *]; omega), HB2.out⟩
set_option maxRecDepth 100000 in
set_option maxHeartbeats 4000000 in
theorem rhas_any (r : RowM) (w : World) : Calls Tryz.prog 70 #[.agg r.vals] w fun e w' => ∃ B, e = .returned (.slice (some ⟨B, 0, none⟩) 4 4) ∧ w'.heap[B]? = some (.cells (partsN r.k r.o).vals 4 (0, 0)) ∧ w.heap.size ≤ B ∧ Below w.heap.size w w' := by
  have hb1 := below_new w (.cells r.vals 85)
  have hn1 := heap_new w (.cells r.vals 85)
  have hs1 := size_alloc w (.cells r.vals 85)
  obtain ⟨W1, e1⟩ : ∃ W, w.alloc (.cells r.vals 85) = W := ⟨_, rfl⟩
  have E1 : Hid (w.alloc (.cells r.vals 85) = W1) := e1
  rw [e1] at hb1 hn1 hs1
  have HB1 : Hid (Below w.heap.size w W1) := hb1
  have HS1 : Hid (w.heap.size ≤ W1.heap.size) := by show _ ≤ _; omega
  have k0 : W1.cell? ⟨w.heap.size, 0, none⟩ = some (.int .u8 r.k) := cell_of hn1 0
  have k1 : W1.cell? ⟨w.heap.size, 1, none⟩ = some (.int .u8 r.o) := cell_of hn1 1
  clear hn1 hb1 hs1 e1
  go_enter Tryz.func70, Tryz.ntmps70
  go_upto_region 1 with fail
  rw [E1.out]
  clear E1
  cases h1 : (r.k == 1) with
  | true =>
    have h2 : (r.k == 2) = false := by have : r.k = 1 := (by simpa using h1); rw [this]; rfl
    have h4 : (r.k == 4) = false := by have : r.k = 1 := (by simpa using h1); rw [this]; rfl
    cases h7 : (r.o != 2) with
    | true =>
      go_wp2_with fail
      go_ret
      exact ⟨W1.heap.size, rfl, (heap_new _ _).trans (by simp [partsN, P4.vals, *]), HS1.out, below2 HB1.out (below_new _ _)⟩
    | false =>
      go_wp2_with fail
      go_ret
      exact ⟨W1.heap.size, rfl, (heap_new _ _).trans (by simp [partsN, P4.vals, *]), HS1.out, below2 HB1.out (below_new _ _)⟩
  | false =>
    cases h2 : (r.k == 2) with
    | true =>
      have h4 : (r.k == 4) = false := by have : r.k = 2 := (by simpa using h2); rw [this]; rfl
      go_wp2_with fail
      go_ret
      exact ⟨W1.heap.size, rfl, (heap_new _ _).trans (by simp [partsN, P4.vals, *]), HS1.out, below2 HB1.out (below_new _ _)⟩
    | false =>
      cases h4 : (r.k == 4) with
      | true =>
        go_wp2_with fail
        go_ret
        exact ⟨W1.heap.size, rfl, (heap_new _ _).trans (by simp [partsN, P4.vals, *]), HS1.out, below2 HB1.out (below_new _ _)⟩
      | false =>
        go_wp2_with fail
        go_ret
        exact ⟨W1.heap.size, rfl, (heap_new _ _).trans (by simp [partsN, P4.vals, *]), HS1.out, below2 HB1.out (below_new _ _)⟩
end Go.Proofs.YteedmmljahgpjaaGreatDoor

/-
  The plain answers of the least table, and of the two that are spoilt.
-/
namespace Go.Proofs.YteedmmljahgpjaaGreatDoor
open Go.RowKit
set_option linter.unusedVariables false
set_option linter.unusedSimpArgs false
set_option maxRecDepth 100000
/-- Code[3].A = 6. -/
def lsW (B : Nat) : TbM := { lsT B with ds := [⟨3, 1⟩, ⟨6, 4⟩, ⟨1, 0⟩, ⟨5, 6⟩] }
/-- States[0][0].Fields = 0. -/
def lsK (B : Nat) : TbM := { lsT B with ts := [⟨some ⟨B + 5, 0, none⟩, 1, [{ lsG B with fd := 0 }]⟩] }
theorem ls_check (B : Nat) : checkE (lsT B) = 0 := by kernel_rfl
theorem lw_check (B : Nat) : checkE (lsW B) = 192 := by kernel_rfl
theorem lk_check (B : Nat) : checkE (lsK B) = 193 := by kernel_rfl
theorem ls_encE (B : Nat) : encE (lsT B) = 0 := by kernel_rfl
theorem ls_size (B : Nat) : (encS (lsT B)).size = 27 := by kernel_rfl
theorem ls_bound (B : Nat) : boundN (lsT B) = (4, 0) := by kernel_rfl
theorem ls_reads (B : Nat) : readsN (lsT B).ds ⟨0, 9⟩ = (2, 0) := by kernel_rfl
theorem ls_enc (B C : Nat) : encS (lsT B) = encS (lsT C) := by kernel_rfl
def lsP : TbP := ⟨⟨#[115]⟩, [], 0, [1], [⟨3, 1⟩, ⟨6, 4⟩, ⟨1, 0⟩, ⟨5, 2⟩], [[⟨⟨0, 4⟩, 2, 0, [lsR]⟩]]⟩
theorem ls_un (B : Nat) : unR (encS (lsT B)) = some lsP := by kernel_rfl
theorem is_ls {t : TbM} (h : Is lsP t) : checkE t = 0 ∧ ∀ C, SameT t (lsT C) := by
  obtain ⟨x, ra, rc, rs, sl, ca, cc, cs, da, dc, ds, ta, tc, ts⟩ := t
  obtain ⟨h1, h2, h3, h4, h5, h6⟩ := h
  simp only at h1 h2 h3 h4 h5 h6
  subst h1 h2 h3 h4 h5
  match ts, h6 with
  | [⟨a, c, [⟨wh, fd, rg, a1, c1, rs1⟩]⟩], h6 =>
    simp only [List.map_cons, List.map_nil, lsP, plG, List.cons.injEq, GdP.mk.injEq, and_true] at h6
    obtain ⟨rfl, rfl, rfl, rfl⟩ := h6
    refine ⟨by kernel_rfl, fun C => ⟨rfl, rfl, rfl, rfl, rfl, rfl, fun i h1 h2 h3 => ?_⟩⟩
    obtain rfl : i = 0 := by simp at h3; omega
    refine ⟨rfl, fun j h3 h4 => ?_⟩
    obtain rfl : j = 0 := by simp at h3; omega
    exact ⟨rfl, rfl, rfl, rfl, rfl⟩
  | [], h6 => simp [lsP] at h6
  | ⟨a, c, []⟩ :: l, h6 => simp [lsP] at h6
  | ⟨a, c, g1 :: g2 :: l2⟩ :: l, h6 => simp [lsP] at h6
  | s1 :: s2 :: l, h6 => simp [lsP] at h6
theorem decode_z {Z : ByteArray} (hz : Z.size = 27) (hu : unR Z = some lsP) (w : World) (htb : Tab w) : Calls Tryz.prog 18 #[.string Z] w fun e w' => ∃ t nb, e = .returned (.tuple #[.agg t.vals, .int .i64 0]) ∧ Bxs w w' t nb ∧ (∀ C, SameT t (lsT C)) ∧ Below w.heap.size w w' := by
  refine (decode_any Z w (by rw [hz]; decide) htb).mono ?_
  intro e w' h
  rw [hu] at h
  obtain ⟨t, nb, h1, h2, h3⟩ := h
  obtain ⟨k1, k2⟩ := is_ls h1
  rw [k1] at h2
  exact ⟨t, nb, h2.1, h2.2, k2, h3⟩
theorem decode_least (B : Nat) (w : World) (htb : Tab w) : Calls Tryz.prog 18 #[.string (encS (lsT B))] w fun e w' => ∃ t nb, e = .returned (.tuple #[.agg t.vals, .int .i64 0]) ∧ Bxs w w' t nb ∧ (∀ C, SameT t (lsT C)) ∧ Below w.heap.size w w' := decode_z (ls_size B) (ls_un B) w htb
end Go.Proofs.YteedmmljahgpjaaGreatDoor
