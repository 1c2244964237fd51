import Derived.Test.YteedmmljahgpjabDoorM4
/-
  The program's table: what it asks of a row, of numbers.
-/
namespace Go.Proofs.YteedmmljahgpjabDoor
open Go.RowKit
set_option linter.unusedVariables false
set_option linter.unusedSimpArgs false
set_option maxRecDepth 100000 in
set_option maxHeartbeats 4000000 in
theorem within_any (l n m : Int) (w : World) : Calls Tryd.prog 52 #[.int .i64 l, .int .i64 n, .int .i64 m] w fun e w' => e = .returned (.bool (withinB l n m)) ∧ w' = w := by
  unfold withinB
  cases h1 : decide (l ≤ n) with
  | true =>
    go_enter Tryd.func52, Tryd.ntmps52
    go_wp2_with fail
    go_ret
    exact ⟨rfl, rfl⟩
  | false =>
    go_enter Tryd.func52, Tryd.ntmps52
    go_wp2_with fail
    go_ret
    exact ⟨rfl, rfl⟩
set_option maxRecDepth 100000 in
set_option maxHeartbeats 4000000 in
theorem ends_any (k : Int) (w : World) : Calls Tryd.prog 54 #[.int .u8 k] w fun e w' => e = .returned (.bool (endsB k)) ∧ w' = w := by
  unfold endsB
  cases h1 : (k == 5) with
  | true =>
    go_enter Tryd.func54, Tryd.ntmps54
    go_wp2_with fail
    go_ret
    exact ⟨rfl, rfl⟩
  | false =>
    go_enter Tryd.func54, Tryd.ntmps54
    go_wp2_with fail
    go_ret
    exact ⟨rfl, rfl⟩
set_option maxRecDepth 100000 in
set_option maxHeartbeats 4000000 in
theorem length_any (x : Sp) (h : I64 x.len) (w : World) : Calls Tryd.prog 36 #[.agg x.vals] w fun e w' => e = .returned (.int .i64 x.len) ∧ Below w.heap.size w w' := by
  have hb1 := below_new w (.cells x.vals 48)
  have hn1 := heap_new w (.cells x.vals 48)
  obtain ⟨W1, e1⟩ : ∃ W, w.alloc (.cells x.vals 48) = W := ⟨_, rfl⟩
  have E1 : Hid (w.alloc (.cells x.vals 48) = W1) := e1
  rw [e1] at hb1 hn1
  have HB1 : Hid (Below w.heap.size w W1) := hb1
  have c0 : W1.cell? ⟨w.heap.size, 0, none⟩ = some (.int .i64 x.f) := cell_of hn1 0
  have c1 : W1.cell? ⟨w.heap.size, 1, none⟩ = some (.int .i64 x.t) := cell_of hn1 1
  clear hb1 e1 hn1
  go_enter Tryd.func36, Tryd.ntmps36
  go_upto_region 1 with fail
  rw [E1.out]
  clear E1
  unfold I64 Sp.len at h
  obtain ⟨h1, h2⟩ := h
  go_wp2_with fail
  go_ret
  exact ⟨rfl, HB1.out⟩
set_option maxRecDepth 100000 in
set_option maxHeartbeats 4000000 in
theorem orderFits_any (r : RowM) (w : World) : Calls Tryd.prog 70 #[.agg r.vals] w fun e w' => e = .returned (.bool (orderB r)) ∧ Below w.heap.size w w' := by
  have hb1 := below_new w (.cells r.vals 72)
  have hn1 := heap_new w (.cells r.vals 72)
  obtain ⟨W1, e1⟩ : ∃ W, w.alloc (.cells r.vals 72) = W := ⟨_, rfl⟩
  have E1 : Hid (w.alloc (.cells r.vals 72) = W1) := e1
  rw [e1] at hb1 hn1
  have HB1 : Hid (Below w.heap.size w W1) := hb1
  have c0 : W1.cell? ⟨w.heap.size, 0, none⟩ = some (.int .u8 r.k) := cell_of hn1 0
  have c1 : W1.cell? ⟨w.heap.size, 1, none⟩ = some (.int .u8 r.o) := cell_of hn1 1
  clear hb1 e1 hn1
  unfold orderB
  cases h1 : (r.k == 1) with
  | true =>
    simp only [if_true]
    cases h2 : decide (1 ≤ r.o) with
    | true =>
      go_enter Tryd.func70, Tryd.ntmps70
      go_upto_region 1 with fail
      rw [E1.out]
      clear E1
      go_wp2_with fail
      go_ret
      exact ⟨rfl, HB1.out⟩
    | false =>
      go_enter Tryd.func70, Tryd.ntmps70
      go_upto_region 1 with fail
      rw [E1.out]
      clear E1
      go_wp2_with fail
      go_ret
      exact ⟨rfl, HB1.out⟩
  | false =>
    rw [if_neg (by simp)]
    go_enter Tryd.func70, Tryd.ntmps70
    go_upto_region 1 with fail
    rw [E1.out]
    clear E1
    go_wp2_with fail
    go_ret
    exact ⟨rfl, HB1.out⟩
set_option maxRecDepth 100000 in
set_option maxHeartbeats 4000000 in
theorem indexes_any (t : TbM) (k : Int) (w : World) (hl : TbL w t) : Calls Tryd.prog 69 #[.agg t.vals, .int .u8 k] w fun e w' => e = .returned (.tuple #[.int .i64 (idxN t.sl t.rs.length t.ts.length k).1, .int .i64 (idxN t.sl t.rs.length t.ts.length k).2]) ∧ Below w.heap.size w w' := by
  obtain ⟨hr1, hr2⟩ : t.rs.length ≤ t.rc ∧ t.rc ≤ 9223372036854775807 := by have := hl.R; exact ⟨by have := this.1; rw [List.length_map] at this; exact this, this.2.1⟩
  obtain ⟨ht1, ht2⟩ : t.ts.length ≤ t.tc ∧ t.tc ≤ 9223372036854775807 := by have := hl.T; exact ⟨by have := this.1; rw [List.length_map] at this; exact this, this.2.1⟩
  have hb1 := below_new w (.cells t.vals 26)
  have hn1 := heap_new w (.cells t.vals 26)
  obtain ⟨W1, e1⟩ : ∃ W, w.alloc (.cells t.vals 26) = W := ⟨_, rfl⟩
  have E1 : Hid (w.alloc (.cells t.vals 26) = W1) := e1
  rw [e1] at hb1 hn1
  have HB1 : Hid (Below w.heap.size w W1) := hb1
  have c1 : W1.cell? ⟨w.heap.size, 1, none⟩ = some (.slice t.ra t.rs.length t.rc) := cell_of hn1 1
  have c2 : W1.cell? ⟨w.heap.size, 2, none⟩ = some (.int .i64 t.sl) := cell_of hn1 2
  have c5 : W1.cell? ⟨w.heap.size, 5, none⟩ = some (.slice t.ta t.ts.length t.tc) := cell_of hn1 5
  clear hb1 e1 hn1
  unfold idxN
  cases h1 : (k == 1) with
  | true =>
    go_enter Tryd.func69, Tryd.ntmps69
    go_upto_region 1 with fail
    rw [E1.out]
    clear E1
    
    go_wp2_with fail
    go_quiet (fail)
    go_wp2_with fail
    go_ret2
    exact ⟨by simp [*], by first | exact HB1.out | exact below_d HB1.out _⟩
  | false =>
    cases h2 : (k == 2) with
    | true =>
      go_enter Tryd.func69, Tryd.ntmps69
      go_upto_region 1 with fail
      rw [E1.out]
      clear E1
      
      go_wp2_with fail
      go_quiet (fail)
      go_wp2_with fail
      go_ret2
      exact ⟨by simp [*], by first | exact HB1.out | exact below_d HB1.out _⟩
    | false =>
      cases h3 : (k == 3) with
      | true =>
        go_enter Tryd.func69, Tryd.ntmps69
        go_upto_region 1 with fail
        rw [E1.out]
        clear E1
        
        go_wp2_with fail
        go_quiet (fail)
        go_wp2_with fail
        go_ret2
        exact ⟨by simp [*], by first | exact HB1.out | exact below_d HB1.out _⟩
      | false =>
        cases h4 : (k == 4) with
        | true =>
          go_enter Tryd.func69, Tryd.ntmps69
          go_upto_region 1 with fail
          rw [E1.out]
          clear E1
          
          go_wp2_with fail
          go_quiet (fail)
          go_wp2_with fail
          go_ret2
          exact ⟨by simp [*], by first | exact HB1.out | exact below_d HB1.out _⟩
        | false =>
          cases h5 : (k == 5) with
          | true =>
            go_enter Tryd.func69, Tryd.ntmps69
            go_upto_region 1 with fail
            rw [E1.out]
            clear E1
            
            go_wp2_with fail
            go_quiet (fail)
            go_wp2_with fail
            go_ret2
            exact ⟨by simp [*], by first | exact HB1.out | exact below_d HB1.out _⟩
          | false =>
            cases h6 : (k == 6) with
            | true =>
              go_enter Tryd.func69, Tryd.ntmps69
              go_upto_region 1 with fail
              rw [E1.out]
              clear E1
              
              go_wp2_with fail
              go_ret2
              exact ⟨by simp [*], by first | exact HB1.out | exact below_d HB1.out _⟩
            | false =>
              go_enter Tryd.func69, Tryd.ntmps69
              go_upto_region 1 with fail
              rw [E1.out]
              clear E1
              
              go_wp2_with fail
              go_ret2
              exact ⟨by simp [*], by first | exact HB1.out | exact below_d HB1.out _⟩
theorem size216' : (Tryd.prog.info? 127).map (·.size) = some 4 := by kernel_rfl
theorem size219' : (Tryd.prog.info? 130).map (·.size) = some 8 := by kernel_rfl
theorem all4 (p : P4) : p.vals.all (·.oneCell') = true := by simp [P4.vals, Value.oneCell']
set_option maxRecDepth 100000 in
set_option maxHeartbeats 4000000 in
theorem partsOf_any (k o : Int) (w : World) : Calls Tryd.prog 56 #[.int .u8 k, .int .u8 o] w fun e w' => e = .returned (.agg (partsN k o).vals) ∧ Below w.heap.size w w' := by
  have hb1 := below_new w (.cells #[.bool false, .bool false, .bool false, .bool false] 127)
  have hn1 := heap_new w (.cells #[.bool false, .bool false, .bool false, .bool false] 127)
  obtain ⟨W1, e1⟩ : ∃ W, w.alloc (.cells #[.bool false, .bool false, .bool false, .bool false] 127) = W := ⟨_, rfl⟩
  have E1 : Hid (w.alloc (.cells #[.bool false, .bool false, .bool false, .bool false] 127) = W1) := e1
  rw [e1] at hb1 hn1
  have HB1 : Hid (Below w.heap.size w W1) := hb1
  have HN1 : Hid (W1.heap[w.heap.size]? = some (.cells #[.bool false, .bool false, .bool false, .bool false] 127 (0, 0))) := hn1
  clear hb1 e1 hn1
  unfold partsN
  cases h1 : (k == 1) with
  | true =>
    have HS : Hid ((W1.setRow w.heap.size (P4.vals ⟨true, true, o != 2, false⟩)).heap[w.heap.size]? = some (.cells (P4.vals ⟨true, true, o != 2, false⟩) 127 (0, 0))) := setRow_heap _ _ _ _ _ _ HN1.out
    have HBS : Hid (Below w.heap.size w (W1.setRow w.heap.size (P4.vals ⟨true, true, o != 2, false⟩))) := below_row HB1.out (Nat.le_refl _) _
    go_enter Tryd.func56, Tryd.ntmps56
    go_upto_region 1 with fail
    rw [E1.out]
    clear E1
    go_wp2_with (refine wpList_store_row rfl 127 (.tmp 4) (.tmp 10) rfl w.heap.size (P4.vals ⟨true, true, o != 2, false⟩) rfl rfl 127 #[.bool false, .bool false, .bool false, .bool false] HN1.out size216' rfl (all4 _) ?_)
    exact bodyPost_ret (results_cell_row rfl _ _ w.heap.size 127 (P4.vals ⟨true, true, o != 2, false⟩) (0, 0) _ rfl HS.out Tryd.underlying127 rfl size216') rfl ⟨by simp [*], HBS.out⟩
  | false =>
    cases h2 : (k == 2) with
    | true =>
      have HS : Hid ((W1.setRow w.heap.size (P4.vals ⟨false, true, true, false⟩)).heap[w.heap.size]? = some (.cells (P4.vals ⟨false, true, true, false⟩) 127 (0, 0))) := setRow_heap _ _ _ _ _ _ HN1.out
      have HBS : Hid (Below w.heap.size w (W1.setRow w.heap.size (P4.vals ⟨false, true, true, false⟩))) := below_row HB1.out (Nat.le_refl _) _
      go_enter Tryd.func56, Tryd.ntmps56
      go_upto_region 1 with fail
      rw [E1.out]
      clear E1
      go_wp2_with (refine wpList_store_row rfl 127 (.tmp 4) (.tmp 13) rfl w.heap.size (P4.vals ⟨false, true, true, false⟩) rfl rfl 127 #[.bool false, .bool false, .bool false, .bool false] HN1.out size216' rfl (all4 _) ?_)
      exact bodyPost_ret (results_cell_row rfl _ _ w.heap.size 127 (P4.vals ⟨false, true, true, false⟩) (0, 0) _ rfl HS.out Tryd.underlying127 rfl size216') rfl ⟨by simp [*], HBS.out⟩
    | false =>
      cases h4 : (k == 4) with
      | true =>
        have HS : Hid ((W1.setRow w.heap.size (P4.vals ⟨false, false, false, true⟩)).heap[w.heap.size]? = some (.cells (P4.vals ⟨false, false, false, true⟩) 127 (0, 0))) := setRow_heap _ _ _ _ _ _ HN1.out
        have HBS : Hid (Below w.heap.size w (W1.setRow w.heap.size (P4.vals ⟨false, false, false, true⟩))) := below_row HB1.out (Nat.le_refl _) _
        go_enter Tryd.func56, Tryd.ntmps56
        go_upto_region 1 with fail
        rw [E1.out]
        clear E1
        go_wp2_with (refine wpList_store_row rfl 127 (.tmp 4) (.tmp 16) rfl w.heap.size (P4.vals ⟨false, false, false, true⟩) rfl rfl 127 #[.bool false, .bool false, .bool false, .bool false] HN1.out size216' rfl (all4 _) ?_)
        exact bodyPost_ret (results_cell_row rfl _ _ w.heap.size 127 (P4.vals ⟨false, false, false, true⟩) (0, 0) _ rfl HS.out Tryd.underlying127 rfl size216') rfl ⟨by simp [*], HBS.out⟩
      | false =>
        have HS : Hid ((W1.setRow w.heap.size (P4.vals ⟨false, false, false, false⟩)).heap[w.heap.size]? = some (.cells (P4.vals ⟨false, false, false, false⟩) 127 (0, 0))) := setRow_heap _ _ _ _ _ _ HN1.out
        have HBS : Hid (Below w.heap.size w (W1.setRow w.heap.size (P4.vals ⟨false, false, false, false⟩))) := below_row HB1.out (Nat.le_refl _) _
        go_enter Tryd.func56, Tryd.ntmps56
        go_upto_region 1 with fail
        rw [E1.out]
        clear E1
        go_wp2_with (refine wpList_store_row rfl 127 (.tmp 4) (.tmp 17) rfl w.heap.size (P4.vals ⟨false, false, false, false⟩) rfl rfl 127 #[.bool false, .bool false, .bool false, .bool false] HN1.out size216' rfl (all4 _) ?_)
        exact bodyPost_ret (results_cell_row rfl _ _ w.heap.size 127 (P4.vals ⟨false, false, false, false⟩) (0, 0) _ rfl HS.out Tryd.underlying127 rfl size216') rfl ⟨by simp [*], HBS.out⟩
theorem all8 (r : RowM) : (spV r).all (·.oneCell') = true := by simp [spV, Value.oneCell']
set_option maxRecDepth 100000 in
set_option maxHeartbeats 4000000 in
theorem spansOf_any (r : RowM) (w : World) : Calls Tryd.prog 57 #[.agg r.vals] w fun e w' => e = .returned (.agg (spV r)) ∧ Below w.heap.size w w' := by
  have hb1 := below_new w (.cells r.vals 72)
  have hn1 := heap_new w (.cells r.vals 72)
  obtain ⟨W1, e1⟩ : ∃ W, w.alloc (.cells r.vals 72) = W := ⟨_, rfl⟩
  have E1 : Hid (w.alloc (.cells r.vals 72) = W1) := e1
  rw [e1] at hb1 hn1
  have HB1 : Hid (Below w.heap.size w W1) := hb1
  have c3 : W1.cell? ⟨w.heap.size, 3, none⟩ = some (.int .i64 r.sd.f) := cell_of hn1 3
  have c4 : W1.cell? ⟨w.heap.size, 4, none⟩ = some (.int .i64 r.sd.t) := cell_of hn1 4
  have c5 : W1.cell? ⟨w.heap.size, 5, none⟩ = some (.int .i64 r.qt.f) := cell_of hn1 5
  have c6 : W1.cell? ⟨w.heap.size, 6, none⟩ = some (.int .i64 r.qt.t) := cell_of hn1 6
  have c7 : W1.cell? ⟨w.heap.size, 7, none⟩ = some (.int .i64 r.pr.f) := cell_of hn1 7
  have c8 : W1.cell? ⟨w.heap.size, 8, none⟩ = some (.int .i64 r.pr.t) := cell_of hn1 8
  have c9 : W1.cell? ⟨w.heap.size, 9, none⟩ = some (.int .i64 r.vl.f) := cell_of hn1 9
  have c10 : W1.cell? ⟨w.heap.size, 10, none⟩ = some (.int .i64 r.vl.t) := cell_of hn1 10
  have hsz : W1.heap.size = w.heap.size + 1 := by rw [← e1]; exact size_alloc _ _
  have hb2 := below_new W1 (.cells #[.int .i64 0, .int .i64 0, .int .i64 0, .int .i64 0, .int .i64 0, .int .i64 0, .int .i64 0, .int .i64 0] 130)
  have hn2 := heap_new W1 (.cells #[.int .i64 0, .int .i64 0, .int .i64 0, .int .i64 0, .int .i64 0, .int .i64 0, .int .i64 0, .int .i64 0] 130)
  have hk : (W1.alloc (.cells #[.int .i64 0, .int .i64 0, .int .i64 0, .int .i64 0, .int .i64 0, .int .i64 0, .int .i64 0, .int .i64 0] 130)).heap[w.heap.size]? = W1.heap[w.heap.size]? := hb2.block _ (by omega)
  obtain ⟨W2, e2⟩ : ∃ W, W1.alloc (.cells #[.int .i64 0, .int .i64 0, .int .i64 0, .int .i64 0, .int .i64 0, .int .i64 0, .int .i64 0, .int .i64 0] 130) = W := ⟨_, rfl⟩
  have E2 : Hid (W1.alloc (.cells #[.int .i64 0, .int .i64 0, .int .i64 0, .int .i64 0, .int .i64 0, .int .i64 0, .int .i64 0, .int .i64 0] 130) = W2) := e2
  rw [e2] at hb2 hn2 hk
  have d3 := (World.cell?_of_block (a := ⟨w.heap.size, 3, none⟩) hk).trans c3
  have d4 := (World.cell?_of_block (a := ⟨w.heap.size, 4, none⟩) hk).trans c4
  have d5 := (World.cell?_of_block (a := ⟨w.heap.size, 5, none⟩) hk).trans c5
  have d6 := (World.cell?_of_block (a := ⟨w.heap.size, 6, none⟩) hk).trans c6
  have d7 := (World.cell?_of_block (a := ⟨w.heap.size, 7, none⟩) hk).trans c7
  have d8 := (World.cell?_of_block (a := ⟨w.heap.size, 8, none⟩) hk).trans c8
  have d9 := (World.cell?_of_block (a := ⟨w.heap.size, 9, none⟩) hk).trans c9
  have d10 := (World.cell?_of_block (a := ⟨w.heap.size, 10, none⟩) hk).trans c10
  obtain ⟨G, eG⟩ : ∃ G, w.heap.size + 1 = G := ⟨_, rfl⟩
  rw [hsz, eG] at hn2
  have HN2 : Hid (W2.heap[G]? = some (.cells #[.int .i64 0, .int .i64 0, .int .i64 0, .int .i64 0, .int .i64 0, .int .i64 0, .int .i64 0, .int .i64 0] 130 (0, 0))) := hn2
  have HS : Hid ((W2.setRow G (spV r)).heap[G]? = some (.cells (spV r) 130 (0, 0))) := setRow_heap _ _ _ _ _ _ HN2.out
  have HBS : Hid (Below w.heap.size w (W2.setRow G (spV r))) := below_row (below2 HB1.out hb2) (by omega) _
  have HG : Hid (w.heap.size + 1 = G) := eG
  clear hb1 hn1 e1 hb2 hn2 hk e2 hsz c3 c4 c5 c6 c7 c8 c9 c10 eG
  go_enter Tryd.func57, Tryd.ntmps57
  go_upto_region 1 with fail
  rw [E1.out, E2.out, HG.out]
  clear E1 E2 HG
  go_wp2_with (refine wpList_store_row rfl 130 (.tmp 2) (.tmp 11) rfl G (spV r) rfl rfl 130 #[.int .i64 0, .int .i64 0, .int .i64 0, .int .i64 0, .int .i64 0, .int .i64 0, .int .i64 0, .int .i64 0] HN2.out size219' rfl (all8 _) ?_)
  exact bodyPost_ret (results_cell_row rfl _ _ G 130 (spV r) (0, 0) _ rfl HS.out Tryd.underlying130 rfl size219') rfl ⟨rfl, HBS.out⟩
end Go.Proofs.YteedmmljahgpjabDoor

/-
  Lists of a call's own, with blocks beside them of which nothing changes; a row's spans.
-/
namespace Go.Proofs.YteedmmljahgpjabDoor
open Go.RowKit
set_option linter.unusedVariables false
set_option linter.unusedSimpArgs false
theorem fold_size (n : Nat) : ∀ (l : List Value) (k : Nat) (a : Array Value), ((l.zipIdx k).foldl (fun cs (q : Value × Nat) => cs.setIfInBounds (0 * n + q.2) q.1) a).size = a.size
  | [], k, a => rfl
  | c :: l, k, a => by
    simp only [List.zipIdx_cons, List.foldl_cons]
    rw [fold_size n l (k + 1)]
    simp
theorem fold_get (n : Nat) : ∀ (l : List Value) (k : Nat) (a : Array Value) (i : Nat), i < a.size → ((l.zipIdx k).foldl (fun cs (q : Value × Nat) => cs.setIfInBounds (0 * n + q.2) q.1) a)[i]? = if k ≤ i ∧ i < k + l.length then l[i - k]? else a[i]?
  | [], k, a, i, hi => by
    rw [if_neg (by simp)]
    rfl
  | c :: l, k, a, i, hi => by
    simp only [List.zipIdx_cons, List.foldl_cons]
    rw [fold_get n l (k + 1) _ i (by simpa using hi)]
    simp only [List.length_cons, Nat.zero_mul, Nat.zero_add]
    by_cases h1 : k + 1 ≤ i ∧ i < k + 1 + l.length
    · rw [if_pos h1, if_pos (by omega), show i - k = (i - (k + 1)) + 1 by omega]
      rfl
    · rw [if_neg h1, Array.getElem?_setIfInBounds]
      by_cases h2 : k = i
      · subst h2
        rw [if_pos rfl, if_pos hi, if_pos (by omega), Nat.sub_self]
        rfl
      · rw [if_neg h2, if_neg (by omega)]
theorem fold_all (n : Nat) (cs a : Array Value) (h : a.size = cs.size) : cs.zipIdx.foldl (fun (x : Array Value) (q : Value × Nat) => x.setIfInBounds (0 * n + q.2) q.1) a = cs := by
  obtain ⟨l⟩ := cs
  simp only [List.size_toArray] at h
  have e : (Array.mk l).zipIdx.foldl (fun (x : Array Value) (q : Value × Nat) => x.setIfInBounds (0 * n + q.2) q.1) a = (l.zipIdx 0).foldl (fun (x : Array Value) (q : Value × Nat) => x.setIfInBounds (0 * n + q.2) q.1) a := by
    rw [← Array.foldl_toList]
    simp
  rw [e]
  apply Array.ext_getElem?
  intro i
  by_cases hi : i < a.size
  · rw [fold_get n l 0 a i hi, if_pos (by omega)]
    simp
  · rw [Array.getElem?_eq_none (by rw [fold_size]; omega), Array.getElem?_eq_none (by simp; omega)]
/-- A slice of one thing is built. -/
theorem wpList_slice1 {w : World} {ops : Array Oper} {rest : List Oper} {o : Oper} {a : Act} {Q : Exit → Act → World → Prop} (hgd : o.guard = none) (t e : TypeId) (x : Operand) (ho : o.op = .buildSlice t 1 #[(0, x)])
    (cs : Array Value) (hx : a.eval x = .agg cs) (n : Nat) (z : Value) (ht : Tryd.prog.underlying t = some (.slice e)) (by_ : Nat) (hi : (Tryd.prog.info? e).map (fun i => (i.zero, i.size, i.bytes)) = some (some z, n, by_)) (hz : z.cells.size = n) (hn : cs.size = n) (h0 : 0 < n) (h1 : n ≤ 1000)
    (h : wpList Tryd.prog ops Q rest (a.put o.dst (.slice (some ⟨w.heap.size, 0, none⟩) 1 1)) (w.alloc (.cells cs e))) : wpList Tryd.prog ops Q (o :: rest) a w := by
  refine wpList_plain hgd fun Kk hK => ?_
  obtain ⟨i0, hi0, hz0, hz1, hz2⟩ := info_parts hi
  have hu := run_underlying ht w
  have hf : Instr.fill (fun i => some (i * n, n)) ((Array.range (1 * n)).map (z.cells[· % z.cells.size]!)) [(0, .agg cs)] = some cs := by
    obtain ⟨A, hA⟩ : ∃ A, (Array.range (1 * n)).map (z.cells[· % z.cells.size]!) = A := ⟨_, rfl⟩
    have hAs : A.size = n := by rw [← hA]; simp
    rw [hA]
    have e3 : Instr.fill (fun i => some (i * n, n)) A [(0, .agg cs)] = if (decide (cs.size ≠ n) || decide (0 * n + cs.size > A.size)) = true then none else some (cs.zipIdx.foldl (fun (x : Array Value) (q : Value × Nat) => x.setIfInBounds (0 * n + q.2) q.1) A) := rfl
    rw [e3, if_neg (by simp; omega)]
    exact congrArg some (fold_all n cs _ (by omega))
  have hr : (Instr.buildSlice t 1 #[(0, .agg cs)]).run Tryd.prog w = .ok (.slice (some ⟨w.heap.size, 0, none⟩) 1 1) (w.alloc (.cells cs e)) := by
    have e1 : ¬ n > 16777216 := by omega
    have e2 : ¬ n = 0 := by omega
    rw [show (1 * n) = n from Nat.one_mul n] at hf
    simp [Instr.buildSlice, Sem.run_bind, hu, sizeOf, zeroValue, typeInfo, hi0, hz0, hz1, e1, e2, hf, newRow, newObj]
    rfl
  unfold Oper.wp execOp
  simp only [ho, List.map_toArray, List.map_cons, List.map_nil, hx, Sem.run_bind, hr, Result.andThen_ok]
  exact hK _ _ h
theorem owns_blk' {V V' : World} {B : Nat} {e sz : Nat} {v : Value} {n : Nat} {xs : List Value} (h : V.ownsRow B e sz v n xs) (k : ∀ g, v.ownBlock = some g → V'.heap[g]? = V.heap[g]?) : V'.ownsRow B e sz v n xs := by
  obtain ⟨h1, h2⟩ := h
  refine ⟨h1, ?_⟩
  rcases h2 with h2 | ⟨g, cap, cur, hv, q1, q2, q3⟩
  · exact .inl h2
  · exact .inr ⟨g, cap, cur, hv, q1, (k g (by rw [hv]; rfl)).trans q2, q3⟩
theorem wpList_index {w : World} {ops : Array Oper} {rest : List Oper} {o : Oper} {a : Act} {Q : Exit → Act → World → Prop} (hgd : o.guard = none) (t : TypeId) (x y : Operand) (ho : o.op = .index t x y) (v u r : Value) (hx : a.eval x = v) (hy : a.eval y = u) (hr : ∀ w, Sem.run Tryd.prog (Instr.index t v u) w = .ok r w)
    (h : wpList Tryd.prog ops Q rest (a.put o.dst r) w) : wpList Tryd.prog ops Q (o :: rest) a w := by
  refine wpList_plain hgd fun Kk hK => ?_
  unfold Oper.wp execOp
  simp only [ho, hx, hy, Sem.run_bind, hr, Result.andThen_ok]
  exact hK _ _ h
/-- A list of the call's own, and boxes beside it. -/
structure OwnK (w V : World) (bs : List (Nat × Nat × Array Value)) (e sz : Nat) (v : Value) (vs : List (Array Value)) : Prop where
  R : V.ownsRow w.heap.size e sz v vs.length (vs.map Array.toList).flatten
  Z : ∀ x ∈ vs, x.size = sz
  B : Below w.heap.size w V
  K : ∀ p ∈ bs, V.heap[p.1]? = some (.cells p.2.2 p.2.1 (0, 0)) ∧ w.heap.size ≤ p.1 ∧ v.ownBlock ≠ some p.1
theorem OwnK.lt {w V : World} {bs : List (Nat × Nat × Array Value)} {e sz : Nat} {v : Value} {vs : List (Array Value)} (h : OwnK w V bs e sz v vs) : ∀ g, v.ownBlock = some g → w.heap.size ≤ g ∧ g < V.heap.size := fun g hg => World.ownsRow.lt h.R g hg
theorem OwnK.on {w V V' : World} {bs : List (Nat × Nat × Array Value)} {e sz : Nat} {v : Value} {vs : List (Array Value)} (h : OwnK w V bs e sz v vs) (k : Below V.heap.size V V') : OwnK w V' bs e sz v vs :=
  ⟨owns_blk' h.R fun g hg => k.block g (h.lt g hg).2, h.Z, below2 h.B k, fun p hp => by
    obtain ⟨h1, h2, h3⟩ := h.K p hp
    exact ⟨(k.block _ (Array.getElem?_eq_some_iff.1 h1).1).trans h1, h2, h3⟩⟩
theorem OwnK.drew {w V : World} {bs : List (Nat × Nat × Array Value)} {e sz : Nat} {v : Value} {vs : List (Array Value)} (h : OwnK w V bs e sz v vs) (n : Nat) : OwnK w (V.drewN n) bs e sz v vs := h.on ⟨rfl, rfl, rfl, Nat.le_refl _, fun _ _ => rfl⟩
theorem OwnK.nil {w V : World} (h : Below w.heap.size w V) (e sz : Nat) : OwnK w V [] e sz (.slice none 0 0) [] := ⟨⟨by simp, .inl ⟨rfl, rfl⟩⟩, by simp, h, by simp⟩
theorem OwnK.add {w V : World} {bs : List (Nat × Nat × Array Value)} {e sz : Nat} {v : Value} {vs : List (Array Value)} (h : OwnK w V bs e sz v vs) (b t : Nat) (cs : Array Value) (h1 : V.heap[b]? = some (.cells cs t (0, 0))) (h2 : w.heap.size ≤ b) (h3 : v.ownBlock ≠ some b) : OwnK w V ((b, t, cs) :: bs) e sz v vs :=
  ⟨h.R, h.Z, h.B, fun p hp => by
    rcases List.mem_cons.1 hp with rfl | hp
    · exact ⟨h1, h2, h3⟩
    · exact h.K p hp⟩
theorem OwnK.less {w V : World} {bs : List (Nat × Nat × Array Value)} {q : Nat × Nat × Array Value} {e sz : Nat} {v : Value} {vs : List (Array Value)} (h : OwnK w V (q :: bs) e sz v vs) : OwnK w V bs e sz v vs := ⟨h.R, h.Z, h.B, fun p hp => h.K p (List.mem_cons_of_mem _ hp)⟩
theorem OwnK.box {w V : World} {bs : List (Nat × Nat × Array Value)} {q : Nat × Nat × Array Value} {e sz : Nat} {v : Value} {vs : List (Array Value)} (h : OwnK w V (q :: bs) e sz v vs) : V.heap[q.1]? = some (.cells q.2.2 q.2.1 (0, 0)) := (h.K q (List.mem_cons_self ..)).1
theorem flat_at {sz : Nat} : ∀ (vs : List (Array Value)), (∀ x ∈ vs, x.size = sz) → ∀ i (hi : i < vs.length) j, j < sz → (vs.map Array.toList).flatten[i * sz + j]? = vs[i][j]?
  | [], _, i, hi, _, _ => by simp at hi
  | x :: vs, hz, i, hi, j, hj => by
    have hx := hz x (List.mem_cons_self ..)
    simp only [List.map_cons, List.flatten_cons]
    cases i with
    | zero => rw [List.getElem?_append_left (by simp; omega)]; simp
    | succ i =>
      rw [List.getElem?_append_right (by simp [hx]; rw [Nat.add_mul]; omega)]
      have := flat_at vs (fun y hy => hz y (List.mem_cons_of_mem _ hy)) i (by simpa using hi) j hj
      have e : (i + 1) * sz + j - x.toList.length = i * sz + j := by simp [hx]; rw [Nat.add_mul]; omega
      rw [e, this]
      simp
theorem flat_len {sz : Nat} : ∀ (us : List (Array Value)), (∀ x ∈ us, x.size = sz) → (us.map Array.toList).flatten.length = us.length * sz
  | [], _ => by simp
  | y :: us, h => by
    simp only [List.map_cons, List.flatten_cons, List.length_append, List.length_cons]
    rw [flat_len us (fun x hx => h x (List.mem_cons_of_mem _ hx))]
    have := h y (List.mem_cons_self ..)
    simp [this, Nat.add_mul]; omega
theorem OwnK.sl {w V : World} {bs : List (Nat × Nat × Array Value)} {e sz : Nat} {v : Value} {vs : List (Array Value)} (h : OwnK w V bs e sz v vs) : ∃ a c, v = .slice a vs.length c ∧ SlAt V sz a c vs := by
  rcases h.R.2 with ⟨h1, h2⟩ | ⟨g, cap, cur, h1, h2, h3, h4, h5, h6, h7⟩
  · refine ⟨none, 0, by rw [h1, h2], by omega, by omega, fun i hi => by omega⟩
  · refine ⟨_, cap, h1, h4, by unfold maxLen at h5; omega, fun i hi => ⟨g, 0, rfl, fun j hj => ?_⟩⟩
    rw [cell_of h3, Nat.zero_add]
    have hlt : i * sz + j < vs.length * sz := by
      have := Nat.mul_le_mul_right sz hi
      rw [Nat.succ_mul] at this
      omega
    have h8 : (cur.toList.take (vs.length * sz))[i * sz + j]? = cur[i * sz + j]? := by rw [List.getElem?_take_of_lt hlt]; simp
    rw [← h8, h7, flat_at vs h.Z i hi j hj]
/-- One thing more, which lies in a block made just now. -/
theorem app_one {w V : World} {bs : List (Nat × Nat × Array Value)} {e sz : Nat} {v : Value} {vs : List (Array Value)} (hL : OwnK w V bs e sz v vs) (t : TypeId) (cs : Array Value) (hcs : cs.size = sz) (h1 : cs.all (·.oneCell') = true)
    (z : Value) (by_ : Nat) (ht : Tryd.prog.underlying t = some (.slice e)) (hi : (Tryd.prog.info? e).map (fun i => (i.zero, i.size, i.bytes)) = some (some z, sz, by_)) (hz : z.cells.size = sz) (h0 : 0 < sz) (hn : vs.length ≤ 1000000) (hby : by_ ≤ 1000)
    {ops : Array Oper} {rest : List Oper} {o : Oper} {a : Act} {Q : Exit → Act → World → Prop} (hgd : o.guard = none) (d x : Operand)
    (ho : o.op = .call { callee := .builtin .append, args := #[d, x], argTypes := #[t, t] }) (hs : a.eval d = v) (hx : a.eval x = .slice (some ⟨V.heap.size, 0, none⟩) 1 1)
    (h : ∀ g cap w', OwnK w w' bs e sz (.slice (some ⟨g, 0, none⟩) (vs.length + 1) cap) (vs ++ [cs]) → wpList Tryd.prog ops Q rest (a.put o.dst (.slice (some ⟨g, 0, none⟩) (vs.length + 1) cap)) w') :
    wpList Tryd.prog ops Q (o :: rest) a (V.alloc (.cells cs e)) := by
  obtain ⟨i0, hi0, hz0, hz1, hz2⟩ := info_parts hi
  have hsz := size_alloc V (.cells cs e)
  have hA : OwnK w (V.alloc (.cells cs e)) bs e sz v vs := hL.on (below_new _ _)
  have hwV := hL.B.size
  have hby2 : (vs.length + 1) * by_ ≤ 140737488355328 := by
    have : (vs.length + 1) * by_ ≤ 1000001 * 1000 := Nat.mul_le_mul (by omega) hby
    omega
  refine wpList_append_lies _ hgd d x t ho w.heap.size e i0 z sz by_ ht hi0 hz0 hz1 hz2 hz h0 v vs.length _ hs hA.R ⟨V.heap.size, 0, none⟩ 1 1 cs.toList hx (by simp; exact hcs) (World.news_of_block (heap_new V _)) (fun u hu => (Array.all_eq_true_iff_forall_mem.1 h1) u (by simpa using hu)) (by decide) (by unfold maxLen; omega) hby2 (by omega) _ rfl ?_
  intro g cap w' h2 h3 h4 h5
  refine h g cap w' ⟨?_, ?_, ?_, ?_⟩
  · rw [List.length_append, List.length_singleton, List.map_append, List.flatten_append]
    simpa using h2
  · intro y hy
    rcases List.mem_append.1 hy with hy | hy
    · exact hL.Z y hy
    · rw [List.mem_singleton.1 hy]; exact hcs
  · exact hA.B.grown h3 (by omega) fun k hk => (hA.lt k hk).1
  · intro p hp
    obtain ⟨q1, q2, q3⟩ := hA.K p hp
    have hl := (Array.getElem?_eq_some_iff.1 q1).1
    refine ⟨(h3.block _ hl (fun e => q3 e.symm)).trans q1, q2, fun e => ?_⟩
    have hg : g = p.1 := by simpa [Value.ownBlock] using e
    rcases h4 with h4 | h4
    · exact q3 (by rw [h4, hg])
    · omega
/-- Many things more, which lie anywhere. -/
theorem app_many {w V : World} {bs : List (Nat × Nat × Array Value)} {e sz : Nat} {v : Value} {vs : List (Array Value)} (hL : OwnK w V bs e sz v vs) (t : TypeId) (us : List (Array Value)) (hus : ∀ x ∈ us, x.size = sz ∧ x.all (·.oneCell') = true) (ua : Option Addr) (uc : Nat) (hU : SlAt V sz ua uc us) (hnil : us = [] → ua = none ∧ uc = 0)
    (z : Value) (by_ : Nat) (ht : Tryd.prog.underlying t = some (.slice e)) (hi : (Tryd.prog.info? e).map (fun i => (i.zero, i.size, i.bytes)) = some (some z, sz, by_)) (hz : z.cells.size = sz) (h0 : 0 < sz) (hn : vs.length + us.length ≤ 1000000) (hby : by_ ≤ 1000)
    {ops : Array Oper} {rest : List Oper} {o : Oper} {a : Act} {Q : Exit → Act → World → Prop} (hgd : o.guard = none) (d x : Operand)
    (ho : o.op = .call { callee := .builtin .append, args := #[d, x], argTypes := #[t, t] }) (hs : a.eval d = v) (hx : a.eval x = .slice ua us.length uc)
    (h : ∀ v' w', OwnK w w' bs e sz v' (vs ++ us) → wpList Tryd.prog ops Q rest (a.put o.dst v') w') :
    wpList Tryd.prog ops Q (o :: rest) a V := by
  obtain ⟨i0, hi0, hz0, hz1, hz2⟩ := info_parts hi
  have hwV := hL.B.size
  by_cases he : us = []
  · obtain ⟨rfl, rfl⟩ := hnil he
    subst he
    refine wpList_append_own_none hgd d x t ho w.heap.size e i0 sz ht hi0 v vs.length _ hs hL.R (by simpa using hx) (h v V (by rw [List.append_nil]; exact hL))
  · have hpos : 0 < us.length := List.length_pos_iff.2 he
    obtain ⟨ub, uo, rfl, _⟩ := hU.2.2 0 hpos
    have hby2 : (vs.length + us.length) * by_ ≤ 140737488355328 := by
      have : (vs.length + us.length) * by_ ≤ 1000000 * 1000 := Nat.mul_le_mul hn hby
      omega
    have hlen := flat_len us fun x hx => (hus x hx).1
    refine wpList_append_lies _ hgd d x t ho w.heap.size e i0 z sz by_ ht hi0 hz0 hz1 hz2 hz h0 v vs.length _ hs hL.R ⟨ub, uo, none⟩ us.length uc (us.map Array.toList).flatten hx hlen ?_ ?_ hpos (by unfold maxLen; omega) hby2 (by omega) _ rfl ?_
    · intro j u hu
      have hj : j < us.length * sz := by rw [← hlen]; exact (List.getElem?_eq_some_iff.1 hu).1
      have hd : j / sz < us.length := Nat.div_lt_of_lt_mul (by rw [Nat.mul_comm]; exact hj)
      obtain ⟨b', o', e', hc⟩ := hU.2.2 (j / sz) hd
      obtain ⟨rfl, rfl⟩ : ub = b' ∧ uo = o' := by simpa using e'
      have hm := Nat.mod_lt j h0
      have hc' := hc (j % sz) hm
      have hjj : j / sz * sz + j % sz = j := by rw [Nat.mul_comm]; exact Nat.div_add_mod j sz
      rw [Addr.add_mid]
      rw [Nat.add_assoc, hjj] at hc'
      rw [hc', ← flat_at us (fun x hx => (hus x hx).1) (j / sz) hd (j % sz) hm, hjj]
      exact hu
    · intro u hu
      obtain ⟨l, hl, hul⟩ := List.mem_flatten.1 hu
      obtain ⟨y, hy, rfl⟩ := List.mem_map.1 hl
      exact (Array.all_eq_true_iff_forall_mem.1 (hus y hy).2) u (by simpa using hul)
    · intro g cap w' h2 h3 h4 h5
      refine h _ w' ⟨?_, ?_, ?_, ?_⟩
      · rw [List.length_append, List.map_append, List.flatten_append]
        exact h2
      · intro y hy
        rcases List.mem_append.1 hy with hy | hy
        · exact hL.Z y hy
        · exact (hus y hy).1
      · exact hL.B.grown h3 (by omega) fun k hk => (hL.lt k hk).1
      · intro p hp
        obtain ⟨q1, q2, q3⟩ := hL.K p hp
        have hl := (Array.getElem?_eq_some_iff.1 q1).1
        refine ⟨(h3.block _ hl (fun e => q3 e.symm)).trans q1, q2, fun e => ?_⟩
        have hg : g = p.1 := by simpa [Value.ownBlock] using e
        rcases h4 with h4 | h4
        · exact q3 (by rw [h4, hg])
        · omega
theorem inf65 : (Tryd.prog.info? 48).map (fun i => (i.zero, i.size, i.bytes)) = some (some (.agg #[.int .i64 0, .int .i64 0]), 2, 16) := by kernel_rfl
end Go.Proofs.YteedmmljahgpjabDoor
