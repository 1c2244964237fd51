/-
  The document's row.
-/
import Derived.Test.YteedmmljahgpjabGreatDoorM23
namespace Go.Proofs.YteedmmljahgpjabGreatDoor
open Go.RowKit
set_option linter.unusedVariables false
set_option linter.unusedSimpArgs false
theorem liesN_app : ∀ (l m : List Sp) (p : Int), liesN p (l ++ m) = (liesN p l).bind fun q => liesN q m
  | [], m, p => rfl
  | x :: l, m, p => by
    simp only [List.cons_append, liesN]
    split
    · rfl
    · exact liesN_app l m _
theorem hasI_pre (r : RowM) (i : Nat) (hi : i ≤ 4) : ∃ l, hasL r = hasI r i ++ l := by
  refine ⟨(((prts (partsN r.k r.o)).zip (spL r)).drop i).filterMap (fun q => if q.1 then some q.2 else none), ?_⟩
  unfold hasL hasI
  rw [← List.filterMap_append, List.take_append_drop, List.take_of_length_le (by simp [prts, spL])]
theorem lies_none (r : RowM) (i : Nat) (hi : i ≤ 4) (p : Int) (h : liesN p (hasI r i) = none) : liesN p (hasL r) = none := by
  obtain ⟨l, hl⟩ := hasI_pre r i hi
  rw [hl, liesN_app, h]; rfl
theorem par_cell {w : World} {b : Nat} {p : P4} (h : w.heap[b]? = some (.cells p.vals 4 (0, 0))) (i : Nat) (hi : i < 4) : w.cell? ⟨b, i, none⟩ = some (.bool ((prts p).getD i false)) := by
  match i, hi with
  | 0, _ => exact cell_of h 0
  | 1, _ => exact cell_of h 1
  | 2, _ => exact cell_of h 2
  | 3, _ => exact cell_of h 3
theorem spn_cell {w : World} {b : Nat} {r : RowM} (h : w.heap[b]? = some (.cells (spV r) 46 (0, 0))) (i : Nat) (hi : i < 4) : w.cell? ⟨b, i * 2, none⟩ = some (.int .i64 ((spL r).getD i ⟨0, 0⟩).f) ∧ w.cell? ⟨b, i * 2 + 1, none⟩ = some (.int .i64 ((spL r).getD i ⟨0, 0⟩).t) := by
  match i, hi with
  | 0, _ => exact ⟨cell_of h 0, cell_of h 1⟩
  | 1, _ => exact ⟨cell_of h 2, cell_of h 3⟩
  | 2, _ => exact ⟨cell_of h 4, cell_of h 5⟩
  | 3, _ => exact ⟨cell_of h 6, cell_of h 7⟩
def rwN (t : TbM) (r : RowM) (p : Int) : Option Int := if rowB t.sl t.rs.length t.ts.length r then liesN p (hasL r) else none
def outP : Option Int → Value
  | some q => .tuple #[.int .i64 q, .bool true]
  | none => .tuple #[.int .i64 0, .bool false]
set_option maxRecDepth 100000 in
set_option maxHeartbeats 4000000 in
theorem rrow_any' (t : TbM) (r : RowM) (p : Int) (w : World) : Calls Tryz.prog 59 #[.agg t.vals, .agg r.vals, .int .i64 p] w fun e w' => e = .returned (outP (rwN t r p)) ∧ Below w.heap.size w w' := by
  obtain ⟨W2, e2⟩ : ∃ W, (w.alloc (.cells t.vals 27)).alloc (.cells r.vals 66) = W := ⟨_, rfl⟩
  have E2 : Hid ((w.alloc (.cells t.vals 27)).alloc (.cells r.vals 66) = W2) := e2
  obtain ⟨hn1, hn2, hb2, hs2⟩ := two_box e2
  have HB2 : Hid (Below w.heap.size w W2) := hb2
  have HN1 : Hid (W2.heap[w.heap.size]? = some (.cells t.vals 27 (0, 0))) := hn1
  have HN2 : Hid (W2.heap[w.heap.size + 1]? = some (.cells r.vals 66 (0, 0))) := hn2
  clear e2
  have cI := rindex_any t r W2
  have HIX : Hid (rowB t.sl t.rs.length t.ts.length r = (orderB r && idxB t r && rowPB r 4)) := rfl
  clear hn1 hn2 hb2 hs2
  obtain ⟨ANS, eA⟩ : ∃ q, rwN t r p = q := ⟨_, rfl⟩
  have HA : Hid (rwN t r p = ANS) := eA
  rw [eA]
  clear eA
  go_enter Tryz.func59, Tryz.ntmps59
  go_upto_region 1 with fail
  rw [E2.out]
  clear E2
  obtain ⟨B1, eB1⟩ : ∃ b, w.heap.size + 1 = b := ⟨_, rfl⟩
  have HLB : Hid (B1 < W2.heap.size) := by show _ < _; rw [← eB1]; exact hp_lt HN2.out
  rw [eB1] at HN2 ⊢
  clear eB1
  go_wp2_with (first | (refine wpList_load_row rfl 27 (.tmp 3) rfl w.heap.size rfl 27 t.vals (0, 0) _ HN1.out Tryz.underlying27 rfl size26' ?_) | (refine wpList_load_row rfl 66 (.tmp 4) rfl B1 rfl 66 r.vals (0, 0) _ HN2.out Tryz.underlying66 rfl size85' ?_))
  refine cI.mono ?_
  rintro e w3 ⟨rfl, hb3⟩
  have HB3 : Hid (Below w.heap.size w w3) := below2 HB2.out hb3
  have HN3 : Hid (w3.heap[B1]? = some (.cells r.vals 66 (0, 0))) := (hb3.block _ HLB.out).trans HN2.out
  have k0 : w3.cell? ⟨B1, 0, none⟩ = some (.int .u8 r.k) := cell_of HN3.out 0
  have k1 : w3.cell? ⟨B1, 1, none⟩ = some (.int .u8 r.o) := cell_of HN3.out 1
  clear cI hb3 HN1 HN2 HLB HB2
  obtain ⟨ib, eib⟩ : ∃ b, idxB t r = b := ⟨_, rfl⟩
  rw [eib] at HIX ⊢
  clear eib
  have cH := rhas_any r w3
  cases h1 : (r.k == 1) with
  | true =>
    have h2 : (r.k != 1) = false := by simp [bne, h1]
    cases hA : decide (r.o ≥ 1) with
    | true =>
      cases hC : decide (r.o ≤ 5) with
      | true =>
        cases ib with
        | false =>
          have HN : Hid (ANS = none) := by show _ = _; rw [← HA.out]; unfold rwN; rw [HIX.out]; simp
          go_wp2_with fail
          go_ret2
          exact ⟨by rw [HN.out]; rfl, HB3.out⟩
        | true =>
          have HRB : Hid (rwN t r p = if rowPB r 4 then liesN p (hasL r) else none) := by show _ = _; unfold rwN; rw [HIX.out]; simp [orderB, h1, show (1 : Int) ≤ r.o from of_decide_eq_true hA, of_decide_eq_true hC]
          go_upto_region 5 with fail
          clear h1 h2
          clear hA hC
          go_wp2_with (refine wpList_load_row rfl 66 (.tmp 4) rfl B1 rfl 66 r.vals (0, 0) _ HN3.out Tryz.underlying66 rfl size85' ?_)
          refine cH.mono ?_
          rintro e w5 ⟨HC, rfl, hh, hge, hb5⟩
          have hn5 : w5.heap[B1]? = some (.cells r.vals 66 (0, 0)) := (hb5.block _ (hp_lt HN3.out)).trans HN3.out
          have s3 : w5.cell? ⟨B1, 3, none⟩ = some (.int .i64 r.sd.f) := cell_of hn5 3
          have s4 : w5.cell? ⟨B1, 4, none⟩ = some (.int .i64 r.sd.t) := cell_of hn5 4
          have s5 : w5.cell? ⟨B1, 5, none⟩ = some (.int .i64 r.qt.f) := cell_of hn5 5
          have s6 : w5.cell? ⟨B1, 6, none⟩ = some (.int .i64 r.qt.t) := cell_of hn5 6
          have s7 : w5.cell? ⟨B1, 7, none⟩ = some (.int .i64 r.pr.f) := cell_of hn5 7
          have s8 : w5.cell? ⟨B1, 8, none⟩ = some (.int .i64 r.pr.t) := cell_of hn5 8
          have s9 : w5.cell? ⟨B1, 9, none⟩ = some (.int .i64 r.vl.f) := cell_of hn5 9
          have s10 : w5.cell? ⟨B1, 10, none⟩ = some (.int .i64 r.vl.t) := cell_of hn5 10
          have HH : Hid (w5.heap[HC]? = some (.cells (partsN r.k r.o).vals 4 (0, 0))) := hh
          have HB5 : Hid (Below w.heap.size w w5) := below2 HB3.out hb5
          have HSV : Hid ((w5.alloc (.cells (spV r) 46)).heap[w5.heap.size]? = some (.cells (spV r) 46 (0, 0))) := heap_new _ _
          have HS6 : Hid (Below w5.heap.size w5 (w5.alloc (.cells (spV r) 46))) := below_new _ _
          clear cH hh hge hb5 hn5 HN3 HB3 k0 k1
          go_upto_region 7 with fail
          clear s3 s4 s5 s6 s7 s8 s9 s10
          rw [show (w5.alloc (.cells #[.int .i64 r.sd.f, .int .i64 r.sd.t, .int .i64 r.qt.f, .int .i64 r.qt.t, .int .i64 r.pr.f, .int .i64 r.pr.t, .int .i64 r.vl.f, .int .i64 r.vl.t] 46)) = w5.alloc (.cells (spV r) 46) from rfl]
          generalize w5.alloc (.cells (spV r) 46) = W6 at HSV HS6 ⊢
          generalize w5.heap.size = SB at HSV ⊢
          have HH6 : Hid (W6.heap[HC]? = some (.cells (partsN r.k r.o).vals 4 (0, 0))) := (HS6.out.block _ (hp_lt HH.out)).trans HH.out
          have HB6 : Hid (Below w.heap.size w W6) := below2 HB5.out HS6.out
          have HZ : Hid ((W6.alloc (.cells #[.int .i64 0, .int .i64 0] 46)).heap[W6.heap.size]? = some (.cells #[.int .i64 0, .int .i64 0] 46 (0, 0))) := heap_new _ _
          have HB7 : Hid (Below W6.heap.size W6 ((W6.alloc (.cells #[.int .i64 0, .int .i64 0] 46)).setRow W6.heap.size #[.int .i64 0, .int .i64 0])) := below_row (below_new _ _) (Nat.le_refl _) _
          have HZ7 : Hid (((W6.alloc (.cells #[.int .i64 0, .int .i64 0] 46)).setRow W6.heap.size #[.int .i64 0, .int .i64 0]).heap[W6.heap.size]? = some (.cells #[.int .i64 0, .int .i64 0] 46 (0, 0))) := setRow_heap _ _ _ _ _ _ HZ.out
          clear HH HB5 HS6
          go_upto_region 8 with (refine wpList_store_row rfl 46 (.tmp 12) (.tmp 57) rfl W6.heap.size #[.int .i64 0, .int .i64 0] rfl rfl 46 #[.int .i64 0, .int .i64 0] HZ.out size65' rfl (by simp [Value.oneCell']) ?_)
          clear HZ
          generalize World.setRow _ _ _ = W7 at HB7 HZ7 ⊢
          generalize W6.heap.size = ZB at HZ7 ⊢
          have HH7 : Hid (W7.heap[HC]? = some (.cells (partsN r.k r.o).vals 4 (0, 0))) := (HB7.out.block _ (hp_lt HH6.out)).trans HH6.out
          have HS7 : Hid (W7.heap[SB]? = some (.cells (spV r) 46 (0, 0))) := (HB7.out.block _ (hp_lt HSV.out)).trans HSV.out
          have HB8 : Hid (Below w.heap.size w W7) := below2 HB6.out HB7.out
          clear HH6 HSV HB6 HB7
          go_wp2_with fail
          go_loopw [2, 13] (fun v q wr => ∃ (z : Int) (i : Nat), i ≤ 4 ∧ v = .int .i64 z ∧ q = .int .i64 i ∧ Hid (Below W7.heap.size W7 wr) ∧ Hid (rowPB r i = true) ∧ Hid (liesN p (hasI r i) = some z)) (fun _ q _ => 4 - (intOf q).toNat)
          case atStart => exact ⟨p, 0, by omega, rfl, rfl, Below.refl _ _, rfl, rfl⟩
          case round =>
            obtain ⟨z, i, hi, rfl, rfl, HBR, HPR, HLR⟩ := hrel
            by_cases hlt : i < 4
            · have hlt' : (i : Int) < 4 := by omega
              have hmx : (i : Int) + 1 ≤ 9223372036854775807 := by omega
              have cP := cell_on (par_cell HH7.out i hlt) HBR.out
              obtain ⟨q1, q2⟩ := spn_cell HS7.out i hlt
              have cF := cell_on q1 HBR.out
              have cT := cell_on q2 HBR.out
              have z0 : wr.cell? ⟨ZB, 0, none⟩ = some (.int .i64 0) := cell_on (cell_of HZ7.out 0) HBR.out
              have z1 : wr.cell? ⟨ZB, 1, none⟩ = some (.int .i64 0) := cell_on (cell_of HZ7.out 1) HBR.out
              have HPS := rowPB_s r i hlt
              have HPF := rowPB_f r i hlt
              have HHS := hasI_s r i hlt
              have HNX := lies_none r (i + 1) hlt p
              obtain ⟨d, ed⟩ : ∃ d, (spL r).getD i ⟨0, 0⟩ = d := ⟨_, rfl⟩
              rw [ed] at cF cT HPS HPF HHS
              obtain ⟨bp, ebp⟩ : ∃ b, (prts (partsN r.k r.o)).getD i false = b := ⟨_, rfl⟩
              rw [ebp] at cP HPS HPF HHS
              clear ed ebp q1 q2
              have HD : Hid (∀ n, Below W7.heap.size W7 (wr.drewN n)) := fun n => below_d HBR.out n
              cases bp with
              | false =>
                have HP1 : Hid (rowPB r (i + 1) = noneB d) := by show _ = _; rw [HPS, HPR.out]; simp [partB]
                have HP2 : Hid (noneB d = false → rowPB r 4 = false) := fun h => HPF (by simp [partB, h])
                have HP3 : Hid (liesN p (hasI r (i + 1)) = some z) := by show _ = _; rw [HHS]; simpa using HLR.out
                clear HPS HPF HHS HNX HPR HLR
                cases h0 : (d.f == 0) with
                | false =>
                  have HN : Hid (ANS = none) := by show _ = _; rw [← HA.out, HRB.out, HP2.out (by simp [noneB, h0])]; rfl
                  have HBW := HB8.out
                  clear HBR HRB
                  go_wp2_with fail
                  go_quiet (fail)
                  go_wp2_with fail
                  go_ret2
                  exact ⟨by rw [HN.out]; rfl, below2 HB8.out (HD.out _)⟩
                | true =>
                  cases h1 : (d.t == 0) with
                  | false =>
                    have HN : Hid (ANS = none) := by show _ = _; rw [← HA.out, HRB.out, HP2.out (by simp [noneB, h1])]; rfl
                    clear HBR HRB
                    go_wp2_with fail
                    go_quiet (fail)
                    go_wp2_with fail
                    go_ret2
                    exact ⟨by rw [HN.out]; rfl, below2 HB8.out (HD.out _)⟩
                  | true =>
                    have HP4 : Hid (rowPB r (i + 1) = true) := by show _ = _; rw [HP1.out]; simp [noneB, h0, h1]
                    clear HP1 HP2
                    go_wp2_with fail
                    go_quiet (fail)
                    go_wp2_with fail
                    exact ⟨⟨z, i + 1, hlt, rfl, rfl, HD.out _, HP4, HP3⟩, by simp only [intOf]; omega⟩
              | true =>
                have HP4 : Hid (rowPB r (i + 1) = true) := by show _ = _; rw [HPS, HPR.out]; simp [partB]
                have HP3 : Hid (liesN p (hasI r (i + 1)) = if d.f != z || decide (d.t ≤ d.f) then none else some d.t) := by show _ = _; rw [HHS, if_pos rfl, liesN_app, HLR.out]; rfl
                have HP5 : Hid (liesN p (hasI r (i + 1)) = none → ANS = none) := fun h => by rw [← HA.out, HRB.out, HNX h]; simp
                clear HPS HPF HHS HNX HPR HLR
                cases h0 : (d.f != z) with
                | true =>
                  have HN : Hid (ANS = none) := HP5.out (by rw [HP3.out, h0]; rfl)
                  clear HBR HRB
                  go_wp2_with fail
                  go_quiet (fail)
                  go_wp2_with fail
                  go_ret2
                  exact ⟨by rw [HN.out]; rfl, below2 HB8.out (HD.out _)⟩
                | false =>
                  have hz : d.f = z := by simpa using h0
                  cases h1 : decide (d.t ≤ z) with
                  | true =>
                    have HN : Hid (ANS = none) := HP5.out (by rw [HP3.out, hz]; simp [of_decide_eq_true h1])
                    clear HBR HRB hz
                    go_wp2_with fail
                    go_quiet (fail)
                    go_wp2_with fail
                    go_ret2
                    exact ⟨by rw [HN.out]; rfl, below2 HB8.out (HD.out _)⟩
                  | false =>
                    have HP6 : Hid (liesN p (hasI r (i + 1)) = some d.t) := by show _ = _; rw [HP3.out, hz]; simp [of_decide_eq_false h1]
                    clear hz HP3 HP5
                    go_wp2_with fail
                    go_quiet (fail)
                    go_wp2_with fail
                    exact ⟨⟨d.t, i + 1, hlt, rfl, rfl, HD.out _, HP4, HP6⟩, by simp only [intOf]; omega⟩
            · obtain rfl : i = 4 := by omega
              have HN : Hid (ANS = some z) := by show _ = _; rw [← HA.out, HRB.out, HPR.out]; exact HLR.out
              go_wp2_with fail
              go_ret2
              exact ⟨by rw [HN.out]; rfl, below2 HB8.out HBR.out⟩
      | false =>
        cases ib with
        | false =>
          have HN : Hid (ANS = none) := by show _ = _; rw [← HA.out]; unfold rwN; rw [HIX.out]; simp [orderB, h1, of_decide_eq_false hC]
          go_wp2_with fail
          go_ret2
          exact ⟨by rw [HN.out]; rfl, HB3.out⟩
        | true =>
          have HN : Hid (ANS = none) := by show _ = _; rw [← HA.out]; unfold rwN; rw [HIX.out]; simp [orderB, h1, of_decide_eq_false hC]
          go_wp2_with fail
          go_ret2
          exact ⟨by rw [HN.out]; rfl, HB3.out⟩
    | false =>
      cases ib with
      | false =>
        have HN : Hid (ANS = none) := by show _ = _; rw [← HA.out]; unfold rwN; rw [HIX.out]; simp [orderB, h1, show ¬ (1 : Int) ≤ r.o from of_decide_eq_false hA]
        go_wp2_with fail
        go_ret2
        exact ⟨by rw [HN.out]; rfl, HB3.out⟩
      | true =>
        have HN : Hid (ANS = none) := by show _ = _; rw [← HA.out]; unfold rwN; rw [HIX.out]; simp [orderB, h1, show ¬ (1 : Int) ≤ r.o from of_decide_eq_false hA]
        go_wp2_with fail
        go_ret2
        exact ⟨by rw [HN.out]; rfl, HB3.out⟩
  | false =>
    have h2 : (r.k != 1) = true := by simp [bne, h1]
    cases h3 : (r.o == 0) with
    | true =>
      cases ib with
      | false =>
        have HN : Hid (ANS = none) := by show _ = _; rw [← HA.out]; unfold rwN; rw [HIX.out]; simp
        go_wp2_with fail
        go_ret2
        exact ⟨by rw [HN.out]; rfl, HB3.out⟩
      | true =>
        have HRB : Hid (rwN t r p = if rowPB r 4 then liesN p (hasL r) else none) := by show _ = _; unfold rwN; rw [HIX.out]; simp [orderB, h1, h3]
        go_upto_region 5 with fail
        clear h1 h2
        clear h3
        go_wp2_with (refine wpList_load_row rfl 66 (.tmp 4) rfl B1 rfl 66 r.vals (0, 0) _ HN3.out Tryz.underlying66 rfl size85' ?_)
        refine cH.mono ?_
        rintro e w5 ⟨HC, rfl, hh, hge, hb5⟩
        have hn5 : w5.heap[B1]? = some (.cells r.vals 66 (0, 0)) := (hb5.block _ (hp_lt HN3.out)).trans HN3.out
        have s3 : w5.cell? ⟨B1, 3, none⟩ = some (.int .i64 r.sd.f) := cell_of hn5 3
        have s4 : w5.cell? ⟨B1, 4, none⟩ = some (.int .i64 r.sd.t) := cell_of hn5 4
        have s5 : w5.cell? ⟨B1, 5, none⟩ = some (.int .i64 r.qt.f) := cell_of hn5 5
        have s6 : w5.cell? ⟨B1, 6, none⟩ = some (.int .i64 r.qt.t) := cell_of hn5 6
        have s7 : w5.cell? ⟨B1, 7, none⟩ = some (.int .i64 r.pr.f) := cell_of hn5 7
        have s8 : w5.cell? ⟨B1, 8, none⟩ = some (.int .i64 r.pr.t) := cell_of hn5 8
        have s9 : w5.cell? ⟨B1, 9, none⟩ = some (.int .i64 r.vl.f) := cell_of hn5 9
        have s10 : w5.cell? ⟨B1, 10, none⟩ = some (.int .i64 r.vl.t) := cell_of hn5 10
        have HH : Hid (w5.heap[HC]? = some (.cells (partsN r.k r.o).vals 4 (0, 0))) := hh
        have HB5 : Hid (Below w.heap.size w w5) := below2 HB3.out hb5
        have HSV : Hid ((w5.alloc (.cells (spV r) 46)).heap[w5.heap.size]? = some (.cells (spV r) 46 (0, 0))) := heap_new _ _
        have HS6 : Hid (Below w5.heap.size w5 (w5.alloc (.cells (spV r) 46))) := below_new _ _
        clear cH hh hge hb5 hn5 HN3 HB3 k0 k1
        go_upto_region 7 with fail
        clear s3 s4 s5 s6 s7 s8 s9 s10
        rw [show (w5.alloc (.cells #[.int .i64 r.sd.f, .int .i64 r.sd.t, .int .i64 r.qt.f, .int .i64 r.qt.t, .int .i64 r.pr.f, .int .i64 r.pr.t, .int .i64 r.vl.f, .int .i64 r.vl.t] 46)) = w5.alloc (.cells (spV r) 46) from rfl]
        generalize w5.alloc (.cells (spV r) 46) = W6 at HSV HS6 ⊢
        generalize w5.heap.size = SB at HSV ⊢
        have HH6 : Hid (W6.heap[HC]? = some (.cells (partsN r.k r.o).vals 4 (0, 0))) := (HS6.out.block _ (hp_lt HH.out)).trans HH.out
        have HB6 : Hid (Below w.heap.size w W6) := below2 HB5.out HS6.out
        have HZ : Hid ((W6.alloc (.cells #[.int .i64 0, .int .i64 0] 46)).heap[W6.heap.size]? = some (.cells #[.int .i64 0, .int .i64 0] 46 (0, 0))) := heap_new _ _
        have HB7 : Hid (Below W6.heap.size W6 ((W6.alloc (.cells #[.int .i64 0, .int .i64 0] 46)).setRow W6.heap.size #[.int .i64 0, .int .i64 0])) := below_row (below_new _ _) (Nat.le_refl _) _
        have HZ7 : Hid (((W6.alloc (.cells #[.int .i64 0, .int .i64 0] 46)).setRow W6.heap.size #[.int .i64 0, .int .i64 0]).heap[W6.heap.size]? = some (.cells #[.int .i64 0, .int .i64 0] 46 (0, 0))) := setRow_heap _ _ _ _ _ _ HZ.out
        clear HH HB5 HS6
        go_upto_region 8 with (refine wpList_store_row rfl 46 (.tmp 12) (.tmp 57) rfl W6.heap.size #[.int .i64 0, .int .i64 0] rfl rfl 46 #[.int .i64 0, .int .i64 0] HZ.out size65' rfl (by simp [Value.oneCell']) ?_)
        clear HZ
        generalize World.setRow _ _ _ = W7 at HB7 HZ7 ⊢
        generalize W6.heap.size = ZB at HZ7 ⊢
        have HH7 : Hid (W7.heap[HC]? = some (.cells (partsN r.k r.o).vals 4 (0, 0))) := (HB7.out.block _ (hp_lt HH6.out)).trans HH6.out
        have HS7 : Hid (W7.heap[SB]? = some (.cells (spV r) 46 (0, 0))) := (HB7.out.block _ (hp_lt HSV.out)).trans HSV.out
        have HB8 : Hid (Below w.heap.size w W7) := below2 HB6.out HB7.out
        clear HH6 HSV HB6 HB7
        go_wp2_with fail
        go_loopw [2, 13] (fun v q wr => ∃ (z : Int) (i : Nat), i ≤ 4 ∧ v = .int .i64 z ∧ q = .int .i64 i ∧ Hid (Below W7.heap.size W7 wr) ∧ Hid (rowPB r i = true) ∧ Hid (liesN p (hasI r i) = some z)) (fun _ q _ => 4 - (intOf q).toNat)
        case atStart => exact ⟨p, 0, by omega, rfl, rfl, Below.refl _ _, rfl, rfl⟩
        case round =>
          obtain ⟨z, i, hi, rfl, rfl, HBR, HPR, HLR⟩ := hrel
          by_cases hlt : i < 4
          · have hlt' : (i : Int) < 4 := by omega
            have hmx : (i : Int) + 1 ≤ 9223372036854775807 := by omega
            have cP := cell_on (par_cell HH7.out i hlt) HBR.out
            obtain ⟨q1, q2⟩ := spn_cell HS7.out i hlt
            have cF := cell_on q1 HBR.out
            have cT := cell_on q2 HBR.out
            have z0 : wr.cell? ⟨ZB, 0, none⟩ = some (.int .i64 0) := cell_on (cell_of HZ7.out 0) HBR.out
            have z1 : wr.cell? ⟨ZB, 1, none⟩ = some (.int .i64 0) := cell_on (cell_of HZ7.out 1) HBR.out
            have HPS := rowPB_s r i hlt
            have HPF := rowPB_f r i hlt
            have HHS := hasI_s r i hlt
            have HNX := lies_none r (i + 1) hlt p
            obtain ⟨d, ed⟩ : ∃ d, (spL r).getD i ⟨0, 0⟩ = d := ⟨_, rfl⟩
            rw [ed] at cF cT HPS HPF HHS
            obtain ⟨bp, ebp⟩ : ∃ b, (prts (partsN r.k r.o)).getD i false = b := ⟨_, rfl⟩
            rw [ebp] at cP HPS HPF HHS
            clear ed ebp q1 q2
            have HD : Hid (∀ n, Below W7.heap.size W7 (wr.drewN n)) := fun n => below_d HBR.out n
            cases bp with
            | false =>
              have HP1 : Hid (rowPB r (i + 1) = noneB d) := by show _ = _; rw [HPS, HPR.out]; simp [partB]
              have HP2 : Hid (noneB d = false → rowPB r 4 = false) := fun h => HPF (by simp [partB, h])
              have HP3 : Hid (liesN p (hasI r (i + 1)) = some z) := by show _ = _; rw [HHS]; simpa using HLR.out
              clear HPS HPF HHS HNX HPR HLR
              cases h0 : (d.f == 0) with
              | false =>
                have HN : Hid (ANS = none) := by show _ = _; rw [← HA.out, HRB.out, HP2.out (by simp [noneB, h0])]; rfl
                have HBW := HB8.out
                clear HBR HRB
                go_wp2_with fail
                go_quiet (fail)
                go_wp2_with fail
                go_ret2
                exact ⟨by rw [HN.out]; rfl, below2 HB8.out (HD.out _)⟩
              | true =>
                cases h1 : (d.t == 0) with
                | false =>
                  have HN : Hid (ANS = none) := by show _ = _; rw [← HA.out, HRB.out, HP2.out (by simp [noneB, h1])]; rfl
                  clear HBR HRB
                  go_wp2_with fail
                  go_quiet (fail)
                  go_wp2_with fail
                  go_ret2
                  exact ⟨by rw [HN.out]; rfl, below2 HB8.out (HD.out _)⟩
                | true =>
                  have HP4 : Hid (rowPB r (i + 1) = true) := by show _ = _; rw [HP1.out]; simp [noneB, h0, h1]
                  clear HP1 HP2
                  go_wp2_with fail
                  go_quiet (fail)
                  go_wp2_with fail
                  exact ⟨⟨z, i + 1, hlt, rfl, rfl, HD.out _, HP4, HP3⟩, by simp only [intOf]; omega⟩
            | true =>
              have HP4 : Hid (rowPB r (i + 1) = true) := by show _ = _; rw [HPS, HPR.out]; simp [partB]
              have HP3 : Hid (liesN p (hasI r (i + 1)) = if d.f != z || decide (d.t ≤ d.f) then none else some d.t) := by show _ = _; rw [HHS, if_pos rfl, liesN_app, HLR.out]; rfl
              have HP5 : Hid (liesN p (hasI r (i + 1)) = none → ANS = none) := fun h => by rw [← HA.out, HRB.out, HNX h]; simp
              clear HPS HPF HHS HNX HPR HLR
              cases h0 : (d.f != z) with
              | true =>
                have HN : Hid (ANS = none) := HP5.out (by rw [HP3.out, h0]; rfl)
                clear HBR HRB
                go_wp2_with fail
                go_quiet (fail)
                go_wp2_with fail
                go_ret2
                exact ⟨by rw [HN.out]; rfl, below2 HB8.out (HD.out _)⟩
              | false =>
                have hz : d.f = z := by simpa using h0
                cases h1 : decide (d.t ≤ z) with
                | true =>
                  have HN : Hid (ANS = none) := HP5.out (by rw [HP3.out, hz]; simp [of_decide_eq_true h1])
                  clear HBR HRB hz
                  go_wp2_with fail
                  go_quiet (fail)
                  go_wp2_with fail
                  go_ret2
                  exact ⟨by rw [HN.out]; rfl, below2 HB8.out (HD.out _)⟩
                | false =>
                  have HP6 : Hid (liesN p (hasI r (i + 1)) = some d.t) := by show _ = _; rw [HP3.out, hz]; simp [of_decide_eq_false h1]
                  clear hz HP3 HP5
                  go_wp2_with fail
                  go_quiet (fail)
                  go_wp2_with fail
                  exact ⟨⟨d.t, i + 1, hlt, rfl, rfl, HD.out _, HP4, HP6⟩, by simp only [intOf]; omega⟩
          · obtain rfl : i = 4 := by omega
            have HN : Hid (ANS = some z) := by show _ = _; rw [← HA.out, HRB.out, HPR.out]; exact HLR.out
            go_wp2_with fail
            go_ret2
            exact ⟨by rw [HN.out]; rfl, below2 HB8.out HBR.out⟩
    | false =>
      cases ib with
      | false =>
        have HN : Hid (ANS = none) := by show _ = _; rw [← HA.out]; unfold rwN; rw [HIX.out]; simp [orderB, h1, h3]
        go_wp2_with fail
        go_ret2
        exact ⟨by rw [HN.out]; rfl, HB3.out⟩
      | true =>
        have HN : Hid (ANS = none) := by show _ = _; rw [← HA.out]; unfold rwN; rw [HIX.out]; simp [orderB, h1, h3]
        go_wp2_with fail
        go_ret2
        exact ⟨by rw [HN.out]; rfl, HB3.out⟩
end Go.Proofs.YteedmmljahgpjabGreatDoor
