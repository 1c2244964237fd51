import Derived.Test.YteedmmljahgpjabGreatDoorM4
import Derived.Deep.Slices
import Derived.ProofKit
import Derived.OpenShut
import Derived.ChangeArms
import Derived.SizedLaws
import Derived.Test.YteedmmljahgpjabGreatDoorUo
/-
  The document's index and has.
-/
namespace Go.Proofs.YteedmmljahgpjabGreatDoor
open Go.RowKit
set_option linter.unusedVariables false
set_option linter.unusedSimpArgs false
theorem two_box {w V : World} {a b : Array Value} {ta tb : TypeId} (e : (w.alloc (.cells a ta)).alloc (.cells b tb) = V) : V.heap[w.heap.size]? = some (.cells a ta (0, 0)) ∧ V.heap[w.heap.size + 1]? = some (.cells b tb (0, 0)) ∧ Below w.heap.size w V ∧ V.heap.size = w.heap.size + 2 := by
  subst e
  refine ⟨by rw [al_get, if_neg (by rw [size_alloc]; omega)]; exact heap_new _ _, by rw [← size_alloc w (.cells a ta)]; exact heap_new _ _, below2 (below_new _ _) (below_new _ _), by rw [size_alloc, size_alloc]⟩
def idxB (t : TbM) (r : RowM) : Bool := withinB (idxN t.sl t.rs.length t.ts.length r.k).1 r.i (idxN t.sl t.rs.length t.ts.length r.k).2
set_option maxRecDepth 100000 in
set_option maxHeartbeats 4000000 in
theorem rindex_any (t : TbM) (r : RowM) (w : World) : Calls Tryz.prog 77 #[.agg t.vals, .agg r.vals] w fun e w' => e = .returned (.bool (idxB t r)) ∧ Below w.heap.size w w' := by
  obtain ⟨W2, e2⟩ : ∃ W, (w.alloc (.cells t.vals 27)).alloc (.cells r.vals 66) = W := ⟨_, rfl⟩
  have E2 : Hid ((w.alloc (.cells t.vals 27)).alloc (.cells r.vals 66) = W2) := e2
  obtain ⟨hn1, hn2, hb2, hs2⟩ := two_box e2
  have HB2 : Hid (Below w.heap.size w W2) := hb2
  have HN1 : Hid (W2.heap[w.heap.size]? = some (.cells t.vals 27 (0, 0))) := hn1
  have HN2 : Hid (W2.heap[w.heap.size + 1]? = some (.cells r.vals 66 (0, 0))) := hn2
  clear e2
  have c1 : W2.cell? ⟨w.heap.size, 1, none⟩ = some (.slice t.ra t.rs.length t.rc) := cell_of hn1 1
  have c2 : W2.cell? ⟨w.heap.size, 2, none⟩ = some (.int .i64 t.sl) := cell_of hn1 2
  have c5 : W2.cell? ⟨w.heap.size, 5, none⟩ = some (.slice t.ta t.ts.length t.tc) := cell_of hn1 5
  have k0 : W2.cell? ⟨w.heap.size + 1, 0, none⟩ = some (.int .u8 r.k) := cell_of hn2 0
  have k2 : W2.cell? ⟨w.heap.size + 1, 2, none⟩ = some (.int .i64 r.i) := cell_of hn2 2
  clear hn1 hn2 hb2 hs2 HN1 HN2
  go_enter Tryz.func77, Tryz.ntmps77
  go_upto_region 1 with fail
  rw [E2.out]
  clear E2
  generalize w.heap.size + 1 = B1 at *
  cases h1 : (r.k == 1) with
  | true =>
    by_cases hA : r.i ≥ 0
    · by_cases hC : r.i ≤ t.sl
      · have hC' := hC
        go_wp2_with fail
        go_ret
        exact ⟨retB (by first | (simp [idxB, idxN, withinB, *]; done) | (simp [idxB, idxN, withinB, *] <;> omega)), HB2.out⟩
      · have hC' := hC
        go_wp2_with fail
        go_ret
        exact ⟨retB (by first | (simp [idxB, idxN, withinB, *]; done) | (simp [idxB, idxN, withinB, *] <;> omega)), HB2.out⟩
    · have hA' := hA
      go_wp2_with fail
      go_ret
      exact ⟨retB (by first | (simp [idxB, idxN, withinB, *]; done) | (simp [idxB, idxN, withinB, *] <;> omega)), HB2.out⟩
  | false =>
    cases h2 : (r.k == 2) with
    | true =>
      by_cases hA : r.i ≥ 1
      · by_cases hC : r.i ≤ t.sl
        · have hC' := hC
          go_wp2_with fail
          go_ret
          exact ⟨retB (by first | (simp [idxB, idxN, withinB, *]; done) | (simp [idxB, idxN, withinB, *] <;> omega)), HB2.out⟩
        · have hC' := hC
          go_wp2_with fail
          go_ret
          exact ⟨retB (by first | (simp [idxB, idxN, withinB, *]; done) | (simp [idxB, idxN, withinB, *] <;> omega)), HB2.out⟩
      · have hA' := hA
        go_wp2_with fail
        go_ret
        exact ⟨retB (by first | (simp [idxB, idxN, withinB, *]; done) | (simp [idxB, idxN, withinB, *] <;> omega)), HB2.out⟩
    | false =>
      cases h3 : (r.k == 3) with
      | true =>
        by_cases hA : r.i ≥ 1
        · by_cases hC : r.i ≤ t.sl
          · have hC' := hC
            go_wp2_with fail
            go_ret
            exact ⟨retB (by first | (simp [idxB, idxN, withinB, *]; done) | (simp [idxB, idxN, withinB, *] <;> omega)), HB2.out⟩
          · have hC' := hC
            go_wp2_with fail
            go_ret
            exact ⟨retB (by first | (simp [idxB, idxN, withinB, *]; done) | (simp [idxB, idxN, withinB, *] <;> omega)), HB2.out⟩
        · have hA' := hA
          go_wp2_with fail
          go_ret
          exact ⟨retB (by first | (simp [idxB, idxN, withinB, *]; done) | (simp [idxB, idxN, withinB, *] <;> omega)), HB2.out⟩
      | false =>
        cases h4 : (r.k == 4) with
        | true =>
          by_cases hA : r.i ≥ 0
          · by_cases hC : r.i < (t.rs.length : Int)
            · have hC' := hC
              go_wp2_with fail
              go_ret
              exact ⟨retB (by first | (simp [idxB, idxN, withinB, *]; done) | (simp [idxB, idxN, withinB, *] <;> omega)), HB2.out⟩
            · have hC' := hC
              go_wp2_with fail
              go_ret
              exact ⟨retB (by first | (simp [idxB, idxN, withinB, *]; done) | (simp [idxB, idxN, withinB, *] <;> omega)), HB2.out⟩
          · have hA' := hA
            go_wp2_with fail
            go_ret
            exact ⟨retB (by first | (simp [idxB, idxN, withinB, *]; done) | (simp [idxB, idxN, withinB, *] <;> omega)), HB2.out⟩
        | false =>
          cases h5 : (r.k == 5) with
          | true =>
            by_cases hA : r.i ≥ 0
            · by_cases hC : r.i < (t.ts.length : Int)
              · have hC' := hC
                go_wp2_with fail
                go_ret
                exact ⟨retB (by first | (simp [idxB, idxN, withinB, *]; done) | (simp [idxB, idxN, withinB, *] <;> omega)), HB2.out⟩
              · have hC' := hC
                go_wp2_with fail
                go_ret
                exact ⟨retB (by first | (simp [idxB, idxN, withinB, *]; done) | (simp [idxB, idxN, withinB, *] <;> omega)), HB2.out⟩
            · have hA' := hA
              go_wp2_with fail
              go_ret
              exact ⟨retB (by first | (simp [idxB, idxN, withinB, *]; done) | (simp [idxB, idxN, withinB, *] <;> omega)), HB2.out⟩
          | false =>
            cases h6 : (r.k == 6) with
            | true =>
              cases h7 : (r.i == 0) with
              | true =>
                go_wp2_with fail
                go_ret
                exact ⟨retB (by simp [idxB, idxN, withinB, *]; have : r.i = 0 := (by simpa using h7); omega), HB2.out⟩
              | false =>
                go_wp2_with fail
                go_ret
                exact ⟨retB (by simp [idxB, idxN, withinB, *]; have : ¬ r.i = 0 := (by simpa using h7); omega), HB2.out⟩
            | false =>
              go_wp2_with fail
              go_ret
              exact ⟨retB (by simp [idxB, idxN, withinB, *]; omega), HB2.out⟩
set_option maxRecDepth 100000 in
set_option maxHeartbeats 4000000 in
theorem rhas_any (r : RowM) (w : World) : Calls Tryz.prog 32 #[.agg r.vals] w fun e w' => ∃ B, e = .returned (.slice (some ⟨B, 0, none⟩) 4 4) ∧ w'.heap[B]? = some (.cells (partsN r.k r.o).vals 4 (0, 0)) ∧ w.heap.size ≤ B ∧ Below w.heap.size w w' := by
  have hb1 := below_new w (.cells r.vals 66)
  have hn1 := heap_new w (.cells r.vals 66)
  have hs1 := size_alloc w (.cells r.vals 66)
  obtain ⟨W1, e1⟩ : ∃ W, w.alloc (.cells r.vals 66) = W := ⟨_, rfl⟩
  have E1 : Hid (w.alloc (.cells r.vals 66) = W1) := e1
  rw [e1] at hb1 hn1 hs1
  have HB1 : Hid (Below w.heap.size w W1) := hb1
  have HS1 : Hid (w.heap.size ≤ W1.heap.size) := by show _ ≤ _; omega
  have k0 : W1.cell? ⟨w.heap.size, 0, none⟩ = some (.int .u8 r.k) := cell_of hn1 0
  have k1 : W1.cell? ⟨w.heap.size, 1, none⟩ = some (.int .u8 r.o) := cell_of hn1 1
  clear hn1 hb1 hs1 e1
  go_enter Tryz.func32, Tryz.ntmps32
  go_upto_region 1 with fail
  rw [E1.out]
  clear E1
  cases h1 : (r.k == 1) with
  | true =>
    have h2 : (r.k == 2) = false := by have : r.k = 1 := (by simpa using h1); rw [this]; rfl
    have h4 : (r.k == 4) = false := by have : r.k = 1 := (by simpa using h1); rw [this]; rfl
    cases h7 : (r.o != 2) with
    | true =>
      go_wp2_with fail
      go_ret
      exact ⟨W1.heap.size, rfl, (heap_new _ _).trans (by simp [partsN, P4.vals, *]), HS1.out, below2 HB1.out (below_new _ _)⟩
    | false =>
      go_wp2_with fail
      go_ret
      exact ⟨W1.heap.size, rfl, (heap_new _ _).trans (by simp [partsN, P4.vals, *]), HS1.out, below2 HB1.out (below_new _ _)⟩
  | false =>
    cases h2 : (r.k == 2) with
    | true =>
      have h4 : (r.k == 4) = false := by have : r.k = 2 := (by simpa using h2); rw [this]; rfl
      go_wp2_with fail
      go_ret
      exact ⟨W1.heap.size, rfl, (heap_new _ _).trans (by simp [partsN, P4.vals, *]), HS1.out, below2 HB1.out (below_new _ _)⟩
    | false =>
      cases h4 : (r.k == 4) with
      | true =>
        go_wp2_with fail
        go_ret
        exact ⟨W1.heap.size, rfl, (heap_new _ _).trans (by simp [partsN, P4.vals, *]), HS1.out, below2 HB1.out (below_new _ _)⟩
      | false =>
        go_wp2_with fail
        go_ret
        exact ⟨W1.heap.size, rfl, (heap_new _ _).trans (by simp [partsN, P4.vals, *]), HS1.out, below2 HB1.out (below_new _ _)⟩
end Go.Proofs.YteedmmljahgpjabGreatDoor

/-
  The plain answers of the least table, and of the two that are spoilt.
-/
namespace Go.Proofs.YteedmmljahgpjabGreatDoor
open Go.RowKit
set_option linter.unusedVariables false
set_option linter.unusedSimpArgs false
set_option maxRecDepth 100000
/-- Code[3].A = 6. -/
def lsW (B : Nat) : TbM := { lsT B with ds := [⟨3, 1⟩, ⟨6, 4⟩, ⟨1, 0⟩, ⟨5, 6⟩] }
/-- States[0][0].Fields = 0. -/
def lsK (B : Nat) : TbM := { lsT B with ts := [⟨some ⟨B + 5, 0, none⟩, 1, [{ lsG B with fd := 0 }]⟩] }
theorem ls_check (B : Nat) : checkE (lsT B) = 0 := by kernel_rfl
theorem lw_check (B : Nat) : checkE (lsW B) = 192 := by kernel_rfl
theorem lk_check (B : Nat) : checkE (lsK B) = 193 := by kernel_rfl
theorem ls_encE (B : Nat) : encE (lsT B) = 0 := by kernel_rfl
theorem ls_size (B : Nat) : (encS (lsT B)).size = 27 := by kernel_rfl
theorem ls_bound (B : Nat) : boundN (lsT B) = (4, 0) := by kernel_rfl
theorem ls_reads (B : Nat) : readsN (lsT B).ds ⟨0, 9⟩ = (2, 0) := by kernel_rfl
def lsP : TbP := ⟨⟨#[115]⟩, [], 0, [1], [⟨3, 1⟩, ⟨6, 4⟩, ⟨1, 0⟩, ⟨5, 2⟩], [[⟨⟨0, 4⟩, 2, 0, [lsR]⟩]]⟩
theorem ls_un (B : Nat) : unR (encS (lsT B)) = some lsP := by kernel_rfl
theorem is_ls {t : TbM} (h : Is lsP t) : checkE t = 0 ∧ ∀ C, SameT t (lsT C) := by
  obtain ⟨x, ra, rc, rs, sl, ca, cc, cs, da, dc, ds, ta, tc, ts⟩ := t
  obtain ⟨h1, h2, h3, h4, h5, h6⟩ := h
  simp only at h1 h2 h3 h4 h5 h6
  subst h1 h2 h3 h4 h5
  match ts, h6 with
  | [⟨a, c, [⟨wh, fd, rg, a1, c1, rs1⟩]⟩], h6 =>
    simp only [List.map_cons, List.map_nil, lsP, plG, List.cons.injEq, GdP.mk.injEq, and_true] at h6
    obtain ⟨rfl, rfl, rfl, rfl⟩ := h6
    refine ⟨by kernel_rfl, fun C => ⟨rfl, rfl, rfl, rfl, rfl, rfl, fun i h1 h2 h3 => ?_⟩⟩
    obtain rfl : i = 0 := by simp at h3; omega
    refine ⟨rfl, fun j h3 h4 => ?_⟩
    obtain rfl : j = 0 := by simp at h3; omega
    exact ⟨rfl, rfl, rfl, rfl, rfl⟩
  | [], h6 => simp [lsP] at h6
  | ⟨a, c, []⟩ :: l, h6 => simp [lsP] at h6
  | ⟨a, c, g1 :: g2 :: l2⟩ :: l, h6 => simp [lsP] at h6
  | s1 :: s2 :: l, h6 => simp [lsP] at h6
theorem decode_z {Z : ByteArray} (hz : Z.size = 27) (hu : unR Z = some lsP) (w : World) (htb : Tab w) : Calls Tryz.prog 5 #[.string Z] w fun e w' => ∃ t nb, e = .returned (.tuple #[.agg t.vals, .int .i64 0]) ∧ Bxs w w' t nb ∧ (∀ C, SameT t (lsT C)) ∧ Below w.heap.size w w' := by
  refine (decode_any Z w (by rw [hz]; decide) htb).mono ?_
  intro e w' h
  rw [hu] at h
  obtain ⟨t, nb, h1, h2, h3⟩ := h
  obtain ⟨k1, k2⟩ := is_ls h1
  rw [k1] at h2
  exact ⟨t, nb, h2.1, h2.2, k2, h3⟩
theorem decode_least (B : Nat) (w : World) (htb : Tab w) : Calls Tryz.prog 5 #[.string (encS (lsT B))] w fun e w' => ∃ t nb, e = .returned (.tuple #[.agg t.vals, .int .i64 0]) ∧ Bxs w w' t nb ∧ (∀ C, SameT t (lsT C)) ∧ Below w.heap.size w w' := decode_z (ls_size B) (ls_un B) w htb
end Go.Proofs.YteedmmljahgpjabGreatDoor

/-
  The statements' head.
-/
namespace Go.Proofs.YteedmmljahgpjabGreatDoor
open Go.RowKit
set_option linter.unusedVariables false
set_option linter.unusedSimpArgs false
theorem yl_row {P : Program} {ops : Array Oper} {S : World → Prop} {op : Oper} {a : Act} (hw : Region.wanted op (yielded ops a.tmps) = true) (ty : TypeId) (x : Operand) (ho : op.op = .load ty x)
    (g : Nat) (hx : a.eval x = .pointer (some ⟨g, 0, none⟩)) (t : TypeId) (cs : Array Value) (fr : Nat × Nat) (d : TypeDesc) (hS : ∀ w, S w → w.heap[g]? = some (.cells cs t fr))
    (hu : P.underlying ty = some d) (hd : (match d with | .struct _ | .array _ _ => true | _ => false) = true) (hi : (P.info? ty).map (·.size) = some cs.size) : YieldsIf P ops S op (.agg cs) a :=
  .inl ⟨hw, fun w hw' => by
    unfold execOp
    simp only [ho, hx, Instr.loadAt, Instr.sureAddr, Sem.run_bind, Sem.run_pure, Result.andThen_ok, run_loadVar_row w g t ty cs fr d (hS w hw') hu hd hi]⟩
def lsDw : Array Value := #[.int .u8 3, .int .i64 1, .int .u8 6, .int .i64 4, .int .u8 1, .int .i64 0, .int .u8 5, .int .i64 6]
theorem lw_tb {w : World} {B : Nat} (hD : w.heap[B + 1]? = some (.cells lsDw 42 (0, 0))) (hR : w.heap[B + 2]? = some (.cells lsR.vals 66 (0, 0))) (hC : w.heap[B + 4]? = some (.cells #[.int .i64 1] 2 (0, 0))) (hG : w.heap[B + 5]? = some (.cells (lsG B).vals 49 (0, 0))) (hS : w.heap[B + 6]? = some (.cells #[.slice (some ⟨B + 5, 0, none⟩) 1 1] 50 (0, 0))) : TbL w (lsW B) where
  R := ⟨Nat.le_refl _, k0, fun i hi => absurd hi (Nat.not_lt_zero _)⟩
  Ri := fun n hn => by cases hn
  S := i0
  C := sl1 hC
  Ci := fun n hn => by
    obtain rfl : n = 1 := by simpa [lsW, lsT] using hn
    exact ⟨by decide, by decide⟩
  D := by
    refine ⟨Nat.le_refl _, k4, fun i hi => ⟨B + 1, 0, rfl, fun j hj => ?_⟩⟩
    rw [cell_of hD]
    have hi' : i < 4 := hi
    obtain rfl | rfl | rfl | rfl : i = 0 ∨ i = 1 ∨ i = 2 ∨ i = 3 := by omega
    all_goals (obtain rfl | rfl : j = 0 ∨ j = 1 := by omega) <;> rfl
  Di := fun d hd => by
    simp [lsW, lsT] at hd
    rcases hd with rfl | rfl | rfl | rfl <;> exact ⟨⟨by decide, by decide⟩, by decide, by decide⟩
  T := sl1 hS
  Ti := fun s hs => by
    obtain rfl : s = ⟨some ⟨B + 5, 0, none⟩, 1, [lsG B]⟩ := by simpa [lsW, lsT] using hs
    refine ⟨sl1 hG, fun g hg => ?_⟩
    obtain rfl : g = lsG B := by simpa using hg
    refine ⟨s04, u2, u0, sl1 hR, fun r hr => ?_⟩
    obtain rfl : r = lsR := by simpa [lsG] using hr
    exact lsR_i
  X := by show (1 : Nat) ≤ _; decide
def lsGk (B : Nat) : GdM := { lsG B with fd := 0 }
theorem lk_tb {w : World} {B : Nat} (hD : w.heap[B + 1]? = some (.cells lsD 42 (0, 0))) (hR : w.heap[B + 2]? = some (.cells lsR.vals 66 (0, 0))) (hC : w.heap[B + 4]? = some (.cells #[.int .i64 1] 2 (0, 0))) (hG : w.heap[B + 5]? = some (.cells (lsGk B).vals 49 (0, 0))) (hS : w.heap[B + 6]? = some (.cells #[.slice (some ⟨B + 5, 0, none⟩) 1 1] 50 (0, 0))) : TbL w (lsK B) where
  R := ⟨Nat.le_refl _, k0, fun i hi => absurd hi (Nat.not_lt_zero _)⟩
  Ri := fun n hn => by cases hn
  S := i0
  C := sl1 hC
  Ci := fun n hn => by
    obtain rfl : n = 1 := by simpa [lsK, lsT] using hn
    exact ⟨by decide, by decide⟩
  D := by
    refine ⟨Nat.le_refl _, k4, fun i hi => ⟨B + 1, 0, rfl, fun j hj => ?_⟩⟩
    rw [cell_of hD]
    have hi' : i < 4 := hi
    obtain rfl | rfl | rfl | rfl : i = 0 ∨ i = 1 ∨ i = 2 ∨ i = 3 := by omega
    all_goals (obtain rfl | rfl : j = 0 ∨ j = 1 := by omega) <;> rfl
  Di := fun d hd => by
    simp [lsK, lsT] at hd
    rcases hd with rfl | rfl | rfl | rfl <;> exact ⟨⟨by decide, by decide⟩, by decide, by decide⟩
  T := sl1 hS
  Ti := fun s hs => by
    obtain rfl : s = ⟨some ⟨B + 5, 0, none⟩, 1, [lsGk B]⟩ := by simpa [lsK, lsT, lsGk] using hs
    refine ⟨sl1 hG, fun g hg => ?_⟩
    obtain rfl : g = lsGk B := by simpa using hg
    refine ⟨s04, u0, u0, sl1 hR, fun r hr => ?_⟩
    obtain rfl : r = lsR := by simpa [lsG, lsGk] using hr
    exact lsR_i
  X := by show (1 : Nat) ≤ _; decide
theorem hp_lt {w : World} {b : Nat} {o : Obj} (h : w.heap[b]? = some o) : b < w.heap.size := by
  rcases Nat.lt_or_ge b w.heap.size with h' | h'
  · exact h'
  · rw [Array.getElem?_eq_none h'] at h; cases h
/-- A fresh least table in a box of its own. -/
theorem boxed {w w1 V : World} (l : LsB w1 w.heap.size) (b : Below w.heap.size w w1) (e : (w1.alloc (.cells tb0 27)).setRow w1.heap.size (lsT w.heap.size).vals = V) :
    V.heap[w1.heap.size]? = some (.cells (lsT w.heap.size).vals 27 (0, 0)) ∧ LsB V w.heap.size ∧ Below w.heap.size w V ∧ w.heap.size + 6 < w1.heap.size := by
  subst e
  refine ⟨setRow_heap _ _ _ _ _ _ (heap_new _ _), l.on (below_row (below_new _ _) (Nat.le_refl _) _), below_row (below2 b (below_new _ _)) b.size _, hp_lt l.S⟩
theorem spoilW {V V2 : World} {B b8 : Nat} (l : LsB V B) (x : V.heap[b8]? = some (.cells (lsT B).vals 27 (0, 0))) (hne : B + 6 < b8) (e : V.setCell ⟨B + 1, 7, none⟩ (.int .i64 6) = V2) :
    V2.heap[b8]? = some (.cells (lsW B).vals 27 (0, 0)) ∧ TbL V2 (lsW B) := by
  subst e
  refine ⟨(Below.heap_setCell _ _ _ _ (by show b8 ≠ B + 1; omega)).trans x, lw_tb (heap_set _ l.D) ?_ ?_ ?_ ?_⟩
  · exact (Below.heap_setCell _ _ _ _ (by show B + 2 ≠ B + 1; omega)).trans l.R
  · exact (Below.heap_setCell _ _ _ _ (by show B + 4 ≠ B + 1; omega)).trans l.C
  · exact (Below.heap_setCell _ _ _ _ (by show B + 5 ≠ B + 1; omega)).trans l.G
  · exact (Below.heap_setCell _ _ _ _ (by show B + 6 ≠ B + 1; omega)).trans l.S
theorem spoilK {V V2 : World} {B b8 : Nat} (l : LsB V B) (x : V.heap[b8]? = some (.cells (lsT B).vals 27 (0, 0))) (hne : B + 6 < b8) (e : V.setCell ⟨B + 5, 2, none⟩ (.int .u16 0) = V2) :
    V2.heap[b8]? = some (.cells (lsK B).vals 27 (0, 0)) ∧ TbL V2 (lsK B) := by
  subst e
  refine ⟨(Below.heap_setCell _ _ _ _ (by show b8 ≠ B + 5; omega)).trans x, lk_tb ?_ ?_ ?_ (heap_set _ l.G) ?_⟩
  · exact (Below.heap_setCell _ _ _ _ (by show B + 1 ≠ B + 5; omega)).trans l.D
  · exact (Below.heap_setCell _ _ _ _ (by show B + 2 ≠ B + 5; omega)).trans l.R
  · exact (Below.heap_setCell _ _ _ _ (by show B + 4 ≠ B + 5; omega)).trans l.C
  · exact (Below.heap_setCell _ _ _ _ (by show B + 6 ≠ B + 5; omega)).trans l.S
set_option maxRecDepth 100000 in
set_option maxHeartbeats 4000000 in
theorem awake_any (w : World) (htb : Tab w) : Calls Tryz.prog 4 #[] w fun e w' => e = .returned (.bool true) ∧ Below w.heap.size w w' := by
  have HT : Hid (Tab w) := htb
  clear htb
  go_enter Tryz.func4, Tryz.ntmps4
  go_wp2_with fail
  refine (least_any w).mono ?_
  rintro e w1 ⟨rfl, l1, b1⟩
  have HT1 : Hid (Tab w1) := HT.out.on b1
  have HB1 : Hid (Below w.heap.size w w1) := b1
  have cC := check_any (lsT w.heap.size) w1 l1.tb HT1.out
  rw [ls_check] at cC
  clear l1 b1
  go_wp2_with fail
  refine cC.mono ?_
  rintro e w2 ⟨rfl, b2⟩
  have HT2 : Hid (Tab w2) := HT1.out.on b2
  have HB2 : Hid (Below w.heap.size w w2) := below2 HB1.out b2
  clear cC b2 HT1 HB1
  go_wp2_with fail
  refine (least_any w2).mono ?_
  rintro e w3 ⟨rfl, l3, b3⟩
  have HT3 : Hid (Tab w3) := HT2.out.on b3
  have HB3 : Hid (Below w.heap.size w w3) := below2 HB2.out b3
  have cE := encode_any (lsT w2.heap.size) w3 l3.tb HT3.out
  rw [ls_encE] at cE
  clear l3 b3 HT2 HB2
  have HSZ : Hid ((encS (lsT w2.heap.size)).size = 27) := ls_size _
  have cD := fun v h => decode_least w2.heap.size v h
  have HCD : Hid (∀ v, Tab v → Calls Tryz.prog 5 #[.string (encS (lsT w2.heap.size))] v fun e w' => ∃ t nb, e = .returned (.tuple #[.agg t.vals, .int .i64 0]) ∧ Bxs v w' t nb ∧ (∀ C, SameT t (lsT C)) ∧ Below v.heap.size v w') := cD
  clear cD
  generalize encS (lsT w2.heap.size) = Z at cE HSZ HCD
  go_wp2_with fail
  refine cE.mono ?_
  rintro e w4 ⟨rfl, b4⟩
  have HT4 : Hid (Tab w4) := HT3.out.on b4
  have HB4 : Hid (Below w.heap.size w w4) := below2 HB3.out b4
  clear cE b4 HT3 HB3
  go_wp2_with fail
  refine (HCD.out w4 HT4.out).mono ?_
  rintro e w5 ⟨t, nb, rfl, hx, hS, b5⟩
  have HS : Hid (∀ C, SameT t (lsT C)) := hS
  have HZ : Hid ((w5.alloc (.cells tb0 27)).heap[w5.heap.size]? = some (.cells tb0 27 (0, 0))) := heap_new _ _
  have hq : Below w5.heap.size w5 ((w5.alloc (.cells tb0 27)).setRow w5.heap.size t.vals) := below_row (below_new _ _) (Nat.le_refl _) _
  have HX : Hid (((w5.alloc (.cells tb0 27)).setRow w5.heap.size t.vals).heap[w5.heap.size]? = some (.cells t.vals 27 (0, 0))) := setRow_heap _ _ _ _ _ _ HZ.out
  have HL : Hid (TbL ((w5.alloc (.cells tb0 27)).setRow w5.heap.size t.vals) t) := hx.1 _ (fun b hb => (hq.block _ (hp_lt (hx.2 b hb).1)).trans (hx.2 b hb).1)
  have HT5 : Hid (Tab ((w5.alloc (.cells tb0 27)).setRow w5.heap.size t.vals)) := (HT4.out.on b5).on hq
  have HB5 : Hid (Below w.heap.size w ((w5.alloc (.cells tb0 27)).setRow w5.heap.size t.vals)) := below2 (below2 HB4.out b5) hq
  clear hx hS b5 HT4 HB4 HCD hq
  go_wp2_with (refine wpList_store_row rfl 27 (.tmp 4) (.tmp 25) rfl w5.heap.size t.vals rfl rfl 27 tb0 HZ.out size26' rfl (allTb t) ?_)
  have E5 : (w5.alloc (.cells #[.string ⟨#[]⟩, .slice none 0 0, .int .i64 0, .slice none 0 0, .slice none 0 0, .slice none 0 0] 27)) = (w5.alloc (.cells tb0 27)) := rfl
  rw [E5]
  clear E5 HZ
  generalize World.setRow _ _ _ = V5 at HX HL HT5 HB5 ⊢
  generalize w5.heap.size = b4 at HX ⊢
  try clear w5
  refine (least_any V5).mono ?_
  rintro e w6 ⟨rfl, l6, b6⟩
  have cB := bound_any (lsT V5.heap.size) w6 l6.tb (HT5.out.on b6)
  rw [ls_bound, ls_check] at cB
  have HB6 : Hid (Below V5.heap.size V5 w6) := b6
  clear l6 b6
  unfold coV at cB
  go_wp2_with fail
  refine cB.mono ?_
  rintro e w7 ⟨rfl, b7⟩
  have hb7 := below2 HB6.out b7
  clear cB b7 HB6
  have HZ : Hid ((w7.alloc (.cells #[.int .i64 0, .int .i64 0] 37)).heap[w7.heap.size]? = some (.cells #[.int .i64 0, .int .i64 0] 37 (0, 0))) := heap_new _ _
  have hq : Below w7.heap.size w7 ((w7.alloc (.cells #[.int .i64 0, .int .i64 0] 37)).setRow w7.heap.size #[.int .i64 4, .int .i64 0]) := below_row (below_new _ _) (Nat.le_refl _) _
  have HY : Hid (((w7.alloc (.cells #[.int .i64 0, .int .i64 0] 37)).setRow w7.heap.size #[.int .i64 4, .int .i64 0]).heap[w7.heap.size]? = some (.cells #[.int .i64 4, .int .i64 0] 37 (0, 0))) := setRow_heap _ _ _ _ _ _ HZ.out
  have HB8 : Hid (Below V5.heap.size V5 ((w7.alloc (.cells #[.int .i64 0, .int .i64 0] 37)).setRow w7.heap.size #[.int .i64 4, .int .i64 0])) := below2 hb7 hq
  clear hb7 hq
  go_wp2_with (refine wpList_store_row rfl 37 (.tmp 6) (.tmp 30) rfl w7.heap.size #[.int .i64 4, .int .i64 0] rfl rfl 37 #[.int .i64 0, .int .i64 0] HZ.out size34' rfl (by simp [Value.oneCell']) ?_)
  clear HZ
  generalize World.setRow _ _ _ = V6 at HY HB8 ⊢
  generalize w7.heap.size = b6 at HY ⊢
  try clear w7
  have HT6 : Hid (Tab V6) := HT5.out.on HB8.out
  have HL6 : Hid (TbL V6 t) := HL.out.on HB8.out
  have HX6 : Hid (V6.heap[b4]? = some (.cells t.vals 27 (0, 0))) := (HB8.out.block _ (hp_lt HX.out)).trans HX.out
  have HB6 : Hid (Below w.heap.size w V6) := below2 HB5.out HB8.out
  clear HT5 HL HX HB5 HB8
  try clear V5
  refine (least_any V6).mono ?_
  rintro e w8 ⟨rfl, l8, b8⟩
  obtain ⟨y1, y2, y3, y4⟩ := boxed l8 b8 rfl
  have HZ : Hid ((w8.alloc (.cells tb0 27)).heap[w8.heap.size]? = some (.cells tb0 27 (0, 0))) := heap_new _ _
  have HV : Hid (((w8.alloc (.cells tb0 27)).setRow w8.heap.size (lsT V6.heap.size).vals).heap[w8.heap.size]? = some (.cells (lsT V6.heap.size).vals 27 (0, 0)) ∧ LsB ((w8.alloc (.cells tb0 27)).setRow w8.heap.size (lsT V6.heap.size).vals) V6.heap.size ∧ Below V6.heap.size V6 ((w8.alloc (.cells tb0 27)).setRow w8.heap.size (lsT V6.heap.size).vals) ∧ V6.heap.size + 6 < w8.heap.size) := ⟨y1, y2, y3, y4⟩
  clear y1 y2 y3 y4 l8 b8
  go_upto_region 6 with (refine wpList_store_row rfl 27 (.tmp 8) (.tmp 32) rfl w8.heap.size (lsT V6.heap.size).vals rfl rfl 27 tb0 HZ.out size26' rfl (allTb _) ?_)
  have E5 : (w8.alloc (.cells #[.string ⟨#[]⟩, .slice none 0 0, .int .i64 0, .slice none 0 0, .slice none 0 0, .slice none 0 0] 27)) = (w8.alloc (.cells tb0 27)) := rfl
  rw [E5]
  clear E5 HZ
  generalize World.setRow _ _ _ = V8 at HV ⊢
  generalize w8.heap.size = b8 at HV ⊢
  try clear w8
  have c4 : V8.cell? ⟨b8, 4, none⟩ = some (.slice (some ⟨V6.heap.size + 1, 0, none⟩) 4 4) := (cell_of HV.out.1 4).trans rfl
  have c7 : V8.cell? ⟨V6.heap.size + 1, 7, none⟩ = some (.int .i64 2) := (cell_of HV.out.2.1.D 7).trans rfl
  have f7 : V8.frozen? ⟨V6.heap.size + 1, 7, none⟩ = false := frozen_of HV.out.2.1.D 7
  go_upto_region 7 with fail
  clear c4 c7 f7
  obtain ⟨z1, z2⟩ := spoilW HV.out.2.1 HV.out.1 HV.out.2.2.2 rfl
  have HB9 : Hid (Below V6.heap.size V6 (V8.setCell ⟨V6.heap.size + 1, 7, none⟩ (.int .i64 6))) := HV.out.2.2.1.setCell (by show V6.heap.size ≤ V6.heap.size + 1; omega) _
  have HX9 : Hid ((V8.setCell ⟨V6.heap.size + 1, 7, none⟩ (.int .i64 6)).heap[b8]? = some (.cells (lsW V6.heap.size).vals 27 (0, 0))) := z1
  have HL9 : Hid (TbL (V8.setCell ⟨V6.heap.size + 1, 7, none⟩ (.int .i64 6)) (lsW V6.heap.size)) := z2
  clear z1 z2 HV
  generalize World.setCell _ _ _ = V9 at HB9 HX9 HL9 ⊢
  try clear V8
  have cW := check_any (lsW V6.heap.size) V9 HL9.out (HT6.out.on HB9.out)
  rw [lw_check] at cW
  go_wp2_with (refine wpList_load_row rfl 27 (.tmp 8) rfl b8 rfl 27 (lsW V6.heap.size).vals (0, 0) _ HX9.out Tryz.underlying27 rfl size26' ?_)
  refine cW.mono ?_
  rintro e wA ⟨rfl, bA⟩
  have HBA : Hid (Below V6.heap.size V6 wA) := below2 HB9.out bA
  clear cW bA HB9 HX9 HL9
  go_wp2_with fail
  refine (least_any wA).mono ?_
  rintro e wB ⟨rfl, lB, bB⟩
  obtain ⟨y1, y2, y3, y4⟩ := boxed lB bB rfl
  have HZ : Hid ((wB.alloc (.cells tb0 27)).heap[wB.heap.size]? = some (.cells tb0 27 (0, 0))) := heap_new _ _
  have HV : Hid (((wB.alloc (.cells tb0 27)).setRow wB.heap.size (lsT wA.heap.size).vals).heap[wB.heap.size]? = some (.cells (lsT wA.heap.size).vals 27 (0, 0)) ∧ LsB ((wB.alloc (.cells tb0 27)).setRow wB.heap.size (lsT wA.heap.size).vals) wA.heap.size ∧ Below wA.heap.size wA ((wB.alloc (.cells tb0 27)).setRow wB.heap.size (lsT wA.heap.size).vals) ∧ wA.heap.size + 6 < wB.heap.size) := ⟨y1, y2, y3, y4⟩
  clear y1 y2 y3 y4 lB bB
  go_upto_region 9 with (refine wpList_store_row rfl 27 (.tmp 10) (.tmp 39) rfl wB.heap.size (lsT wA.heap.size).vals rfl rfl 27 tb0 HZ.out size26' rfl (allTb _) ?_)
  have E5 : (wB.alloc (.cells #[.string ⟨#[]⟩, .slice none 0 0, .int .i64 0, .slice none 0 0, .slice none 0 0, .slice none 0 0] 27)) = (wB.alloc (.cells tb0 27)) := rfl
  rw [E5]
  clear E5 HZ
  generalize World.setRow _ _ _ = VB at HV ⊢
  generalize wB.heap.size = bB at HV ⊢
  try clear wB
  have c5 : VB.cell? ⟨bB, 5, none⟩ = some (.slice (some ⟨wA.heap.size + 6, 0, none⟩) 1 1) := (cell_of HV.out.1 5).trans rfl
  have c6 : VB.cell? ⟨wA.heap.size + 6, 0, none⟩ = some (.slice (some ⟨wA.heap.size + 5, 0, none⟩) 1 1) := (cell_of HV.out.2.1.S 0).trans rfl
  have c7 : VB.cell? ⟨wA.heap.size + 5, 2, none⟩ = some (.int .u16 2) := (cell_of HV.out.2.1.G 2).trans rfl
  have f7 : VB.frozen? ⟨wA.heap.size + 5, 2, none⟩ = false := frozen_of HV.out.2.1.G 2
  go_upto_region 10 with fail
  clear c5 c6 c7 f7
  obtain ⟨z1, z2⟩ := spoilK HV.out.2.1 HV.out.1 HV.out.2.2.2 rfl
  have HB9 : Hid (Below wA.heap.size wA (VB.setCell ⟨wA.heap.size + 5, 2, none⟩ (.int .u16 0))) := HV.out.2.2.1.setCell (by show wA.heap.size ≤ wA.heap.size + 5; omega) _
  have HX9 : Hid ((VB.setCell ⟨wA.heap.size + 5, 2, none⟩ (.int .u16 0)).heap[bB]? = some (.cells (lsK wA.heap.size).vals 27 (0, 0))) := z1
  have HL9 : Hid (TbL (VB.setCell ⟨wA.heap.size + 5, 2, none⟩ (.int .u16 0)) (lsK wA.heap.size)) := z2
  clear z1 z2 HV
  generalize World.setCell _ _ _ = VC at HB9 HX9 HL9 ⊢
  try clear VB
  have cW := check_any (lsK wA.heap.size) VC HL9.out ((HT6.out.on HBA.out).on HB9.out)
  rw [lk_check] at cW
  go_wp2_with (refine wpList_load_row rfl 27 (.tmp 10) rfl bB rfl 27 (lsK wA.heap.size).vals (0, 0) _ HX9.out Tryz.underlying27 rfl size26' ?_)
  refine cW.mono ?_
  rintro e wC ⟨rfl, bC⟩
  have HBC : Hid (Below V6.heap.size V6 wC) := below2 (below2 HBA.out HB9.out) bC
  clear cW bC HB9 HX9 HL9 HBA
  go_wp2_with fail
  refine (least_any wC).mono ?_
  rintro e wD ⟨rfl, lD, bD⟩
  have cR := reads_any (lsT wC.heap.size) ⟨0, 9⟩ wD lD.tb
  rw [ls_reads] at cR
  unfold Sp.vals at cR
  have HBD : Hid (Below V6.heap.size V6 wD) := below2 HBC.out bD
  clear lD bD HBC
  go_wp2_with fail
  refine cR.mono ?_
  rintro e wE ⟨rfl, bE⟩
  have HBE : Hid (Below V6.heap.size V6 wE) := below2 HBD.out bE
  clear cR bE HBD
  go_upto_region 12 with fail
  have HFA : Hid (∀ v : World, Below wE.heap.size wE v → v.heap[b4]? = some (.cells t.vals 27 (0, 0))) := fun v hv => ((below2 HBE.out hv).block _ (hp_lt HX6.out)).trans HX6.out
  refine wp_region_held_drew (S := fun v => Below wE.heap.size wE v) (by kernel_rfl) ⟨rfl, rfl, rfl, Nat.le_refl _, fun _ _ => rfl⟩ (fun hHeld => ?_)
  refine wpAnyH_take (i := 0) (v := .agg t.vals) rfl (by kernel_rfl) (by kernel_rfl) (by kernel_rfl) (fun _ _ _ h => h) (yl_row (by rfl) 27 (.tmp 4) rfl b4 rfl 27 t.vals (0, 0) _ HFA.out Tryz.underlying27 rfl size26') (by assumption) ?_
  try simp [Act.put]
  refine wpAnyH_ready (rs := [1]) (by kernel_rfl) (by simp) ?_
  refine AllReadyH.cons rfl (fun K hK => ?_) AllReadyH.nil
  go_simp
  refine (least_any wE.drew).mono ?_
  rintro e wF ⟨rfl, lF, bF⟩
  have hBF : Below wE.heap.size wE wF := ⟨bF.os, bF.tape, bF.output, bF.size, bF.block⟩
  refine hK.out _ _ hBF (fun hHeld => ?_)
  have HBF : Hid (Below V6.heap.size V6 wF) := below2 HBE.out hBF
  have hBF' := hBF
  clear hK K hBF bF
  try simp [Act.put]
  refine wpAnyH_ready (rs := [2]) (by kernel_rfl) (by simp) ?_
  refine AllReadyH.cons rfl (fun K hK => ?_) AllReadyH.nil
  go_simp
  refine (sameTable_any t _ wF (HL6.out.on HBF.out) lF.tb).mono ?_
  rintro e wG ⟨b, rfl, hb, bG⟩
  obtain rfl : b = true := hb.2 (HS.out _)
  have HBG : Hid (Below V6.heap.size V6 wG) := below2 HBF.out bG
  refine hK.out _ _ (below2 hBF' bG) (fun hHeld => ?_)
  clear hK K bG hb lF hBF'
  try simp [Act.put]
  refine wpAnyH_take (i := 3) (v := ?_) rfl (by kernel_rfl) (by kernel_rfl) (by kernel_rfl) (fun _ _ _ h => h) (Or.inl ⟨by rfl, ?_⟩) (by assumption) ?_
  rotate_left
  · (intro v hv; go_simp; try (with_reducible rfl))
  try simp [Act.put]
  refine wpAnyH_done (by kernel_rfl) ?_ _
  have c0 : wG.cell? ⟨b6, 0, none⟩ = some (.int .i64 4) := cell_on (cell_of HY.out 0) HBG.out
  have c1 : wG.cell? ⟨b6, 1, none⟩ = some (.int .i64 0) := cell_on (cell_of HY.out 1) HBG.out
  have hsz : Z.size = 27 := HSZ.out
  have hsz' : (Z.size : Int) = 27 := by rw [hsz]; rfl
  go_wp2_with fail
  go_ret
  exact ⟨rfl, below2 HB6.out HBG.out⟩
end Go.Proofs.YteedmmljahgpjabGreatDoor
