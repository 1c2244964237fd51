/-
  The document's SameTable, walked.
-/
import Derived.Test.YteedmmljahgpjabDoorM22
namespace Go.Proofs.YteedmmljahgpjabDoor
open Go.RowKit
set_option linter.unusedVariables false
set_option linter.unusedSimpArgs false
def SameS (x y : StM) : Prop := x.gs.length = y.gs.length ∧ ∀ j (h3 : j < x.gs.length) (h4 : j < y.gs.length), SameG x.gs[j] y.gs[j]
def SameI (t u : List StM) (n : Nat) : Prop := ∀ i (h1 : i < t.length) (h2 : i < u.length), i < n → SameS t[i] u[i]
def SameT (t u : TbM) : Prop := t.x = u.x ∧ t.sl = u.sl ∧ t.rs = u.rs ∧ t.cs = u.cs ∧ t.ds = u.ds ∧ t.ts.length = u.ts.length ∧ SameI t.ts u.ts t.ts.length
set_option maxRecDepth 100000 in
theorem eq61 (x y : InM) (w : World) : (Op.equalIn 10000 44 (.agg x.vals) (.agg y.vals)).run Tryd.prog w = .ok (x.k == y.k && x.a == y.a) w := by
  rw [run_equalIn_struct _ 9999 44 _ _ (by kernel_rfl) (by kernel_rfl)]
  simp only [Program.fieldsOf, Tryd.underlying44]
  rw [eqF_cons (a := .int .u8 x.k) (b := .int .u8 y.k) (r := x.k == y.k) (by decide) (by kernel_rfl) (by kernel_rfl) (by kernel_rfl)]
  rw [eqF_cons (a := .int .i64 x.a) (b := .int .i64 y.a) (r := x.a == y.a) (by decide) (by kernel_rfl) (by kernel_rfl) (by kernel_rfl), eqF_nil]
  cases x.k == y.k <;> cases x.a == y.a <;> rfl
theorem in_eq (x y : InM) : ∃ b, (b = true ↔ x = y) ∧ ∀ w, (Op.equalIn 10000 44 (.agg x.vals) (.agg y.vals)).run Tryd.prog w = .ok b w := by
  refine ⟨_, ?_, fun w => eq61 _ _ _⟩
  obtain ⟨a1, a2⟩ := x
  obtain ⟨b1, b2⟩ := y
  simp only [InM.mk.injEq, Bool.and_eq_true, beq_iff_eq]
theorem cell_on {w w' : World} {a : Addr} {v : Value} (h : w.cell? a = some v) (k : Below w.heap.size w w') : w'.cell? a = some v := by
  rw [World.cell?_of_block (k.block _ (World.block_lt_of_cell? w _ h))]; exact h
theorem els_at {α : Type} {f : α → Array Value} {n : Nat} (hf : ∀ a, (f a).size = n) {w : World} {a : Option Addr} {c : Nat} {rs : List α} (h : SlAt w n a c (rs.map f)) (i : Nat) (hi : i < rs.length) : ∃ b o, a = some ⟨b, o, none⟩ ∧ w.rangeAt b (o + i * n) (f rs[i]).toList := by
  obtain ⟨bb, o, ea, hat⟩ := h.2.2 i (by rw [List.length_map]; exact hi)
  simp only [List.getElem_map] at hat
  refine ⟨bb, o, ea, fun j v hv => ?_⟩
  have hj : j < n := by have := (List.getElem?_eq_some_iff.1 hv).1; rw [Array.length_toList, hf] at this; exact this
  rw [hat j hj, ← hv]; simp
set_option maxRecDepth 100000 in
set_option maxHeartbeats 16000000 in
theorem sameTable_any (t u : TbM) (w : World) (hg : TbL w t) (hh : TbL w u) : Calls Tryd.prog 12 #[.agg t.vals, .agg u.vals] w (OutE (SameT t u) w) := by
  have hn1 : ((w.alloc (.cells t.vals 26)).alloc (.cells u.vals 26)).heap[w.heap.size]? = some (.cells t.vals 26 (0, 0)) := by rw [al_get, if_neg (by simp)]; exact heap_new _ _
  have hn2 : ((w.alloc (.cells t.vals 26)).alloc (.cells u.vals 26)).heap[w.heap.size + 1]? = some (.cells u.vals 26 (0, 0)) := by rw [← size_alloc w (.cells t.vals 26)]; exact heap_new _ _
  have hb1 : Below w.heap.size w ((w.alloc (.cells t.vals 26)).alloc (.cells u.vals 26)) := below2 (below_new _ _) (below_new _ _)
  obtain ⟨W1, e1⟩ : ∃ W, (w.alloc (.cells t.vals 26)).alloc (.cells u.vals 26) = W := ⟨_, rfl⟩
  have E1 : Hid ((w.alloc (.cells t.vals 26)).alloc (.cells u.vals 26) = W1) := e1
  rw [e1] at hn1 hn2 hb1
  have HB : Hid (Below w.heap.size w W1) := hb1
  have HG : Hid (TbL W1 t) := hg.on hb1
  have HH : Hid (TbL W1 u) := hh.on hb1
  have HN1 : Hid (W1.heap[w.heap.size]? = some (.cells t.vals 26 (0, 0))) := hn1
  have HN2 : Hid (W1.heap[w.heap.size + 1]? = some (.cells u.vals 26 (0, 0))) := hn2
  have c0 : W1.cell? ⟨w.heap.size, 0, none⟩ = some (.string t.x) := cell_of hn1 0
  have c1 : W1.cell? ⟨w.heap.size, 1, none⟩ = some (.slice t.ra t.rs.length t.rc) := cell_of hn1 1
  have c2 : W1.cell? ⟨w.heap.size, 2, none⟩ = some (.int .i64 t.sl) := cell_of hn1 2
  have c3 : W1.cell? ⟨w.heap.size, 3, none⟩ = some (.slice t.ca t.cs.length t.cc) := cell_of hn1 3
  have c4 : W1.cell? ⟨w.heap.size, 4, none⟩ = some (.slice t.da t.ds.length t.dc) := cell_of hn1 4
  have c5 : W1.cell? ⟨w.heap.size, 5, none⟩ = some (.slice t.ta t.ts.length t.tc) := cell_of hn1 5
  have d0 : W1.cell? ⟨w.heap.size + 1, 0, none⟩ = some (.string u.x) := cell_of hn2 0
  have d1 : W1.cell? ⟨w.heap.size + 1, 1, none⟩ = some (.slice u.ra u.rs.length u.rc) := cell_of hn2 1
  have d2 : W1.cell? ⟨w.heap.size + 1, 2, none⟩ = some (.int .i64 u.sl) := cell_of hn2 2
  have d3 : W1.cell? ⟨w.heap.size + 1, 3, none⟩ = some (.slice u.ca u.cs.length u.cc) := cell_of hn2 3
  have d4 : W1.cell? ⟨w.heap.size + 1, 4, none⟩ = some (.slice u.da u.ds.length u.dc) := cell_of hn2 4
  have d5 : W1.cell? ⟨w.heap.size + 1, 5, none⟩ = some (.slice u.ta u.ts.length u.tc) := cell_of hn2 5
  clear hn1 hn2 e1 hb1 hg hh
  go_enter Tryd.func12, Tryd.ntmps12
  go_upto_region 1 with fail
  rw [E1.out]
  clear E1
  go_wp2_with fail
  · rename_i hx
    go_ret
    exact ⟨false, rfl, ⟨fun e => (by cases e), fun k => by rw [k.2.2.2.2.2.1] at hx; simp at hx⟩, HB.out⟩
  · clear c0 c1 c2 c3 c4 c5 d0 d1 d2 d3 d4 d5
    rename_i q0 q1 q2 q3 q4 hx _ _
    have HX : Hid (t.x = u.x) := str_eq (by simpa [ByteArray.toList_eq] using q0)
    have HSL : Hid (t.sl = u.sl) := q1
    have HL0 : Hid (t.rs.length = u.rs.length) := by show _ = _; omega
    have HL1 : Hid (t.cs.length = u.cs.length) := by show _ = _; omega
    have HL2 : Hid (t.ds.length = u.ds.length) := by show _ = _; omega
    have HL3 : Hid (t.ts.length = u.ts.length) := by show _ = _; have h9 := hx; simp at h9; omega
    clear q0 q1 q2 q3 q4 hx
    have HBR0 : Hid (Below W1.heap.size W1 W1) := Below.refl _ _
    go_loopw [5] (fun q wr => ∃ (i : Nat), i ≤ t.rs.length ∧ q = .int .i64 i ∧ Hid (Below W1.heap.size W1 wr) ∧ Hid (t.rs.take i = u.rs.take i)) (fun q _ => t.rs.length - (intOf q).toNat)
    case atStart => exact ⟨0, by omega, rfl, HBR0, rfl⟩
    case round =>
      clear HBR0
      obtain ⟨i, hi, rfl, HBR1, HTR⟩ := hrel
      have c1 : wr.cell? ⟨w.heap.size, 1, none⟩ = some (.slice t.ra t.rs.length t.rc) := cell_of ((HBR1.out.block _ (Array.getElem?_eq_some_iff.1 HN1.out).1).trans HN1.out) 1
      have d1 : wr.cell? ⟨w.heap.size + 1, 1, none⟩ = some (.slice u.ra u.rs.length u.rc) := cell_of ((HBR1.out.block _ (Array.getElem?_eq_some_iff.1 HN2.out).1).trans HN2.out) 1
      by_cases hlt : i < t.rs.length
      · have hlt' : (i : Int) < (t.rs.length : Int) := by omega
        have hlh : i < u.rs.length := by have := HL0.out; omega
        have hlh' : (i : Int) < (u.rs.length : Int) := by omega
        have hmx : (i : Int) + 1 ≤ 9223372036854775807 := by have h1 := HG.out.R.1; have h2 := HG.out.R.2.1; rw [List.length_map] at h1; omega
        obtain ⟨b1, o1, ea, r1⟩ := els_at nvals_sz (HG.out.R.on (mapz nvals_sz _) HBR1.out) i hlt
        obtain ⟨b2, o2, eb, r2⟩ := els_at nvals_sz (HH.out.R.on (mapz nvals_sz _) HBR1.out) i hlh
        have HS : Hid (t.rs[i] = u.rs[i] → t.rs.take (i + 1) = u.rs.take (i + 1)) := fun e => by
          rw [List.take_succ_eq_append_getElem hlt, List.take_succ_eq_append_getElem hlh, HTR.out, e]
        have HF : Hid (¬ t.rs[i] = u.rs[i] → ¬ SameT t u) := fun e k => e (by have := k.2.2.1; simp only [this])
        obtain ⟨x, ex⟩ : ∃ x, t.rs[i] = x := ⟨_, rfl⟩
        obtain ⟨y, ey⟩ : ∃ y, u.rs[i] = y := ⟨_, rfl⟩
        rw [ex] at r1 HS HF
        rw [ey] at r2 HS HF
        clear ex ey HTR
        rw [ea] at c1
        rw [eb] at d1
        clear ea eb
        have HD : Hid (∀ n, Below W1.heap.size W1 (wr.drewN n)) := fun n => below_d HBR1.out n
        clear HBR1
        have x0 : wr.cell? ⟨b1, o1 + i, none⟩ = some (.int .i64 x) := by have := r1 0 _ rfl; rw [Nat.mul_one, Nat.add_zero] at this; exact this
        have y0 : wr.cell? ⟨b2, o2 + i, none⟩ = some (.int .i64 y) := by have := r2 0 _ rfl; rw [Nat.mul_one, Nat.add_zero] at this; exact this
        clear r1 r2
        by_cases hxy : x = y
        · subst hxy
          go_wp2_with fail
          go_quiet (fail)
          go_wp2_with fail
          exact ⟨⟨i + 1, hlt, rfl, HD.out _, HS.out (by first | rfl | trivial)⟩, by simp only [intOf]; omega⟩
        · have hb1 : (x == y) = false := by simp [hxy]
          have hb2 : (x != y) = true := by simp [hxy]
          go_wp2_with fail
          go_quiet (fail)
          go_wp2_with fail
          go_ret
          exact ⟨false, rfl, ⟨fun e => (by cases e), fun k => absurd k (HF.out hxy)⟩, below2 HB.out (HD.out _)⟩
      · obtain rfl : i = t.rs.length := by omega
        have hnot : ¬ (t.rs.length : Int) < (t.rs.length : Int) := by omega
        have HE0 : Hid (t.rs = u.rs) := by
          have h9 := HTR.out
          rw [List.take_length, HL0.out, List.take_length] at h9
          exact h9
        go_wp2_with fail
        clear c1 d1 HTR hi hnot
        go_loopw [6] (fun q wr => ∃ (i : Nat), i ≤ t.cs.length ∧ q = .int .i64 i ∧ Hid (Below W1.heap.size W1 wr) ∧ Hid (t.cs.take i = u.cs.take i)) (fun q _ => t.cs.length - (intOf q).toNat)
        case atStart => exact ⟨0, by omega, rfl, HBR1, rfl⟩
        case round =>
          clear HBR1
          obtain ⟨i, hi, rfl, HBR2, HTR⟩ := hrel
          have c3 : wr.cell? ⟨w.heap.size, 3, none⟩ = some (.slice t.ca t.cs.length t.cc) := cell_of ((HBR2.out.block _ (Array.getElem?_eq_some_iff.1 HN1.out).1).trans HN1.out) 3
          have d3 : wr.cell? ⟨w.heap.size + 1, 3, none⟩ = some (.slice u.ca u.cs.length u.cc) := cell_of ((HBR2.out.block _ (Array.getElem?_eq_some_iff.1 HN2.out).1).trans HN2.out) 3
          by_cases hlt : i < t.cs.length
          · have hlt' : (i : Int) < (t.cs.length : Int) := by omega
            have hlh : i < u.cs.length := by have := HL1.out; omega
            have hlh' : (i : Int) < (u.cs.length : Int) := by omega
            have hmx : (i : Int) + 1 ≤ 9223372036854775807 := by have h1 := HG.out.C.1; have h2 := HG.out.C.2.1; rw [List.length_map] at h1; omega
            obtain ⟨b1, o1, ea, r1⟩ := els_at nvals_sz (HG.out.C.on (mapz nvals_sz _) HBR2.out) i hlt
            obtain ⟨b2, o2, eb, r2⟩ := els_at nvals_sz (HH.out.C.on (mapz nvals_sz _) HBR2.out) i hlh
            have HS : Hid (t.cs[i] = u.cs[i] → t.cs.take (i + 1) = u.cs.take (i + 1)) := fun e => by
              rw [List.take_succ_eq_append_getElem hlt, List.take_succ_eq_append_getElem hlh, HTR.out, e]
            have HF : Hid (¬ t.cs[i] = u.cs[i] → ¬ SameT t u) := fun e k => e (by have := k.2.2.2.1; simp only [this])
            obtain ⟨x, ex⟩ : ∃ x, t.cs[i] = x := ⟨_, rfl⟩
            obtain ⟨y, ey⟩ : ∃ y, u.cs[i] = y := ⟨_, rfl⟩
            rw [ex] at r1 HS HF
            rw [ey] at r2 HS HF
            clear ex ey HTR
            rw [ea] at c3
            rw [eb] at d3
            clear ea eb
            have HD : Hid (∀ n, Below W1.heap.size W1 (wr.drewN n)) := fun n => below_d HBR2.out n
            clear HBR2
            have x0 : wr.cell? ⟨b1, o1 + i, none⟩ = some (.int .i64 x) := by have := r1 0 _ rfl; rw [Nat.mul_one, Nat.add_zero] at this; exact this
            have y0 : wr.cell? ⟨b2, o2 + i, none⟩ = some (.int .i64 y) := by have := r2 0 _ rfl; rw [Nat.mul_one, Nat.add_zero] at this; exact this
            clear r1 r2
            by_cases hxy : x = y
            · subst hxy
              go_wp2_with fail
              go_quiet (fail)
              go_wp2_with fail
              exact ⟨⟨i + 1, hlt, rfl, HD.out _, HS.out (by first | rfl | trivial)⟩, by simp only [intOf]; omega⟩
            · have hb1 : (x == y) = false := by simp [hxy]
              have hb2 : (x != y) = true := by simp [hxy]
              go_wp2_with fail
              go_quiet (fail)
              go_wp2_with fail
              go_ret
              exact ⟨false, rfl, ⟨fun e => (by cases e), fun k => absurd k (HF.out hxy)⟩, below2 HB.out (HD.out _)⟩
          · obtain rfl : i = t.cs.length := by omega
            have hnot : ¬ (t.cs.length : Int) < (t.cs.length : Int) := by omega
            have HE1 : Hid (t.cs = u.cs) := by
              have h9 := HTR.out
              rw [List.take_length, HL1.out, List.take_length] at h9
              exact h9
            go_wp2_with fail
            clear c3 d3 HTR hi hnot
            go_loopw [7] (fun q wr => ∃ (i : Nat), i ≤ t.ds.length ∧ q = .int .i64 i ∧ Hid (Below W1.heap.size W1 wr) ∧ Hid (t.ds.take i = u.ds.take i)) (fun q _ => t.ds.length - (intOf q).toNat)
            case atStart => exact ⟨0, by omega, rfl, HBR2, rfl⟩
            case round =>
              clear HBR2
              obtain ⟨i, hi, rfl, HBR3, HTR⟩ := hrel
              have c4 : wr.cell? ⟨w.heap.size, 4, none⟩ = some (.slice t.da t.ds.length t.dc) := cell_of ((HBR3.out.block _ (Array.getElem?_eq_some_iff.1 HN1.out).1).trans HN1.out) 4
              have d4 : wr.cell? ⟨w.heap.size + 1, 4, none⟩ = some (.slice u.da u.ds.length u.dc) := cell_of ((HBR3.out.block _ (Array.getElem?_eq_some_iff.1 HN2.out).1).trans HN2.out) 4
              by_cases hlt : i < t.ds.length
              · have hlt' : (i : Int) < (t.ds.length : Int) := by omega
                have hlh : i < u.ds.length := by have := HL2.out; omega
                have hlh' : (i : Int) < (u.ds.length : Int) := by omega
                have hmx : (i : Int) + 1 ≤ 9223372036854775807 := by have h1 := HG.out.D.1; have h2 := HG.out.D.2.1; rw [List.length_map] at h1; omega
                obtain ⟨b1, o1, ea, r1⟩ := els_at InM.sz (HG.out.D.on (mapz InM.sz _) HBR3.out) i hlt
                obtain ⟨b2, o2, eb, r2⟩ := els_at InM.sz (HH.out.D.on (mapz InM.sz _) HBR3.out) i hlh
                have HS : Hid (t.ds[i] = u.ds[i] → t.ds.take (i + 1) = u.ds.take (i + 1)) := fun e => by
                  rw [List.take_succ_eq_append_getElem hlt, List.take_succ_eq_append_getElem hlh, HTR.out, e]
                have HF : Hid (¬ t.ds[i] = u.ds[i] → ¬ SameT t u) := fun e k => e (by have := k.2.2.2.2.1; simp only [this])
                obtain ⟨x, ex⟩ : ∃ x, t.ds[i] = x := ⟨_, rfl⟩
                obtain ⟨y, ey⟩ : ∃ y, u.ds[i] = y := ⟨_, rfl⟩
                rw [ex] at r1 HS HF
                rw [ey] at r2 HS HF
                clear ex ey HTR
                rw [ea] at c4
                rw [eb] at d4
                clear ea eb
                have HD : Hid (∀ n, Below W1.heap.size W1 (wr.drewN n)) := fun n => below_d HBR3.out n
                clear HBR3
                have x0 : wr.cell? ⟨b1, o1 + i * 2, none⟩ = some (.int .u8 x.k) := r1 0 _ rfl
                have x1 : wr.cell? ⟨b1, o1 + i * 2 + 1, none⟩ = some (.int .i64 x.a) := r1 1 _ rfl
                have y0 : wr.cell? ⟨b2, o2 + i * 2, none⟩ = some (.int .u8 y.k) := r2 0 _ rfl
                have y1 : wr.cell? ⟨b2, o2 + i * 2 + 1, none⟩ = some (.int .i64 y.a) := r2 1 _ rfl
                clear r1 r2
                obtain ⟨b, hb1, hb2⟩ := in_eq x y
                have HB1 : Hid (b = true ↔ x = y) := hb1
                have hne : ∀ w, (Op.equalIn 10000 44 (.agg #[.int .u8 x.k, .int .i64 x.a]) (.agg #[.int .u8 y.k, .int .i64 y.a])).run Tryd.prog w = .ok b w := hb2
                clear hb1 hb2
                cases b with
                | false =>
                  go_wp2_with fail
                  go_quiet (fail)
                  go_wp2_with fail
                  go_ret
                  exact ⟨false, rfl, ⟨fun e => (by cases e), fun k => absurd k (HF.out (fun k => by have := HB1.out.2 k; cases this))⟩, below2 HB.out (HD.out _)⟩
                | true =>
                  have HXY : Hid (x = y) := HB1.out.1 rfl
                  go_wp2_with fail
                  go_quiet (fail)
                  go_wp2_with fail
                  exact ⟨⟨i + 1, hlt, rfl, HD.out _, HS.out HXY.out⟩, by simp only [intOf]; omega⟩
              · obtain rfl : i = t.ds.length := by omega
                have hnot : ¬ (t.ds.length : Int) < (t.ds.length : Int) := by omega
                have HE2 : Hid (t.ds = u.ds) := by
                  have h9 := HTR.out
                  rw [List.take_length, HL2.out, List.take_length] at h9
                  exact h9
                go_wp2_with fail
                clear c4 d4 HTR hi hnot
                go_loopw [8] (fun q wr => ∃ (i : Nat), i ≤ t.ts.length ∧ q = .int .i64 i ∧ Hid (Below W1.heap.size W1 wr) ∧ Hid (SameI t.ts u.ts i)) (fun q _ => t.ts.length - (intOf q).toNat)
                case atStart => exact ⟨0, by omega, rfl, HBR3, fun i _ _ h => absurd h (Nat.not_lt_zero _)⟩
                case round =>
                  clear HBR3
                  obtain ⟨i, hi, rfl, HBR4, HTR⟩ := hrel
                  have HC5 : Hid (W1.cell? ⟨w.heap.size, 5, none⟩ = some (.slice t.ta t.ts.length t.tc)) := cell_of HN1.out 5
                  have HD5 : Hid (W1.cell? ⟨w.heap.size + 1, 5, none⟩ = some (.slice u.ta u.ts.length u.tc)) := cell_of HN2.out 5
                  have c5 := cell_on HC5.out HBR4.out
                  have d5 := cell_on HD5.out HBR4.out
                  by_cases hlt : i < t.ts.length
                  · have hlt' : (i : Int) < (t.ts.length : Int) := by omega
                    have hlh : i < u.ts.length := by have := HL3.out; omega
                    have hlh' : (i : Int) < (u.ts.length : Int) := by omega
                    have hmx : (i : Int) + 1 ≤ 9223372036854775807 := by have h1 := HG.out.T.1; have h2 := HG.out.T.2.1; rw [List.length_map] at h1; omega
                    obtain ⟨b1, o1, ea, r1⟩ := els_at StM.sz HG.out.T i hlt
                    obtain ⟨b2, o2, eb, r2⟩ := els_at StM.sz HH.out.T i hlh
                    have HS : Hid (SameS t.ts[i] u.ts[i] → SameI t.ts u.ts (i + 1)) := fun e k h1 h2 h3 => by
                      by_cases hk : k < i
                      · exact HTR.out k h1 h2 hk
                      · obtain rfl : k = i := by omega
                        exact e
                    have HF : Hid (¬ SameS t.ts[i] u.ts[i] → ¬ SameT t u) := fun e k => e (k.2.2.2.2.2.2 i hlt hlh hlt)
                    have HGX : Hid (StL W1 t.ts[i]) := HG.out.Ti _ (List.getElem_mem hlt)
                    have HGY : Hid (StL W1 u.ts[i]) := HH.out.Ti _ (List.getElem_mem hlh)
                    obtain ⟨x, ex⟩ : ∃ x, t.ts[i] = x := ⟨_, rfl⟩
                    obtain ⟨y, ey⟩ : ∃ y, u.ts[i] = y := ⟨_, rfl⟩
                    rw [ex] at r1 HS HF HGX
                    rw [ey] at r2 HS HF HGY
                    clear ex ey HTR
                    rw [ea] at c5 HC5
                    rw [eb] at d5 HD5
                    clear ea eb
                    have HX0 : Hid (W1.cell? ⟨b1, o1 + i, none⟩ = some (.slice x.a x.gs.length x.c)) := by have := r1 0 _ rfl; rw [Nat.mul_one, Nat.add_zero] at this; exact this
                    have HY0 : Hid (W1.cell? ⟨b2, o2 + i, none⟩ = some (.slice y.a y.gs.length y.c)) := by have := r2 0 _ rfl; rw [Nat.mul_one, Nat.add_zero] at this; exact this
                    clear r1 r2
                    have x0 := cell_on HX0.out HBR4.out
                    have y0 := cell_on HY0.out HBR4.out
                    have HD : Hid (∀ n, Below W1.heap.size W1 (wr.drewN n)) := fun n => below_d HBR4.out n
                    clear HBR4
                    by_cases hlen : x.gs.length = y.gs.length
                    · have HLX : Hid (x.gs.length = y.gs.length) := hlen
                      have hb1 : ((x.gs.length : Int) == (y.gs.length : Int)) = true := by rw [hlen]; simp
                      have hb2 : ((x.gs.length : Int) != (y.gs.length : Int)) = false := by rw [hlen]; simp
                      clear hlen
                      go_wp2_with fail
                      go_quiet (fail)
                      go_wp2_with fail
                      clear hb1 hb2 x0 y0 c5 d5
                      have HBV := HD.out nq
                      clear HD
                      have HBV' : Hid (Below W1.heap.size W1 (wr.drewN nq)) := HBV
                      clear HBV
                      generalize wr.drewN nq = V at HBV' ⊢
                      go_loopw [9] (fun q wr => ∃ (j : Nat), j ≤ x.gs.length ∧ q = .int .i64 j ∧ Hid (Below W1.heap.size W1 wr) ∧ Hid (∀ k, k < j → ∀ (h3 : k < x.gs.length) (h4 : k < y.gs.length), SameG x.gs[k] y.gs[k])) (fun q _ => x.gs.length - (intOf q).toNat)
                      case atStart => exact ⟨0, by omega, rfl, HBV', fun k h => absurd h (Nat.not_lt_zero _)⟩
                      case round =>
                        clear HBV'
                        obtain ⟨j, hj, rfl, HBW, HJR⟩ := hrel
                        have c5 := cell_on HC5.out HBW.out
                        have x0 := cell_on HX0.out HBW.out
                        by_cases hjl : j < x.gs.length
                        · have hjl' : (j : Int) < (x.gs.length : Int) := by omega
                          have hjh : j < y.gs.length := by have := HLX.out; omega
                          have hjh' : (j : Int) < (y.gs.length : Int) := by omega
                          have hmy : (j : Int) + 1 ≤ 9223372036854775807 := by have h1 := HGX.out.1.1; have h2 := HGX.out.1.2.1; rw [List.length_map] at h1; omega
                          obtain ⟨b3, o3, ea, r3⟩ := els_at GdM.sz HGX.out.1 j hjl
                          obtain ⟨b4, o4, eb, r4⟩ := els_at GdM.sz HGY.out.1 j hjh
                          have HJS : Hid (SameG x.gs[j] y.gs[j] → ∀ k, k < j + 1 → ∀ (h3 : k < x.gs.length) (h4 : k < y.gs.length), SameG x.gs[k] y.gs[k]) := fun e k hk h3 h4 => by
                            by_cases hk' : k < j
                            · exact HJR.out k hk' h3 h4
                            · obtain rfl : k = j := by omega
                              exact e
                          have HJF : Hid (¬ SameG x.gs[j] y.gs[j] → ¬ SameT t u) := fun e => HF.out fun k => e (k.2 j hjl hjh)
                          have hg := (HGX.out.2 _ (List.getElem_mem hjl)).on HBW.out
                          have hh := (HGY.out.2 _ (List.getElem_mem hjh)).on HBW.out
                          obtain ⟨g, eg⟩ : ∃ g, x.gs[j] = g := ⟨_, rfl⟩
                          obtain ⟨h, eh⟩ : ∃ h, y.gs[j] = h := ⟨_, rfl⟩
                          rw [eg] at r3 HJS HJF hg
                          rw [eh] at r4 HJS HJF hh
                          clear eg eh HJR
                          have HXA : Hid (W1.cell? ⟨b1, o1 + i, none⟩ = some (.slice (some ⟨b3, o3, none⟩) x.gs.length x.c)) := by rw [← ea]; exact HX0
                          have HYA : Hid (W1.cell? ⟨b2, o2 + i, none⟩ = some (.slice (some ⟨b4, o4, none⟩) y.gs.length y.c)) := by rw [← eb]; exact HY0
                          clear ea eb
                          have HFA : Hid (∀ v : World, Below wr.heap.size wr v → v.cell? ⟨w.heap.size, 5, none⟩ = some (.slice (some ⟨b1, o1, none⟩) t.ts.length t.tc) ∧ v.cell? ⟨w.heap.size + 1, 5, none⟩ = some (.slice (some ⟨b2, o2, none⟩) u.ts.length u.tc) ∧ v.cell? ⟨b1, o1 + i, none⟩ = some (.slice (some ⟨b3, o3, none⟩) x.gs.length x.c) ∧ v.cell? ⟨b2, o2 + i, none⟩ = some (.slice (some ⟨b4, o4, none⟩) y.gs.length y.c) ∧ v.cell? ⟨b3, o3 + j * 5, none⟩ = some (.int .i64 g.wh.f) ∧ v.cell? ⟨b3, o3 + j * 5 + 1, none⟩ = some (.int .i64 g.wh.t) ∧ v.cell? ⟨b3, o3 + j * 5 + 2, none⟩ = some (.int .u16 g.fd) ∧ v.cell? ⟨b3, o3 + j * 5 + 3, none⟩ = some (.int .u16 g.rg) ∧ v.cell? ⟨b3, o3 + j * 5 + 4, none⟩ = some (.slice g.a g.rs.length g.c) ∧ v.cell? ⟨b4, o4 + j * 5, none⟩ = some (.int .i64 h.wh.f) ∧ v.cell? ⟨b4, o4 + j * 5 + 1, none⟩ = some (.int .i64 h.wh.t) ∧ v.cell? ⟨b4, o4 + j * 5 + 2, none⟩ = some (.int .u16 h.fd) ∧ v.cell? ⟨b4, o4 + j * 5 + 3, none⟩ = some (.int .u16 h.rg) ∧ v.cell? ⟨b4, o4 + j * 5 + 4, none⟩ = some (.slice h.a h.rs.length h.c)) := fun v hv => by
                            have hB := below2 HBW.out hv
                            exact ⟨cell_on HC5.out hB, cell_on HD5.out hB, cell_on HXA.out hB, cell_on HYA.out hB, cell_on (r3 0 _ rfl) hB, cell_on (r3 1 _ rfl) hB, cell_on (r3 2 _ rfl) hB, cell_on (r3 3 _ rfl) hB, cell_on (r3 4 _ rfl) hB, cell_on (r4 0 _ rfl) hB, cell_on (r4 1 _ rfl) hB, cell_on (r4 2 _ rfl) hB, cell_on (r4 3 _ rfl) hB, cell_on (r4 4 _ rfl) hB⟩
                          clear r3 r4 HXA HYA
                          have cS := sameGuard_any g h wr.drew (hg.on ⟨rfl, rfl, rfl, Nat.le_refl _, fun _ _ => rfl⟩) (hh.on ⟨rfl, rfl, rfl, Nat.le_refl _, fun _ _ => rfl⟩)
                          unfold GdM.vals at cS
                          clear hg hh
                          go_wp2_with fail
                          clear c5 x0
                          refine wp_region_held_drew (S := fun v => Below wr.heap.size wr v) (by kernel_rfl) ⟨rfl, rfl, rfl, Nat.le_refl _, fun _ _ => rfl⟩ (fun hHeld => ?_)
                          refine wpAnyH_take (i := 0) (v := ?_) rfl (by kernel_rfl) (by kernel_rfl) (by kernel_rfl) (fun _ _ _ h => h) (Or.inl ⟨by rfl, ?_⟩) (by assumption) ?_
                          rotate_left
                          · (intro v hv; go_simp; try (with_reducible rfl))
                          try simp [Act.put]
                          refine wpAnyH_take (i := 1) (v := ?_) rfl (by kernel_rfl) (by kernel_rfl) (by kernel_rfl) (fun _ _ _ h => h) (Or.inl ⟨by rfl, ?_⟩) (by assumption) ?_
                          rotate_left
                          · (intro v hv; obtain ⟨a0, a1, a2, a3, g0, g1, g2, g3, g4, e0, e1, e2, e3, e4⟩ := HFA.out v hv; go_simp; try (with_reducible rfl))
                          try simp [Act.put]
                          refine wpAnyH_take (i := 2) (v := ?_) rfl (by kernel_rfl) (by kernel_rfl) (by kernel_rfl) (fun _ _ _ h => h) (Or.inl ⟨by rfl, ?_⟩) (by assumption) ?_
                          rotate_left
                          · (intro v hv; go_simp; try (with_reducible rfl))
                          try simp [Act.put]
                          refine wpAnyH_take (i := 3) (v := ?_) rfl (by kernel_rfl) (by kernel_rfl) (by kernel_rfl) (fun _ _ _ h => h) (Or.inl ⟨by rfl, ?_⟩) (by assumption) ?_
                          rotate_left
                          · (intro v hv; go_simp; try (with_reducible rfl))
                          try simp [Act.put]
                          refine wpAnyH_take (i := 4) (v := ?_) rfl (by kernel_rfl) (by kernel_rfl) (by kernel_rfl) (fun _ _ _ h => h) (Or.inl ⟨by rfl, ?_⟩) (by assumption) ?_
                          rotate_left
                          · (intro v hv; obtain ⟨a0, a1, a2, a3, g0, g1, g2, g3, g4, e0, e1, e2, e3, e4⟩ := HFA.out v hv; go_simp; try (with_reducible rfl))
                          try simp [Act.put]
                          refine wpAnyH_take (i := 5) (v := ?_) rfl (by kernel_rfl) (by kernel_rfl) (by kernel_rfl) (fun _ _ _ h => h) (Or.inl ⟨by rfl, ?_⟩) (by assumption) ?_
                          rotate_left
                          · (intro v hv; go_simp; try (with_reducible rfl))
                          try simp [Act.put]
                          refine wpAnyH_take (i := 6) (v := ?_) rfl (by kernel_rfl) (by kernel_rfl) (by kernel_rfl) (fun _ _ _ h => h) (Or.inl ⟨by rfl, ?_⟩) (by assumption) ?_
                          rotate_left
                          · (intro v hv; go_simp; try (with_reducible rfl))
                          try simp [Act.put]
                          refine wpAnyH_take (i := 7) (v := ?_) rfl (by kernel_rfl) (by kernel_rfl) (by kernel_rfl) (fun _ _ _ h => h) (Or.inl ⟨by rfl, ?_⟩) (by assumption) ?_
                          rotate_left
                          · (intro v hv; obtain ⟨a0, a1, a2, a3, g0, g1, g2, g3, g4, e0, e1, e2, e3, e4⟩ := HFA.out v hv; go_simp; try (with_reducible rfl))
                          try simp [Act.put]
                          refine wpAnyH_take (i := 8) (v := ?_) rfl (by kernel_rfl) (by kernel_rfl) (by kernel_rfl) (fun _ _ _ h => h) (Or.inl ⟨by rfl, ?_⟩) (by assumption) ?_
                          rotate_left
                          · (intro v hv; go_simp; try (with_reducible rfl))
                          try simp [Act.put]
                          refine wpAnyH_take (i := 9) (v := ?_) rfl (by kernel_rfl) (by kernel_rfl) (by kernel_rfl) (fun _ _ _ h => h) (Or.inl ⟨by rfl, ?_⟩) (by assumption) ?_
                          rotate_left
                          · (intro v hv; obtain ⟨a0, a1, a2, a3, g0, g1, g2, g3, g4, e0, e1, e2, e3, e4⟩ := HFA.out v hv; go_simp; try (with_reducible rfl))
                          try simp [Act.put]
                          refine wpAnyH_take (i := 10) (v := ?_) rfl (by kernel_rfl) (by kernel_rfl) (by kernel_rfl) (fun _ _ _ h => h) (Or.inl ⟨by rfl, ?_⟩) (by assumption) ?_
                          rotate_left
                          · (intro v hv; go_simp; try (with_reducible rfl))
                          try simp [Act.put]
                          refine wpAnyH_take (i := 11) (v := ?_) rfl (by kernel_rfl) (by kernel_rfl) (by kernel_rfl) (fun _ _ _ h => h) (Or.inl ⟨by rfl, ?_⟩) (by assumption) ?_
                          rotate_left
                          · (intro v hv; go_simp; try (with_reducible rfl))
                          try simp [Act.put]
                          refine wpAnyH_take (i := 12) (v := ?_) rfl (by kernel_rfl) (by kernel_rfl) (by kernel_rfl) (fun _ _ _ h => h) (Or.inl ⟨by rfl, ?_⟩) (by assumption) ?_
                          rotate_left
                          · (intro v hv; obtain ⟨a0, a1, a2, a3, g0, g1, g2, g3, g4, e0, e1, e2, e3, e4⟩ := HFA.out v hv; go_simp; try (with_reducible rfl))
                          try simp [Act.put]
                          refine wpAnyH_take (i := 13) (v := ?_) rfl (by kernel_rfl) (by kernel_rfl) (by kernel_rfl) (fun _ _ _ h => h) (Or.inl ⟨by rfl, ?_⟩) (by assumption) ?_
                          rotate_left
                          · (intro v hv; go_simp; try (with_reducible rfl))
                          try simp [Act.put]
                          refine wpAnyH_take (i := 14) (v := ?_) rfl (by kernel_rfl) (by kernel_rfl) (by kernel_rfl) (fun _ _ _ h => h) (Or.inl ⟨by rfl, ?_⟩) (by assumption) ?_
                          rotate_left
                          · (intro v hv; go_simp; try (with_reducible rfl))
                          try simp [Act.put]
                          refine wpAnyH_take (i := 15) (v := ?_) rfl (by kernel_rfl) (by kernel_rfl) (by kernel_rfl) (fun _ _ _ h => h) (Or.inl ⟨by rfl, ?_⟩) (by assumption) ?_
                          rotate_left
                          · (intro v hv; obtain ⟨a0, a1, a2, a3, g0, g1, g2, g3, g4, e0, e1, e2, e3, e4⟩ := HFA.out v hv; go_simp; try (with_reducible rfl))
                          try simp [Act.put]
                          refine wpAnyH_ready (rs := [16]) (by kernel_rfl) (by simp) ?_
                          refine AllReadyH.cons rfl (fun K hK => ?_) AllReadyH.nil
                          go_simp
                          refine cS.mono ?_
                          rintro e w5 ⟨b, rfl, hb, hb5⟩
                          have hB5 : Below wr.heap.size wr w5 := ⟨hb5.os, hb5.tape, hb5.output, hb5.size, hb5.block⟩
                          have HB5 : Hid (Below W1.heap.size W1 w5) := below2 HBW.out hB5
                          have HBB : Hid (b = true ↔ SameG g h) := hb
                          refine hK.out _ _ hB5 (fun hHeld => ?_)
                          clear hK K cS hb5 hb hB5
                          try simp [Act.put]
                          refine wpAnyH_take (i := 17) (v := ?_) rfl (by kernel_rfl) (by kernel_rfl) (by kernel_rfl) (fun _ _ _ h => h) (Or.inl ⟨by rfl, ?_⟩) (by assumption) ?_
                          rotate_left
                          · (intro v hv; go_simp; try (with_reducible rfl))
                          try simp [Act.put]
                          refine wpAnyH_done (by kernel_rfl) ?_ _
                          cases b with
                          | true =>
                            go_wp2_with fail
                            exact ⟨⟨j + 1, hjl, rfl, HB5, HJS.out (HBB.out.1 rfl)⟩, by simp only [intOf]; omega⟩
                          | false =>
                            go_wp2_with fail
                            go_ret
                            exact ⟨false, rfl, ⟨fun e => (by cases e), fun k => absurd k (HJF.out fun k => by have := HBB.out.2 k; cases this)⟩, below2 HB.out HB5.out⟩
                        · obtain rfl : j = x.gs.length := by omega
                          have hnot : ¬ (x.gs.length : Int) < (x.gs.length : Int) := by omega
                          go_wp2_with fail
                          exact ⟨⟨i + 1, hlt, rfl, HBW, HS.out ⟨HLX.out, fun k h3 h4 => HJR.out k h3 h3 h4⟩⟩, by simp only [intOf]; omega⟩
                    · have hb1 : ((x.gs.length : Int) == (y.gs.length : Int)) = false := by simp; omega
                      have hb2 : ((x.gs.length : Int) != (y.gs.length : Int)) = true := by simp; omega
                      go_wp2_with fail
                      go_quiet (fail)
                      go_wp2_with fail
                      go_ret
                      exact ⟨false, rfl, ⟨fun e => (by cases e), fun k => absurd k (HF.out (fun k => hlen k.1))⟩, below2 HB.out (HD.out _)⟩
                  · obtain rfl : i = t.ts.length := by omega
                    have hnot : ¬ (t.ts.length : Int) < (t.ts.length : Int) := by omega
                    go_wp2_with fail
                    go_ret
                    exact ⟨true, rfl, ⟨fun _ => ⟨HX.out, HSL.out, HE0.out, HE1.out, HE2.out, HL3.out, HTR.out⟩, fun _ => rfl⟩, below2 HB.out HBR4.out⟩
  all_goals
    rename_i hx
    go_ret
    exact ⟨false, rfl, ⟨fun e => (by cases e), fun k => by first | exact absurd k.2.1 hx | exact absurd (by rw [k.1]) hx | exact absurd (by rw [k.2.2.1]) hx | exact absurd (by rw [k.2.2.2.1]) hx | exact absurd (by rw [k.2.2.2.2.1]) hx⟩, HB.out⟩
end Go.Proofs.YteedmmljahgpjabDoor
