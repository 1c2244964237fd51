import Derived.Test.YteedmmljahgpjabDoorVo
import Derived.Test.YteedmmljahgpjabDoorUo
import Derived.Test.YteedmmljahgpjabDoorM2
import Derived.Test.YteedmmljahgpjabDoorM0
import Derived.Test.YteedmmljahgpjabDoorM1
/-
  How much a table weighs.
-/
namespace Go.Proofs.YteedmmljahgpjabDoor
open Go.RowKit
set_option linter.unusedVariables false
set_option linter.unusedSimpArgs false
def StSm (s : StM) (n : Nat) : Prop := s.gs.length ≤ n ∧ ∀ g ∈ s.gs, g.rs.length ≤ n
/-- What is known once n has been counted, i states in. -/
def Wg (t : TbM) (i n : Nat) : Prop := t.x.size + t.rs.length + t.cs.length + t.ds.length + i ≤ n ∧ (n ≤ 1048576 → ∀ k (h : k < t.ts.length), k < i → StSm t.ts[k] n)
structure SmT (t : TbM) : Prop where
  X : t.x.size ≤ 131072
  R : t.rs.length ≤ 131072
  C : t.cs.length ≤ 131072
  D : t.ds.length ≤ 131072
  T : t.ts.length ≤ 131072
  S : ∀ s ∈ t.ts, StSm s 131072
theorem StSm.mono {s : StM} {n m : Nat} (h : StSm s n) (k : n ≤ m) : StSm s m := ⟨Nat.le_trans h.1 k, fun g hg => Nat.le_trans (h.2 g hg) k⟩
theorem Wg.sm {t : TbM} {n : Nat} (h : Wg t t.ts.length n) (k : n ≤ 131072) : SmT t := by
  have h1 := h.1
  refine ⟨by omega, by omega, by omega, by omega, by omega, fun s hs => ?_⟩
  obtain ⟨i, hi, rfl⟩ := List.getElem_of_mem hs
  exact (h.2 (by omega) i hi hi).mono k
set_option maxRecDepth 100000 in
set_option maxHeartbeats 4000000 in
theorem weigh_any (t : TbM) (w : World) (hl : TbL w t) (hz : TbZ t) : Calls Tryd.prog 13 #[.agg t.vals] w fun e w' => ∃ n : Nat, e = .returned (.int .i64 n) ∧ (n ≤ 131072 → SmT t) ∧ Below w.heap.size w w' := by
  have hb1 := below_new w (.cells t.vals 26)
  have hn1 := heap_new w (.cells t.vals 26)
  obtain ⟨W1, e1⟩ : ∃ W, w.alloc (.cells t.vals 26) = W := ⟨_, rfl⟩
  have E1 : Hid (w.alloc (.cells t.vals 26) = W1) := e1
  rw [e1] at hb1 hn1
  have HB1 : Hid (Below w.heap.size w W1) := hb1
  have HL : Hid (TbL W1 t) := hl.on hb1
  have HZ : Hid (TbZ t) := hz
  have c0 : W1.cell? ⟨w.heap.size, 0, none⟩ = some (.string t.x) := cell_of hn1 0
  have c1 : W1.cell? ⟨w.heap.size, 1, none⟩ = some (.slice t.ra t.rs.length t.rc) := cell_of hn1 1
  have c3 : W1.cell? ⟨w.heap.size, 3, none⟩ = some (.slice t.ca t.cs.length t.cc) := cell_of hn1 3
  have c4 : W1.cell? ⟨w.heap.size, 4, none⟩ = some (.slice t.da t.ds.length t.dc) := cell_of hn1 4
  have c5 : W1.cell? ⟨w.heap.size, 5, none⟩ = some (.slice t.ta t.ts.length t.tc) := cell_of hn1 5
  have hX : t.x.size ≤ 140737488355328 := hl.X
  have hR : t.rs.length ≤ 140737488355328 := hz.R
  have hC : t.cs.length ≤ 140737488355328 := hz.C
  have hD : t.ds.length ≤ 140737488355328 := hz.D
  have hT : t.ts.length ≤ 140737488355328 := hz.T
  have a1 : (t.x.size : Int) + (t.rs.length : Int) ≤ 9223372036854775807 := by omega
  have a2 : (t.x.size : Int) + (t.rs.length : Int) + (t.cs.length : Int) ≤ 9223372036854775807 := by omega
  have a3 : (t.x.size : Int) + (t.rs.length : Int) + (t.cs.length : Int) + (t.ds.length : Int) ≤ 9223372036854775807 := by omega
  have HU : Hid (t.x.size + t.rs.length + t.cs.length + t.ds.length ≤ 1125899906842624 ∧ t.ts.length ≤ 140737488355328) := ⟨by omega, hT⟩
  clear hb1 hn1 hl hz e1
  go_enter Tryd.func13, Tryd.ntmps13
  go_upto_region 1 with fail
  rw [E1.out]
  clear E1
  go_wp2_with fail
  clear a1 a2 a3 c0 c1 c3 c4 hX hR hC hD hT
  go_loopw [3, 4] (fun p q wr => ∃ (n i : Nat), i ≤ t.ts.length ∧ n ≤ 1125899906842624 ∧ p = .int .i64 n ∧ q = .int .i64 i ∧ wr = W1 ∧ Hid (Wg t i n)) (fun _ q _ => t.ts.length - (intOf q).toNat)
  case atStart => exact ⟨t.x.size + t.rs.length + t.cs.length + t.ds.length, 0, by omega, HU.out.1, by congr 1, rfl, rfl, ⟨by omega, fun _ k _ h => absurd h (Nat.not_lt_zero _)⟩⟩
  case round =>
    obtain ⟨n, i, hi, hn, rfl, rfl, rfl, HWG⟩ := hrel
    by_cases hlt : i < t.ts.length
    · have hlt' : (i : Int) < (t.ts.length : Int) := by omega
      by_cases hq : n ≤ 1048576
      · have hq' : (n : Int) ≤ 1048576 := by omega
        have hmx : (i : Int) + 1 ≤ 9223372036854775807 := by have := HU.out.2; omega
        have hmn : (n : Int) + 1 ≤ 9223372036854775807 := by omega
        obtain ⟨b1, o1, ea, r1⟩ := els_at StM.sz HL.out.T i hlt
        have HGX : Hid (StL wr t.ts[i]) := HL.out.Ti _ (List.getElem_mem hlt)
        have HGZ : Hid (StZ t.ts[i]) := HZ.out.S _ (List.getElem_mem hlt)
        have HWN : Hid (∀ m : Nat, n + 1 ≤ m → (m ≤ 1048576 → StSm t.ts[i] m) → Wg t (i + 1) m) := fun m h1 h2 => by
          refine ⟨by have := HWG.out.1; omega, fun h3 k hk hki => ?_⟩
          by_cases e : k < i
          · exact (HWG.out.2 hq k hk e).mono (by omega)
          · obtain rfl : k = i := by omega
            exact h2 h3
        obtain ⟨x, ex⟩ : ∃ x, t.ts[i] = x := ⟨_, rfl⟩
        rw [ex] at r1 HGX HGZ HWN
        clear ex HWG
        rw [ea] at c5
        clear ea
        have x0 : wr.cell? ⟨b1, o1 + i, none⟩ = some (.slice x.a x.gs.length x.c) := by have := r1 0 _ rfl; rw [Nat.mul_one, Nat.add_zero] at this; exact this
        clear r1
        go_wp2_with fail
        go_loopw [3, 5] (fun p q wv => ∃ (m j : Nat), j ≤ x.gs.length ∧ n + 1 ≤ m ∧ n + 1 + j ≤ m ∧ m ≤ 1125899906842624 ∧ p = .int .i64 m ∧ q = .int .i64 j ∧ wv = wr ∧ Hid (∀ k (h : k < x.gs.length), k < j → x.gs[k].rs.length ≤ m)) (fun _ q _ => x.gs.length - (intOf q).toNat)
        case atStart => exact ⟨n + 1, 0, by omega, by omega, by omega, by omega, by congr 1, rfl, rfl, fun k _ h => absurd h (Nat.not_lt_zero _)⟩
        case round =>
          obtain ⟨m, j, hj, hm1, hm2, hm3, rfl, rfl, rfl, HJ⟩ := hrel
          by_cases hjl : j < x.gs.length
          · have hjl' : (j : Int) < (x.gs.length : Int) := by omega
            by_cases hp : m ≤ 1048576
            · have hp' : (m : Int) ≤ 1048576 := by omega
              have hmy : (j : Int) + 1 ≤ 9223372036854775807 := by have h1 := HGX.out.1.1; have h2 := HGX.out.1.2.1; rw [List.length_map] at h1; omega
              obtain ⟨b3, o3, ea, r3⟩ := els_at GdM.sz HGX.out.1 j hjl
              have hgz : x.gs[j].rs.length ≤ 140737488355328 := HGZ.out.1 _ (List.getElem_mem hjl)
              have HJS : Hid (∀ m', m ≤ m' → x.gs[j].rs.length ≤ m' → ∀ k (h : k < x.gs.length), k < j + 1 → x.gs[k].rs.length ≤ m') := fun m' h1 h2 k hk hkj => by
                by_cases e : k < j
                · exact Nat.le_trans (HJ.out k hk e) h1
                · obtain rfl : k = j := by omega
                  exact h2
              obtain ⟨g, eg⟩ : ∃ g, x.gs[j] = g := ⟨_, rfl⟩
              rw [eg] at r3 HJS hgz
              rw [ea] at x0
              clear eg ea HJ
              have g4 : wr.cell? ⟨b3, o3 + j * 5 + 4, none⟩ = some (.slice g.a g.rs.length g.c) := r3 4 _ rfl
              clear r3
              have hm5 : (m : Int) + 1 ≤ 9223372036854775807 := by omega
              have hm6 : (m : Int) + 1 + (g.rs.length : Int) ≤ 9223372036854775807 := by omega
              go_wp2_with fail
              exact ⟨⟨m + 1 + g.rs.length, j + 1, hjl, by omega, by omega, by omega, by congr 1, rfl, by trivial, HJS.out _ (by omega) (by omega)⟩, by simp only [intOf]; omega⟩
            · have hp' : ¬ (m : Int) ≤ 1048576 := by omega
              go_wp2_with fail
              exact ⟨⟨m, i + 1, hlt, hm3, rfl, rfl, by trivial, HWN.out m hm1 (fun h => absurd h hp)⟩, by simp only [intOf]; omega⟩
          · obtain rfl : j = x.gs.length := by omega
            have hnot : ¬ (x.gs.length : Int) < (x.gs.length : Int) := by omega
            go_wp2_with fail
            exact ⟨⟨m, i + 1, hlt, hm3, rfl, rfl, by trivial, HWN.out m hm1 (fun h => ⟨by omega, fun g hg => by
              obtain ⟨k, hk, rfl⟩ := List.getElem_of_mem hg
              exact HJ.out k hk hk⟩)⟩, by simp only [intOf]; omega⟩
      · have hq' : ¬ (n : Int) ≤ 1048576 := by omega
        go_wp2_with fail
        go_ret
        exact ⟨n, rfl, fun h => absurd h (by omega), HB1.out⟩
    · obtain rfl : i = t.ts.length := by omega
      have hnot : ¬ (t.ts.length : Int) < (t.ts.length : Int) := by omega
      go_wp2_with fail
      go_ret
      exact ⟨n, rfl, fun h => HWG.out.sm h, HB1.out⟩
set_option maxRecDepth 100000 in
set_option maxHeartbeats 4000000 in
theorem far_any (t : TbM) (w : World) (hl : TbL w t) (hz : TbZ t) : Calls Tryd.prog 5 #[.agg t.vals] w fun e w' => ∃ b, e = .returned (.bool b) ∧ (b = false → SmT t) ∧ Below w.heap.size w w' := by
  have hb1 := below_new w (.cells t.vals 26)
  have hn1 := heap_new w (.cells t.vals 26)
  obtain ⟨W1, e1⟩ : ∃ W, w.alloc (.cells t.vals 26) = W := ⟨_, rfl⟩
  have E1 : Hid (w.alloc (.cells t.vals 26) = W1) := e1
  rw [e1] at hb1 hn1
  have HB1 : Hid (Below w.heap.size w W1) := hb1
  have HN1 : Hid (W1.heap[w.heap.size]? = some (.cells t.vals 26 (0, 0))) := hn1
  have cW := weigh_any t W1 (hl.on hb1) hz
  clear hb1 hn1 hl hz e1
  go_enter Tryd.func5, Tryd.ntmps5
  go_upto_region 1 with fail
  rw [E1.out]
  clear E1
  go_wp2_with (refine wpList_load_row rfl 26 (.tmp 1) rfl w.heap.size rfl 26 t.vals (0, 0) _ HN1.out Tryd.underlying26 rfl size26' ?_)
  refine cW.mono ?_
  rintro e w2 ⟨n, rfl, hn, hb2⟩
  have HB2 : Hid (Below w.heap.size w w2) := below2 HB1.out hb2
  have HNN : Hid (n ≤ 131072 → SmT t) := hn
  clear hn hb2 cW
  by_cases h : n ≤ 131072
  · have h' : ¬ (n : Int) > 131072 := by omega
    go_wp2_with fail
    go_ret
    exact ⟨false, by simp [h'], fun _ => HNN.out h, HB2.out⟩
  · have h' : (n : Int) > 131072 := by omega
    go_wp2_with fail
    go_ret
    exact ⟨true, by simp [h'], fun e => (by cases e), HB2.out⟩
end Go.Proofs.YteedmmljahgpjabDoor

/-
  The plain answers of the least table, and of the two that are spoilt.
-/
namespace Go.Proofs.YteedmmljahgpjabDoor
open Go.RowKit
set_option linter.unusedVariables false
set_option linter.unusedSimpArgs false
set_option maxRecDepth 100000
/-- Code[3].A = 6. -/
def lsW (B : Nat) : TbM := { lsT B with ds := [⟨3, 1⟩, ⟨6, 4⟩, ⟨1, 0⟩, ⟨5, 6⟩] }
/-- States[0][0].Fields = 0. -/
def lsK (B : Nat) : TbM := { lsT B with ts := [⟨some ⟨B + 5, 0, none⟩, 1, [{ lsG B with fd := 0 }]⟩] }
theorem ls_check (B : Nat) : checkE (lsT B) = 0 := by kernel_rfl
theorem lw_check (B : Nat) : checkE (lsW B) = 192 := by kernel_rfl
theorem lk_check (B : Nat) : checkE (lsK B) = 193 := by kernel_rfl
theorem ls_encE (B : Nat) : encE (lsT B) = 0 := by kernel_rfl
theorem ls_size (B : Nat) : (encS (lsT B)).size = 27 := by kernel_rfl
theorem ls_bound (B : Nat) : boundN (lsT B) = (4, 0) := by kernel_rfl
theorem ls_reads (B : Nat) : readsN (lsT B).ds ⟨0, 9⟩ = (2, 0) := by kernel_rfl
def lsP : TbP := ⟨⟨#[115]⟩, [], 0, [1], [⟨3, 1⟩, ⟨6, 4⟩, ⟨1, 0⟩, ⟨5, 2⟩], [[⟨⟨0, 4⟩, 2, 0, [lsR]⟩]]⟩
theorem ls_un (B : Nat) : unR (encS (lsT B)) = some lsP := by kernel_rfl
theorem is_ls {t : TbM} (h : Is lsP t) : checkE t = 0 ∧ ∀ C, SameT t (lsT C) := by
  obtain ⟨x, ra, rc, rs, sl, ca, cc, cs, da, dc, ds, ta, tc, ts⟩ := t
  obtain ⟨h1, h2, h3, h4, h5, h6⟩ := h
  simp only at h1 h2 h3 h4 h5 h6
  subst h1 h2 h3 h4 h5
  match ts, h6 with
  | [⟨a, c, [⟨wh, fd, rg, a1, c1, rs1⟩]⟩], h6 =>
    simp only [List.map_cons, List.map_nil, lsP, plG, List.cons.injEq, GdP.mk.injEq, and_true] at h6
    obtain ⟨rfl, rfl, rfl, rfl⟩ := h6
    refine ⟨by kernel_rfl, fun C => ⟨rfl, rfl, rfl, rfl, rfl, rfl, fun i h1 h2 h3 => ?_⟩⟩
    obtain rfl : i = 0 := by simp at h3; omega
    refine ⟨rfl, fun j h3 h4 => ?_⟩
    obtain rfl : j = 0 := by simp at h3; omega
    exact ⟨rfl, rfl, rfl, rfl, rfl⟩
  | [], h6 => simp [lsP] at h6
  | ⟨a, c, []⟩ :: l, h6 => simp [lsP] at h6
  | ⟨a, c, g1 :: g2 :: l2⟩ :: l, h6 => simp [lsP] at h6
  | s1 :: s2 :: l, h6 => simp [lsP] at h6
theorem decode_z {Z : ByteArray} (hz : Z.size = 27) (hu : unR Z = some lsP) (w : World) (htb : Tab w) : Calls Tryd.prog 7 #[.string Z] w fun e w' => ∃ t nb, e = .returned (.tuple #[.agg t.vals, .int .i64 0]) ∧ Bxs w w' t nb ∧ (∀ C, SameT t (lsT C)) ∧ Below w.heap.size w w' := by
  refine (decode_any Z w (by rw [hz]; decide) htb).mono ?_
  intro e w' h
  rw [hu] at h
  obtain ⟨t, nb, h1, h2, h3⟩ := h
  obtain ⟨k1, k2⟩ := is_ls h1
  rw [k1] at h2
  exact ⟨t, nb, h2.1, h2.2, k2, h3⟩
theorem decode_least (B : Nat) (w : World) (htb : Tab w) : Calls Tryd.prog 7 #[.string (encS (lsT B))] w fun e w' => ∃ t nb, e = .returned (.tuple #[.agg t.vals, .int .i64 0]) ∧ Bxs w w' t nb ∧ (∀ C, SameT t (lsT C)) ∧ Below w.heap.size w w' := decode_z (ls_size B) (ls_un B) w htb
end Go.Proofs.YteedmmljahgpjabDoor

/-
  The statements' head.
-/
namespace Go.Proofs.YteedmmljahgpjabDoor
open Go.RowKit
set_option linter.unusedVariables false
set_option linter.unusedSimpArgs false
theorem yl_row {P : Program} {ops : Array Oper} {S : World → Prop} {op : Oper} {a : Act} (hw : Region.wanted op (yielded ops a.tmps) = true) (ty : TypeId) (x : Operand) (ho : op.op = .load ty x)
    (g : Nat) (hx : a.eval x = .pointer (some ⟨g, 0, none⟩)) (t : TypeId) (cs : Array Value) (fr : Nat × Nat) (d : TypeDesc) (hS : ∀ w, S w → w.heap[g]? = some (.cells cs t fr))
    (hu : P.underlying ty = some d) (hd : (match d with | .struct _ | .array _ _ => true | _ => false) = true) (hi : (P.info? ty).map (·.size) = some cs.size) : YieldsIf P ops S op (.agg cs) a :=
  .inl ⟨hw, fun w hw' => by
    unfold execOp
    simp only [ho, hx, Instr.loadAt, Instr.sureAddr, Sem.run_bind, Sem.run_pure, Result.andThen_ok, run_loadVar_row w g t ty cs fr d (hS w hw') hu hd hi]⟩
def lsDw : Array Value := #[.int .u8 3, .int .i64 1, .int .u8 6, .int .i64 4, .int .u8 1, .int .i64 0, .int .u8 5, .int .i64 6]
theorem lw_tb {w : World} {B : Nat} (hD : w.heap[B + 1]? = some (.cells lsDw 44 (0, 0))) (hR : w.heap[B + 2]? = some (.cells lsR.vals 72 (0, 0))) (hC : w.heap[B + 4]? = some (.cells #[.int .i64 1] 2 (0, 0))) (hG : w.heap[B + 5]? = some (.cells (lsG B).vals 51 (0, 0))) (hS : w.heap[B + 6]? = some (.cells #[.slice (some ⟨B + 5, 0, none⟩) 1 1] 52 (0, 0))) : TbL w (lsW B) where
  R := ⟨Nat.le_refl _, k0, fun i hi => absurd hi (Nat.not_lt_zero _)⟩
  Ri := fun n hn => by cases hn
  S := i0
  C := sl1 hC
  Ci := fun n hn => by
    obtain rfl : n = 1 := by simpa [lsW, lsT] using hn
    exact ⟨by decide, by decide⟩
  D := by
    refine ⟨Nat.le_refl _, k4, fun i hi => ⟨B + 1, 0, rfl, fun j hj => ?_⟩⟩
    rw [cell_of hD]
    have hi' : i < 4 := hi
    obtain rfl | rfl | rfl | rfl : i = 0 ∨ i = 1 ∨ i = 2 ∨ i = 3 := by omega
    all_goals (obtain rfl | rfl : j = 0 ∨ j = 1 := by omega) <;> rfl
  Di := fun d hd => by
    simp [lsW, lsT] at hd
    rcases hd with rfl | rfl | rfl | rfl <;> exact ⟨⟨by decide, by decide⟩, by decide, by decide⟩
  T := sl1 hS
  Ti := fun s hs => by
    obtain rfl : s = ⟨some ⟨B + 5, 0, none⟩, 1, [lsG B]⟩ := by simpa [lsW, lsT] using hs
    refine ⟨sl1 hG, fun g hg => ?_⟩
    obtain rfl : g = lsG B := by simpa using hg
    refine ⟨s04, u2, u0, sl1 hR, fun r hr => ?_⟩
    obtain rfl : r = lsR := by simpa [lsG] using hr
    exact lsR_i
  X := by show (1 : Nat) ≤ _; decide
def lsGk (B : Nat) : GdM := { lsG B with fd := 0 }
theorem lk_tb {w : World} {B : Nat} (hD : w.heap[B + 1]? = some (.cells lsD 44 (0, 0))) (hR : w.heap[B + 2]? = some (.cells lsR.vals 72 (0, 0))) (hC : w.heap[B + 4]? = some (.cells #[.int .i64 1] 2 (0, 0))) (hG : w.heap[B + 5]? = some (.cells (lsGk B).vals 51 (0, 0))) (hS : w.heap[B + 6]? = some (.cells #[.slice (some ⟨B + 5, 0, none⟩) 1 1] 52 (0, 0))) : TbL w (lsK B) where
  R := ⟨Nat.le_refl _, k0, fun i hi => absurd hi (Nat.not_lt_zero _)⟩
  Ri := fun n hn => by cases hn
  S := i0
  C := sl1 hC
  Ci := fun n hn => by
    obtain rfl : n = 1 := by simpa [lsK, lsT] using hn
    exact ⟨by decide, by decide⟩
  D := by
    refine ⟨Nat.le_refl _, k4, fun i hi => ⟨B + 1, 0, rfl, fun j hj => ?_⟩⟩
    rw [cell_of hD]
    have hi' : i < 4 := hi
    obtain rfl | rfl | rfl | rfl : i = 0 ∨ i = 1 ∨ i = 2 ∨ i = 3 := by omega
    all_goals (obtain rfl | rfl : j = 0 ∨ j = 1 := by omega) <;> rfl
  Di := fun d hd => by
    simp [lsK, lsT] at hd
    rcases hd with rfl | rfl | rfl | rfl <;> exact ⟨⟨by decide, by decide⟩, by decide, by decide⟩
  T := sl1 hS
  Ti := fun s hs => by
    obtain rfl : s = ⟨some ⟨B + 5, 0, none⟩, 1, [lsGk B]⟩ := by simpa [lsK, lsT, lsGk] using hs
    refine ⟨sl1 hG, fun g hg => ?_⟩
    obtain rfl : g = lsGk B := by simpa using hg
    refine ⟨s04, u0, u0, sl1 hR, fun r hr => ?_⟩
    obtain rfl : r = lsR := by simpa [lsG, lsGk] using hr
    exact lsR_i
  X := by show (1 : Nat) ≤ _; decide
theorem hp_lt {w : World} {b : Nat} {o : Obj} (h : w.heap[b]? = some o) : b < w.heap.size := by
  rcases Nat.lt_or_ge b w.heap.size with h' | h'
  · exact h'
  · rw [Array.getElem?_eq_none h'] at h; cases h
/-- A fresh least table in a box of its own. -/
theorem boxed {w w1 V : World} (l : LsB w1 w.heap.size) (b : Below w.heap.size w w1) (e : (w1.alloc (.cells tb0 26)).setRow w1.heap.size (lsT w.heap.size).vals = V) :
    V.heap[w1.heap.size]? = some (.cells (lsT w.heap.size).vals 26 (0, 0)) ∧ LsB V w.heap.size ∧ Below w.heap.size w V ∧ w.heap.size + 6 < w1.heap.size := by
  subst e
  refine ⟨setRow_heap _ _ _ _ _ _ (heap_new _ _), l.on (below_row (below_new _ _) (Nat.le_refl _) _), below_row (below2 b (below_new _ _)) b.size _, hp_lt l.S⟩
theorem spoilW {V V2 : World} {B b8 : Nat} (l : LsB V B) (x : V.heap[b8]? = some (.cells (lsT B).vals 26 (0, 0))) (hne : B + 6 < b8) (e : V.setCell ⟨B + 1, 7, none⟩ (.int .i64 6) = V2) :
    V2.heap[b8]? = some (.cells (lsW B).vals 26 (0, 0)) ∧ TbL V2 (lsW B) := by
  subst e
  refine ⟨(Below.heap_setCell _ _ _ _ (by show b8 ≠ B + 1; omega)).trans x, lw_tb (heap_set _ l.D) ?_ ?_ ?_ ?_⟩
  · exact (Below.heap_setCell _ _ _ _ (by show B + 2 ≠ B + 1; omega)).trans l.R
  · exact (Below.heap_setCell _ _ _ _ (by show B + 4 ≠ B + 1; omega)).trans l.C
  · exact (Below.heap_setCell _ _ _ _ (by show B + 5 ≠ B + 1; omega)).trans l.G
  · exact (Below.heap_setCell _ _ _ _ (by show B + 6 ≠ B + 1; omega)).trans l.S
theorem spoilK {V V2 : World} {B b8 : Nat} (l : LsB V B) (x : V.heap[b8]? = some (.cells (lsT B).vals 26 (0, 0))) (hne : B + 6 < b8) (e : V.setCell ⟨B + 5, 2, none⟩ (.int .u16 0) = V2) :
    V2.heap[b8]? = some (.cells (lsK B).vals 26 (0, 0)) ∧ TbL V2 (lsK B) := by
  subst e
  refine ⟨(Below.heap_setCell _ _ _ _ (by show b8 ≠ B + 5; omega)).trans x, lk_tb ?_ ?_ ?_ (heap_set _ l.G) ?_⟩
  · exact (Below.heap_setCell _ _ _ _ (by show B + 1 ≠ B + 5; omega)).trans l.D
  · exact (Below.heap_setCell _ _ _ _ (by show B + 2 ≠ B + 5; omega)).trans l.R
  · exact (Below.heap_setCell _ _ _ _ (by show B + 4 ≠ B + 5; omega)).trans l.C
  · exact (Below.heap_setCell _ _ _ _ (by show B + 6 ≠ B + 5; omega)).trans l.S
set_option maxRecDepth 100000 in
set_option maxHeartbeats 4000000 in
theorem awake_any (w : World) (htb : Tab w) : Calls Tryd.prog 4 #[] w fun e w' => e = .returned (.bool true) ∧ Below w.heap.size w w' := by
  have HT : Hid (Tab w) := htb
  clear htb
  go_enter Tryd.func4, Tryd.ntmps4
  go_wp2_with fail
  refine (least_any w).mono ?_
  rintro e w1 ⟨rfl, l1, b1⟩
  have HT1 : Hid (Tab w1) := HT.out.on b1
  have HB1 : Hid (Below w.heap.size w w1) := b1
  have cC := check_any (lsT w.heap.size) w1 l1.tb HT1.out
  rw [ls_check] at cC
  clear l1 b1
  go_wp2_with fail
  refine cC.mono ?_
  rintro e w2 ⟨rfl, b2⟩
  have HT2 : Hid (Tab w2) := HT1.out.on b2
  have HB2 : Hid (Below w.heap.size w w2) := below2 HB1.out b2
  clear cC b2 HT1 HB1
  go_wp2_with fail
  refine (least_any w2).mono ?_
  rintro e w3 ⟨rfl, l3, b3⟩
  have HT3 : Hid (Tab w3) := HT2.out.on b3
  have HB3 : Hid (Below w.heap.size w w3) := below2 HB2.out b3
  have cE := encode_any (lsT w2.heap.size) w3 l3.tb HT3.out
  rw [ls_encE] at cE
  clear l3 b3 HT2 HB2
  have HSZ : Hid ((encS (lsT w2.heap.size)).size = 27) := ls_size _
  have cD := fun v h => decode_least w2.heap.size v h
  have HCD : Hid (∀ v, Tab v → Calls Tryd.prog 7 #[.string (encS (lsT w2.heap.size))] v fun e w' => ∃ t nb, e = .returned (.tuple #[.agg t.vals, .int .i64 0]) ∧ Bxs v w' t nb ∧ (∀ C, SameT t (lsT C)) ∧ Below v.heap.size v w') := cD
  clear cD
  generalize encS (lsT w2.heap.size) = Z at cE HSZ HCD
  go_wp2_with fail
  refine cE.mono ?_
  rintro e w4 ⟨rfl, b4⟩
  have HT4 : Hid (Tab w4) := HT3.out.on b4
  have HB4 : Hid (Below w.heap.size w w4) := below2 HB3.out b4
  clear cE b4 HT3 HB3
  go_wp2_with fail
  refine (HCD.out w4 HT4.out).mono ?_
  rintro e w5 ⟨t, nb, rfl, hx, hS, b5⟩
  have HS : Hid (∀ C, SameT t (lsT C)) := hS
  have HZ : Hid ((w5.alloc (.cells tb0 26)).heap[w5.heap.size]? = some (.cells tb0 26 (0, 0))) := heap_new _ _
  have hq : Below w5.heap.size w5 ((w5.alloc (.cells tb0 26)).setRow w5.heap.size t.vals) := below_row (below_new _ _) (Nat.le_refl _) _
  have HX : Hid (((w5.alloc (.cells tb0 26)).setRow w5.heap.size t.vals).heap[w5.heap.size]? = some (.cells t.vals 26 (0, 0))) := setRow_heap _ _ _ _ _ _ HZ.out
  have HL : Hid (TbL ((w5.alloc (.cells tb0 26)).setRow w5.heap.size t.vals) t) := hx.1 _ (fun b hb => (hq.block _ (hp_lt (hx.2 b hb).1)).trans (hx.2 b hb).1)
  have HT5 : Hid (Tab ((w5.alloc (.cells tb0 26)).setRow w5.heap.size t.vals)) := (HT4.out.on b5).on hq
  have HB5 : Hid (Below w.heap.size w ((w5.alloc (.cells tb0 26)).setRow w5.heap.size t.vals)) := below2 (below2 HB4.out b5) hq
  clear hx hS b5 HT4 HB4 HCD hq
  go_wp2_with (refine wpList_store_row rfl 26 (.tmp 4) (.tmp 25) rfl w5.heap.size t.vals rfl rfl 26 tb0 HZ.out size26' rfl (allTb t) ?_)
  have E5 : (w5.alloc (.cells #[.string ⟨#[]⟩, .slice none 0 0, .int .i64 0, .slice none 0 0, .slice none 0 0, .slice none 0 0] 26)) = (w5.alloc (.cells tb0 26)) := rfl
  rw [E5]
  clear E5 HZ
  generalize World.setRow _ _ _ = V5 at HX HL HT5 HB5 ⊢
  generalize w5.heap.size = b4 at HX ⊢
  try clear w5
  refine (least_any V5).mono ?_
  rintro e w6 ⟨rfl, l6, b6⟩
  have cB := bound_any (lsT V5.heap.size) w6 l6.tb (HT5.out.on b6)
  rw [ls_bound, ls_check] at cB
  have HB6 : Hid (Below V5.heap.size V5 w6) := b6
  clear l6 b6
  unfold coV at cB
  go_wp2_with fail
  refine cB.mono ?_
  rintro e w7 ⟨rfl, b7⟩
  have hb7 := below2 HB6.out b7
  clear cB b7 HB6
  have HZ : Hid ((w7.alloc (.cells #[.int .i64 0, .int .i64 0] 39)).heap[w7.heap.size]? = some (.cells #[.int .i64 0, .int .i64 0] 39 (0, 0))) := heap_new _ _
  have hq : Below w7.heap.size w7 ((w7.alloc (.cells #[.int .i64 0, .int .i64 0] 39)).setRow w7.heap.size #[.int .i64 4, .int .i64 0]) := below_row (below_new _ _) (Nat.le_refl _) _
  have HY : Hid (((w7.alloc (.cells #[.int .i64 0, .int .i64 0] 39)).setRow w7.heap.size #[.int .i64 4, .int .i64 0]).heap[w7.heap.size]? = some (.cells #[.int .i64 4, .int .i64 0] 39 (0, 0))) := setRow_heap _ _ _ _ _ _ HZ.out
  have HB8 : Hid (Below V5.heap.size V5 ((w7.alloc (.cells #[.int .i64 0, .int .i64 0] 39)).setRow w7.heap.size #[.int .i64 4, .int .i64 0])) := below2 hb7 hq
  clear hb7 hq
  go_wp2_with (refine wpList_store_row rfl 39 (.tmp 6) (.tmp 30) rfl w7.heap.size #[.int .i64 4, .int .i64 0] rfl rfl 39 #[.int .i64 0, .int .i64 0] HZ.out size34' rfl (by simp [Value.oneCell']) ?_)
  clear HZ
  generalize World.setRow _ _ _ = V6 at HY HB8 ⊢
  generalize w7.heap.size = b6 at HY ⊢
  try clear w7
  have HT6 : Hid (Tab V6) := HT5.out.on HB8.out
  have HL6 : Hid (TbL V6 t) := HL.out.on HB8.out
  have HX6 : Hid (V6.heap[b4]? = some (.cells t.vals 26 (0, 0))) := (HB8.out.block _ (hp_lt HX.out)).trans HX.out
  have HB6 : Hid (Below w.heap.size w V6) := below2 HB5.out HB8.out
  clear HT5 HL HX HB5 HB8
  try clear V5
  refine (least_any V6).mono ?_
  rintro e w8 ⟨rfl, l8, b8⟩
  obtain ⟨y1, y2, y3, y4⟩ := boxed l8 b8 rfl
  have HZ : Hid ((w8.alloc (.cells tb0 26)).heap[w8.heap.size]? = some (.cells tb0 26 (0, 0))) := heap_new _ _
  have HV : Hid (((w8.alloc (.cells tb0 26)).setRow w8.heap.size (lsT V6.heap.size).vals).heap[w8.heap.size]? = some (.cells (lsT V6.heap.size).vals 26 (0, 0)) ∧ LsB ((w8.alloc (.cells tb0 26)).setRow w8.heap.size (lsT V6.heap.size).vals) V6.heap.size ∧ Below V6.heap.size V6 ((w8.alloc (.cells tb0 26)).setRow w8.heap.size (lsT V6.heap.size).vals) ∧ V6.heap.size + 6 < w8.heap.size) := ⟨y1, y2, y3, y4⟩
  clear y1 y2 y3 y4 l8 b8
  go_upto_region 6 with (refine wpList_store_row rfl 26 (.tmp 8) (.tmp 32) rfl w8.heap.size (lsT V6.heap.size).vals rfl rfl 26 tb0 HZ.out size26' rfl (allTb _) ?_)
  have E5 : (w8.alloc (.cells #[.string ⟨#[]⟩, .slice none 0 0, .int .i64 0, .slice none 0 0, .slice none 0 0, .slice none 0 0] 26)) = (w8.alloc (.cells tb0 26)) := rfl
  rw [E5]
  clear E5 HZ
  generalize World.setRow _ _ _ = V8 at HV ⊢
  generalize w8.heap.size = b8 at HV ⊢
  try clear w8
  have c4 : V8.cell? ⟨b8, 4, none⟩ = some (.slice (some ⟨V6.heap.size + 1, 0, none⟩) 4 4) := (cell_of HV.out.1 4).trans rfl
  have c7 : V8.cell? ⟨V6.heap.size + 1, 7, none⟩ = some (.int .i64 2) := (cell_of HV.out.2.1.D 7).trans rfl
  have f7 : V8.frozen? ⟨V6.heap.size + 1, 7, none⟩ = false := frozen_of HV.out.2.1.D 7
  go_upto_region 7 with fail
  clear c4 c7 f7
  obtain ⟨z1, z2⟩ := spoilW HV.out.2.1 HV.out.1 HV.out.2.2.2 rfl
  have HB9 : Hid (Below V6.heap.size V6 (V8.setCell ⟨V6.heap.size + 1, 7, none⟩ (.int .i64 6))) := HV.out.2.2.1.setCell (by show V6.heap.size ≤ V6.heap.size + 1; omega) _
  have HX9 : Hid ((V8.setCell ⟨V6.heap.size + 1, 7, none⟩ (.int .i64 6)).heap[b8]? = some (.cells (lsW V6.heap.size).vals 26 (0, 0))) := z1
  have HL9 : Hid (TbL (V8.setCell ⟨V6.heap.size + 1, 7, none⟩ (.int .i64 6)) (lsW V6.heap.size)) := z2
  clear z1 z2 HV
  generalize World.setCell _ _ _ = V9 at HB9 HX9 HL9 ⊢
  try clear V8
  have cW := check_any (lsW V6.heap.size) V9 HL9.out (HT6.out.on HB9.out)
  rw [lw_check] at cW
  go_wp2_with (refine wpList_load_row rfl 26 (.tmp 8) rfl b8 rfl 26 (lsW V6.heap.size).vals (0, 0) _ HX9.out Tryd.underlying26 rfl size26' ?_)
  refine cW.mono ?_
  rintro e wA ⟨rfl, bA⟩
  have HBA : Hid (Below V6.heap.size V6 wA) := below2 HB9.out bA
  clear cW bA HB9 HX9 HL9
  go_wp2_with fail
  refine (least_any wA).mono ?_
  rintro e wB ⟨rfl, lB, bB⟩
  obtain ⟨y1, y2, y3, y4⟩ := boxed lB bB rfl
  have HZ : Hid ((wB.alloc (.cells tb0 26)).heap[wB.heap.size]? = some (.cells tb0 26 (0, 0))) := heap_new _ _
  have HV : Hid (((wB.alloc (.cells tb0 26)).setRow wB.heap.size (lsT wA.heap.size).vals).heap[wB.heap.size]? = some (.cells (lsT wA.heap.size).vals 26 (0, 0)) ∧ LsB ((wB.alloc (.cells tb0 26)).setRow wB.heap.size (lsT wA.heap.size).vals) wA.heap.size ∧ Below wA.heap.size wA ((wB.alloc (.cells tb0 26)).setRow wB.heap.size (lsT wA.heap.size).vals) ∧ wA.heap.size + 6 < wB.heap.size) := ⟨y1, y2, y3, y4⟩
  clear y1 y2 y3 y4 lB bB
  go_upto_region 9 with (refine wpList_store_row rfl 26 (.tmp 10) (.tmp 39) rfl wB.heap.size (lsT wA.heap.size).vals rfl rfl 26 tb0 HZ.out size26' rfl (allTb _) ?_)
  have E5 : (wB.alloc (.cells #[.string ⟨#[]⟩, .slice none 0 0, .int .i64 0, .slice none 0 0, .slice none 0 0, .slice none 0 0] 26)) = (wB.alloc (.cells tb0 26)) := rfl
  rw [E5]
  clear E5 HZ
  generalize World.setRow _ _ _ = VB at HV ⊢
  generalize wB.heap.size = bB at HV ⊢
  try clear wB
  have c5 : VB.cell? ⟨bB, 5, none⟩ = some (.slice (some ⟨wA.heap.size + 6, 0, none⟩) 1 1) := (cell_of HV.out.1 5).trans rfl
  have c6 : VB.cell? ⟨wA.heap.size + 6, 0, none⟩ = some (.slice (some ⟨wA.heap.size + 5, 0, none⟩) 1 1) := (cell_of HV.out.2.1.S 0).trans rfl
  have c7 : VB.cell? ⟨wA.heap.size + 5, 2, none⟩ = some (.int .u16 2) := (cell_of HV.out.2.1.G 2).trans rfl
  have f7 : VB.frozen? ⟨wA.heap.size + 5, 2, none⟩ = false := frozen_of HV.out.2.1.G 2
  go_upto_region 10 with fail
  clear c5 c6 c7 f7
  obtain ⟨z1, z2⟩ := spoilK HV.out.2.1 HV.out.1 HV.out.2.2.2 rfl
  have HB9 : Hid (Below wA.heap.size wA (VB.setCell ⟨wA.heap.size + 5, 2, none⟩ (.int .u16 0))) := HV.out.2.2.1.setCell (by show wA.heap.size ≤ wA.heap.size + 5; omega) _
  have HX9 : Hid ((VB.setCell ⟨wA.heap.size + 5, 2, none⟩ (.int .u16 0)).heap[bB]? = some (.cells (lsK wA.heap.size).vals 26 (0, 0))) := z1
  have HL9 : Hid (TbL (VB.setCell ⟨wA.heap.size + 5, 2, none⟩ (.int .u16 0)) (lsK wA.heap.size)) := z2
  clear z1 z2 HV
  generalize World.setCell _ _ _ = VC at HB9 HX9 HL9 ⊢
  try clear VB
  have cW := check_any (lsK wA.heap.size) VC HL9.out ((HT6.out.on HBA.out).on HB9.out)
  rw [lk_check] at cW
  go_wp2_with (refine wpList_load_row rfl 26 (.tmp 10) rfl bB rfl 26 (lsK wA.heap.size).vals (0, 0) _ HX9.out Tryd.underlying26 rfl size26' ?_)
  refine cW.mono ?_
  rintro e wC ⟨rfl, bC⟩
  have HBC : Hid (Below V6.heap.size V6 wC) := below2 (below2 HBA.out HB9.out) bC
  clear cW bC HB9 HX9 HL9 HBA
  go_wp2_with fail
  refine (least_any wC).mono ?_
  rintro e wD ⟨rfl, lD, bD⟩
  have cR := reads_any (lsT wC.heap.size) ⟨0, 9⟩ wD lD.tb
  rw [ls_reads] at cR
  unfold Sp.vals at cR
  have HBD : Hid (Below V6.heap.size V6 wD) := below2 HBC.out bD
  clear lD bD HBC
  go_wp2_with fail
  refine cR.mono ?_
  rintro e wE ⟨rfl, bE⟩
  have HBE : Hid (Below V6.heap.size V6 wE) := below2 HBD.out bE
  clear cR bE HBD
  go_upto_region 12 with fail
  have HFA : Hid (∀ v : World, Below wE.heap.size wE v → v.heap[b4]? = some (.cells t.vals 26 (0, 0))) := fun v hv => ((below2 HBE.out hv).block _ (hp_lt HX6.out)).trans HX6.out
  refine wp_region_held_drew (S := fun v => Below wE.heap.size wE v) (by kernel_rfl) ⟨rfl, rfl, rfl, Nat.le_refl _, fun _ _ => rfl⟩ (fun hHeld => ?_)
  refine wpAnyH_take (i := 0) (v := .agg t.vals) rfl (by kernel_rfl) (by kernel_rfl) (by kernel_rfl) (fun _ _ _ h => h) (yl_row (by rfl) 26 (.tmp 4) rfl b4 rfl 26 t.vals (0, 0) _ HFA.out Tryd.underlying26 rfl size26') (by assumption) ?_
  try simp [Act.put]
  refine wpAnyH_ready (rs := [1]) (by kernel_rfl) (by simp) ?_
  refine AllReadyH.cons rfl (fun K hK => ?_) AllReadyH.nil
  go_simp
  refine (least_any wE.drew).mono ?_
  rintro e wF ⟨rfl, lF, bF⟩
  have hBF : Below wE.heap.size wE wF := ⟨bF.os, bF.tape, bF.output, bF.size, bF.block⟩
  refine hK.out _ _ hBF (fun hHeld => ?_)
  have HBF : Hid (Below V6.heap.size V6 wF) := below2 HBE.out hBF
  have hBF' := hBF
  clear hK K hBF bF
  try simp [Act.put]
  refine wpAnyH_ready (rs := [2]) (by kernel_rfl) (by simp) ?_
  refine AllReadyH.cons rfl (fun K hK => ?_) AllReadyH.nil
  go_simp
  refine (sameTable_any t _ wF (HL6.out.on HBF.out) lF.tb).mono ?_
  rintro e wG ⟨b, rfl, hb, bG⟩
  obtain rfl : b = true := hb.2 (HS.out _)
  have HBG : Hid (Below V6.heap.size V6 wG) := below2 HBF.out bG
  refine hK.out _ _ (below2 hBF' bG) (fun hHeld => ?_)
  clear hK K bG hb lF hBF'
  try simp [Act.put]
  refine wpAnyH_take (i := 3) (v := ?_) rfl (by kernel_rfl) (by kernel_rfl) (by kernel_rfl) (fun _ _ _ h => h) (Or.inl ⟨by rfl, ?_⟩) (by assumption) ?_
  rotate_left
  · (intro v hv; go_simp; try (with_reducible rfl))
  try simp [Act.put]
  refine wpAnyH_done (by kernel_rfl) ?_ _
  have c0 : wG.cell? ⟨b6, 0, none⟩ = some (.int .i64 4) := cell_on (cell_of HY.out 0) HBG.out
  have c1 : wG.cell? ⟨b6, 1, none⟩ = some (.int .i64 0) := cell_on (cell_of HY.out 1) HBG.out
  have hsz : Z.size = 27 := HSZ.out
  have hsz' : (Z.size : Int) = 27 := by rw [hsz]; rfl
  go_wp2_with fail
  go_ret
  exact ⟨rfl, below2 HB6.out HBG.out⟩
end Go.Proofs.YteedmmljahgpjabDoor

/-
  The document's row.
-/
namespace Go.Proofs.YteedmmljahgpjabDoor
open Go.RowKit
set_option linter.unusedVariables false
set_option linter.unusedSimpArgs false
theorem liesN_app : ∀ (l m : List Sp) (p : Int), liesN p (l ++ m) = (liesN p l).bind fun q => liesN q m
  | [], m, p => rfl
  | x :: l, m, p => by
    simp only [List.cons_append, liesN]
    split
    · rfl
    · exact liesN_app l m _
end Go.Proofs.YteedmmljahgpjabDoor

/-
  The document's fit.
-/
namespace Go.Proofs.YteedmmljahgpjabDoor
open Go.RowKit
set_option linter.unusedVariables false
set_option linter.unusedSimpArgs false
theorem OwnK.putAt {w V : World} {b t : Nat} {cs : Array Value} {bs : List (Nat × Nat × Array Value)} {e sz : Nat} {v : Value} {vs : List (Array Value)} (h : OwnK w V ((b, t, cs) :: bs) e sz v vs) (hN : ∀ p ∈ bs, p.1 ≠ b) (j : Nat) (u : Value) : OwnK w (V.setCell ⟨b, j, none⟩ u) ((b, t, cs.setIfInBounds j u) :: bs) e sz v vs := by
  obtain ⟨q1, q2, q3⟩ := h.K _ (List.mem_cons_self ..)
  refine ⟨owns_blk' h.R fun g hg => heap_setCell_other _ _ _ _ (fun e => q3 (by rw [hg, e])), h.Z, h.B.setCell q2 _, fun p hp => ?_⟩
  rcases List.mem_cons.1 hp with rfl | hp
  · exact ⟨heap_set u q1, q2, q3⟩
  · obtain ⟨r1, r2, r3⟩ := h.K p (List.mem_cons_of_mem _ hp)
    exact ⟨(heap_setCell_other _ _ _ _ (hN p hp)).trans r1, r2, r3⟩
end Go.Proofs.YteedmmljahgpjabDoor

/-
  The document's rows: what is wrong with a row's spans.
-/
namespace Go.Proofs.YteedmmljahgpjabDoor
open Go.RowKit
set_option linter.unusedVariables false
set_option linter.unusedSimpArgs false
def spD (t : TbM) (x : Sp) : Int := (spanE t (fun _ => 0) x.f.toNat x.t.toNat).1
def spsD (t : TbM) : List Sp → Int
  | [] => 0
  | x :: l => if spD t x == 0 then spsD t l else spD t x
def hasR (r : RowM) (i : Nat) : List Sp := (((prts (partsN r.k r.o)).zip (spL r)).drop i).filterMap (fun q => if q.1 then some q.2 else none)
theorem hasR_0 (r : RowM) : hasR r 0 = hasL r := by
  unfold hasR hasL hasI
  rw [List.drop_zero, List.take_of_length_le (by simp [prts, spL])]
end Go.Proofs.YteedmmljahgpjabDoor
