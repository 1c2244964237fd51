import Derived.Test.YteedmmljahgpjaaGreatDoorProg
import Derived.Test.YteedmmljahgpjaaGreatDoorM3
import Derived.Deep.QuietTactic
import Derived.BigQuiet
import Derived.Below
import Derived.WalkKit
import Derived.ProofKit
import Derived.Outline
import Derived.ArgAppend
import Derived.Laws.IdiomStrings
import Derived.OwnWalk
/-
  Walks of layer 3's leaves: Size, Zig, Zag, Sum, mayEnd, and the document's Zig, Zag, Sum.
-/
namespace Go.Proofs.YteedmmljahgpjaaGreatDoor.W
open Go.RowKit

theorem retb {a b : Bool} (h : a = b) : Ending.returned (.bool a) = .returned (.bool b) := by rw [h]
theorem ret1 {k : IntKind} {a b : Int} (h : a = b) : Ending.returned (.int k a) = .returned (.int k b) := by rw [h]
theorem ret1s {a b : ByteArray} (h : a = b) : Ending.returned (.string a) = .returned (.string b) := by rw [h]

/-- A signed number as one without a sign, and back. -/
def zigN (n : Int) : Int := if 0 ≤ n then 2 * n else -2 * n - 1
def zagN (x : Int) : Int := if x % 2 = 0 then x / 2 else -(x / 2) - 1
theorem zag_zig (n : Int) : zagN (zigN n) = n := by unfold zagN zigN; split <;> split <;> omega
theorem zig_zag (x : Int) (h : 0 ≤ x) : zigN (zagN x) = x := by unfold zagN zigN; split <;> split <;> omega
theorem zigN_bd (n : Int) (h0 : -9223372036854775808 ≤ n) (h1 : n ≤ 9223372036854775807) : 0 ≤ zigN n ∧ zigN n ≤ 18446744073709551615 := by unfold zigN; split <;> omega
theorem zagN_bd (x : Int) (h0 : 0 ≤ x) (h1 : x ≤ 18446744073709551615) : -9223372036854775808 ≤ zagN x ∧ zagN x ≤ 9223372036854775807 := by unfold zagN; split <;> omega

theorem zig_any (n : Int) (h0 : -9223372036854775808 ≤ n) (h1 : n ≤ 9223372036854775807) (w : World) :
    Calls Tryz.prog 106 #[.int .i64 n] w fun e w' => e = .returned (.int .u64 (zigN n)) ∧ w' = w := by
  by_cases hn : n < 0
  · have HN : Hid (bits .xor .u64 IntKind.u64.max (n % 18446744073709551616 * 2 % 18446744073709551616) = zigN n) := by
      show _ = _
      rw [not64 _ (by omega) (by omega)]
      unfold zigN
      rw [if_neg (by omega)]
      omega
    go_enter Tryz.func106, Tryz.ntmps106
    go_wp2_with fail
    go_ret
    exact ⟨ret1 (by simp only [IntKind.wrap_u64]; exact HN.out), rfl⟩
  · go_enter Tryz.func106, Tryz.ntmps106
    go_wp2_with fail
    go_ret
    exact ⟨ret1 (by unfold zigN; rw [if_pos (by omega)]; (try simp only [IntKind.wrap_u64]); omega), rfl⟩
theorem rzig_any (n : Int) (h0 : -9223372036854775808 ≤ n) (h1 : n ≤ 9223372036854775807) (w : World) :
    Calls Tryz.prog 82 #[.int .i64 n] w fun e w' => e = .returned (.int .u64 (zigN n)) ∧ w' = w := by
  by_cases hn : n < 0
  · have hn' : ¬ 0 ≤ n := by omega
    go_enter Tryz.func82, Tryz.ntmps82
    go_wp2_with fail
    go_ret
    exact ⟨ret1 (by unfold zigN; rw [if_neg (by omega)]; (try simp only [IntKind.wrap_u64]); omega), rfl⟩
  · have hn' : 0 ≤ n := by omega
    go_enter Tryz.func82, Tryz.ntmps82
    go_wp2_with fail
    go_ret
    exact ⟨ret1 (by unfold zigN; rw [if_pos (by omega)]; (try simp only [IntKind.wrap_u64]); omega), rfl⟩
theorem zag_any (x : Int) (h0 : 0 ≤ x) (h1 : x ≤ 18446744073709551615) (w : World) :
    Calls Tryz.prog 134 #[.int .u64 x] w fun e w' => e = .returned (.int .i64 (zagN x)) ∧ w' = w := by
  have hand := and1 x h0 h1
  have hnot := noti64 (x / 2) (by omega) (by omega)
  by_cases hn : x % 2 = 1
  · go_enter Tryz.func134, Tryz.ntmps134
    go_wp2_with fail
    go_ret
    exact ⟨ret1 (by unfold zagN; rw [if_neg (by omega)]; try simp only [hnot]), rfl⟩
  · go_enter Tryz.func134, Tryz.ntmps134
    go_wp2_with fail
    go_ret
    exact ⟨ret1 (by unfold zagN; rw [if_pos (by omega)]), rfl⟩
theorem rzag_any (x : Int) (h0 : 0 ≤ x) (h1 : x ≤ 18446744073709551615) (w : World) :
    Calls Tryz.prog 87 #[.int .u64 x] w fun e w' => e = .returned (.int .i64 (zagN x)) ∧ w' = w := by
  by_cases hn : x % 2 = 0
  · go_enter Tryz.func87, Tryz.ntmps87
    go_wp2_with fail
    go_ret
    exact ⟨ret1 (by unfold zagN; rw [if_pos (by omega)]), rfl⟩
  · go_enter Tryz.func87, Tryz.ntmps87
    go_wp2_with fail
    go_ret
    exact ⟨ret1 (by unfold zagN; rw [if_neg (by omega)]), rfl⟩

/-- May a number's last byte be this one? -/
def endB (c i : Int) : Bool := decide (¬ ((i = 9 ∧ c ≠ 1) ∨ (c = 0 ∧ 0 < i)))
theorem endEq {P Q : Prop} [Decidable P] [Decidable Q] (h : P ↔ Q) : decide P = decide Q := by simp [h]
theorem mayEnd_any (c i : Int) (c0 : 0 ≤ c) (c1 : c ≤ 255) (i0 : 0 ≤ i) (i1 : i ≤ 9) (w : World) :
    Calls Tryz.prog 148 #[.int .u8 c, .int .i64 i] w fun e w' => e = .returned (.bool (endB c i)) ∧ w' = w := by
  by_cases hi : i = 9
  · by_cases hc : c = 1
    · subst hi hc
      go_enter Tryz.func148, Tryz.ntmps148
      go_wp2_with fail
      go_ret
      exact ⟨retb (by decide), rfl⟩
    · go_enter Tryz.func148, Tryz.ntmps148
      go_wp2_with fail
      go_ret
      exact ⟨retb (endEq (by omega)), rfl⟩
  · by_cases hc : c = 0
    · by_cases h0 : i = 0
      · subst hc h0
        go_enter Tryz.func148, Tryz.ntmps148
        go_wp2_with fail
        go_ret
        exact ⟨retb (by decide), rfl⟩
      · go_enter Tryz.func148, Tryz.ntmps148
        go_wp2_with fail
        go_ret
        exact ⟨retb (endEq (by omega)), rfl⟩
    · go_enter Tryz.func148, Tryz.ntmps148
      go_wp2_with fail
      go_ret
      exact ⟨retb (by unfold endB; exact (decide_eq_true (by omega)).symm), rfl⟩

/-! ### The check -/
theorem iv {k : IntKind} {a b : Int} (h : a = b) : Value.int k a = .int k b := by rw [h]
theorem sum_step (c : Nat) (x : UInt8) (hc : c < 4294967296) : bits .xor .u32 (c : Int) ((x.toNat : Int) % 4294967296) * 16777619 % 4294967296 = ((sumStep c x : Nat) : Int) := by
  have hx := x.toNat_lt
  rw [show (x.toNat : Int) % 4294967296 = ((x.toNat : Nat) : Int) by omega, u32_xor_nat _ _ hc (by omega)]
  unfold sumStep
  omega
theorem rsum_step (c : Nat) (x : UInt8) (hc : c < 4294967296) : (IntKind.u64.wrap (bits .xor .u64 (c : Int) (IntKind.u64.wrap (x.toNat : Int)) * 16777619)).tmod 4294967296 = ((sumStep c x : Nat) : Int) := by
  have hx := x.toNat_lt
  have h2 := xor_lt hc x
  have hw : IntKind.u64.wrap (x.toNat : Int) = ((x.toNat : Nat) : Int) := by rw [IntKind.wrap_u64]; omega
  rw [hw, u64_xor_nat _ _ (by omega) (by omega), IntKind.wrap_u64, Int.tmod_eq_emod_of_nonneg (by omega)]
  unfold sumStep
  omega
theorem sumL_nil : sumL [] = 2166136261 := by unfold sumL; exact List.foldl_nil
theorem sumL_start (l : List UInt8) : (2166136261 : Int) = ((sumL (l.take 0) : Nat) : Int) := by
  have h : sumL (l.take 0) = 2166136261 := sumL_nil
  omega
theorem sum_any (s : ByteArray) (hs : s.size ≤ 140737488355328) (w : World) :
    Calls Tryz.prog 105 #[.string s] w fun e w' => e = .returned (.int .u32 (sumL s.data.toList : Nat)) ∧ w' = w := by
  go_enter Tryz.func105, Tryz.ntmps105
  go_wp2_with fail
  go_loop [3, 7] (fun c i => ∃ (k : Nat) (d : Int), k ≤ s.size ∧ i = .int .i64 k ∧ c = .int .u32 d ∧ Hid (d = (sumL (s.data.toList.take k) : Nat))) (fun _ i => s.size - (intOf i).toNat)
  case atStart => exact ⟨0, 2166136261, by omega, rfl, rfl, sumL_start _⟩
  case round =>
    obtain ⟨k, d, hk, rfl, rfl, HD⟩ := hrel
    by_cases hlt : k < s.size
    · have hstep := sum_step (sumL (s.data.toList.take k)) s[k] (sumL_lt _)
      rw [← HD.out, ← sumL_snoc, ← take_at s k hlt] at hstep
      go_wp2_with fail
      go_round
      case rel => exact ⟨k + 1, (sumL (s.data.toList.take (k + 1)) : Nat), by omega, by go_num, by rw [hstep], rfl⟩
      case measure => simp [intOf]; omega
    · go_wp2_with fail
      go_ret
      exact ⟨ret1 (by rw [HD.out, List.take_of_length_le (by rw [len_of]; omega)]), rfl⟩
theorem rsum_any (s : ByteArray) (hs : s.size ≤ 140737488355328) (w : World) :
    Calls Tryz.prog 107 #[.string s] w fun e w' => e = .returned (.int .u32 (sumL s.data.toList : Nat)) ∧ w' = w := by
  go_enter Tryz.func107, Tryz.ntmps107
  go_wp2_with fail
  go_loop [3, 4] (fun c i => ∃ (k : Nat) (d : Int), k ≤ s.size ∧ i = .int .i64 k ∧ c = .int .u64 d ∧ Hid (d = (sumL (s.data.toList.take k) : Nat))) (fun _ i => s.size - (intOf i).toNat)
  case atStart => exact ⟨0, 2166136261, by omega, rfl, rfl, sumL_start _⟩
  case round =>
    obtain ⟨k, d, hk, rfl, rfl, HD⟩ := hrel
    have hlt2 := sumL_lt (s.data.toList.take k)
    have hd0 : 0 ≤ d := by rw [HD.out]; omega
    have hd1 : d < 4294967296 := by rw [HD.out]; omega
    by_cases hlt : k < s.size
    · have hstep := rsum_step (sumL (s.data.toList.take k)) s[k] (sumL_lt _)
      rw [← HD.out, ← sumL_snoc, ← take_at s k hlt] at hstep
      go_wp2_with fail
      go_round
      case rel => exact ⟨k + 1, (sumL (s.data.toList.take (k + 1)) : Nat), by omega, by go_num, rfl, rfl⟩
      case measure => simp [intOf]; omega
    · go_wp2_with fail
      go_ret
      exact ⟨ret1 (by rw [HD.out, List.take_of_length_le (by rw [len_of]; omega)] ), rfl⟩
end Go.Proofs.YteedmmljahgpjaaGreatDoor.W

/-
  A slice of bytes of the call's own, begun by a conversion from a text, and appended to byte by byte.
-/
namespace Go.Proofs.YteedmmljahgpjaaGreatDoor.W
open Go.RowKit

theorem Tryz.info5 : (Tryz.prog.info? 5).map (fun i => (i.zero, i.size, i.bytes)) = some (some (.int .u8 0), 1, 1) := by kernel_rfl

/-- A slice of bytes of the call's own. -/
def Buf (w : World) (base : Nat) (v : Value) (l : List UInt8) : Prop :=
  ∃ g cap, v = .slice (some ⟨g, 0, none⟩) l.length cap ∧ base ≤ g ∧ g < w.heap.size ∧ l.length ≤ cap ∧
    (∀ j (hj : j < l.length), w.cell? ⟨g, j, none⟩ = some (.int .u8 (l[j].toNat : Int))) ∧
    ∀ j, l.length ≤ j → j < cap → (w.cell? ⟨g, j, none⟩).isSome = true ∧ w.frozen? ⟨g, j, none⟩ = false

theorem Buf.on {w w' : World} {base : Nat} {v : Value} {l : List UInt8} (h : Buf w base v l) (hb : Below w.heap.size w w') : Buf w' base v l := by
  obtain ⟨g, cap, rfl, h1, h2, h3, h4, h5⟩ := h
  exact ⟨g, cap, rfl, h1, Nat.lt_of_lt_of_le h2 hb.size, h3, fun j hj => by rw [hb.cell h2]; exact h4 j hj, fun j a b => by rw [hb.cell h2, hb.frozen h2]; exact h5 j a b⟩
theorem Buf.alloc {w : World} {base : Nat} {v : Value} {l : List UInt8} (h : Buf w base v l) (o : Obj) : Buf (w.alloc o) base v l := h.on ((Below.refl _ w).alloc (Nat.le_refl _) o)

theorem cell_row {w : World} {g j : Nat} {cur : Array Value} {e : TypeId} {fr : Nat × Nat} (h : w.heap[g]? = some (.cells cur e fr)) : w.cell? ⟨g, j, none⟩ = cur[j]? := by
  unfold World.cell?
  rw [h]
  simp
theorem frozen_row {w : World} {g j : Nat} {cur : Array Value} {e : TypeId} {lo hi : Nat} (h : w.heap[g]? = some (.cells cur e (lo, hi))) : w.frozen? ⟨g, j, none⟩ = (decide (lo ≤ j) && decide (j < hi)) := by
  unfold World.frozen?
  rw [h]

/-- A text's bytes as a slice. -/
theorem buf_start (s : ByteArray) (w : World) : ∃ v w', (convert 9 200 (.string s)).run Tryz.prog w = .ok v w' ∧ Buf w' w.heap.size v s.data.toList ∧ Below w.heap.size w w' := by
  refine ⟨_, _, run_bytes_of_string (P := Tryz.prog) w 9 200 5 s Tryz.underlying9 Tryz.underlying200 Tryz.underlying5, ?_, ?_⟩
  · have hge := grownCap_ge w s.size 0 5
    generalize hC : bytesRow s (grownCap w s.size 0 5) = C
    have hCs : C.size = grownCap w s.size 0 5 := by
      rw [← hC]; unfold bytesRow
      simp only [Array.size_append, Array.size_map, Array.size_replicate]
      have : s.data.size = s.size := rfl
      omega
    have hrow : (w.drew.alloc (.cells C 5 (C.size, C.size + 1))).heap[w.heap.size]? = some (.cells C 5 (C.size, C.size + 1)) := by
      show (w.heap.push _)[w.heap.size]? = _
      simp
    refine ⟨w.heap.size, grownCap w s.size 0 5, by rw [len_of], Nat.le_refl _, by show _ < (w.heap.push _).size; simp, by rw [len_of]; exact hge, ?_, ?_⟩
    · intro j hj
      rw [cell_row hrow, ← hC, bytesRow_at s _ j (by simpa using hj)]
      simp
    · intro j h1 h2
      rw [cell_row hrow, frozen_row hrow]
      refine ⟨by rw [Array.getElem?_eq_getElem (by omega)]; rfl, ?_⟩
      have : decide (C.size ≤ j) = false := decide_eq_false (by omega)
      rw [this]; rfl
  · exact ((Below.refl _ w).drew).alloc (Nat.le_refl _) _

/-- One byte more. -/
theorem buf_append {w : World} {base : Nat} {v : Value} {l : List UInt8} (h : Buf w base v l) (hbase : base ≤ w.heap.size) (ty : TypeId) (ad : Addr) (c : UInt8) (hc : w.cell? ad = some (.int .u8 (c.toNat : Int)))
    (hlen : l.length + 1 ≤ 140737488355328) :
    ∃ v' w', (Builtin.append_ #[200, 200] ty #[v, .slice (some ad) 1 1]).run Tryz.prog w = .ok v' w' ∧ Buf w' base v' (l ++ [c]) ∧ Below base w w' := by
  obtain ⟨i0, hi, hz0, hz1, hz2⟩ := info_parts Tryz.info5
  obtain ⟨g, cap, rfl, hg, hlt, hle, hold, hsp⟩ := h
  have hnews : ∀ j u, [Value.int .u8 (c.toNat : Int)][j]? = some u → w.cell? (ad.add j) = some u := by
    intro j u hu
    match j, hu with
    | 0, hu =>
      simp at hu
      subst hu
      have : ad.add 0 = ad := by cases ad with | mk b o sp => cases sp <;> simp [Addr.add]
      rw [this]; exact hc
  by_cases hr : l.length + 1 ≤ cap
  · have hs := hsp l.length (Nat.le_refl _) (by omega)
    have hrun := run_append_room_cells (P := Tryz.prog) w 200 ty 5 i0 Tryz.underlying200 hi g 0 l.length cap ad 1 1 [.int .u8 (c.toNat : Int)] (by rw [hz1]; rfl) hnews (by intro u hu; simp at hu; subst hu; rfl) hr
      (fun j hj => by
        obtain rfl : j = 0 := by simp at hj; exact hj
        rw [hz1]; simpa using hs.1)
      (fun j hj => by
        obtain rfl : j = 0 := by simp at hj; exact hj
        rw [hz1]; simpa using hs.2)
    refine ⟨_, _, hrun, ?_, ?_⟩
    · rw [hz1, Nat.mul_one, Nat.zero_add]
      refine ⟨g, cap, by simp, hg, by show g < ((w.setCell ⟨g, l.length, none⟩ _).heap).size; simpa [World.setCell] using hlt, by simpa using hr, ?_, ?_⟩
      · intro j hj
        by_cases hj' : j < l.length
        · rw [World.cell?_setCells_out g _ _ _ _ (fun _ _ => Or.inl hj'), List.getElem_append_left hj']
          exact hold j hj'
        · obtain rfl : j = l.length := by simp at hj; omega
          have := World.cell?_setCells_in g [.int .u8 (c.toNat : Int)] l.length w (fun j hj => by
            obtain rfl : j = 0 := by simp at hj; exact hj
            simpa using hs.1) 0 (by simp)
          simpa using this
      · intro j h1 h2
        simp only [List.length_append, List.length_cons, List.length_nil] at h1
        rw [World.cell?_setCells_out g _ _ _ _ (fun _ _ => Or.inr (by simp; omega)), World.frozen?_setCells]
        exact hsp j (by omega) h2
    · exact (Below.refl base w).setCell (p := ⟨g, _, none⟩) hg _
  · obtain ⟨v', w', hrun, hown, hgr⟩ := run_append_arg_grows (P := Tryz.prog) w 200 ty 5 i0 (.int .u8 0) 1 1 Tryz.underlying200 hi hz0 hz1 hz2 rfl (by decide) ⟨g, 0, none⟩ l.length cap (l.map fun c => .int .u8 (c.toNat : Int)) (by simp)
      (fun j u hu => by
        rw [Addr.add_lit, Nat.zero_add]
        have hj : j < l.length := by have := (List.getElem?_eq_some_iff.1 hu).1; simpa using this
        rw [hold j hj]
        simp [List.getElem?_eq_getElem hj] at hu
        rw [← hu]) ad 1 1 [.int .u8 (c.toNat : Int)] rfl hnews (by omega) (by unfold maxLen; omega) (by omega)
    refine ⟨v', w', hrun, ?_, (Below.refl base w).grown hgr hbase (fun k hk => by cases hk)⟩
    rcases hown.2 with ⟨_, h0⟩ | ⟨g', cap', cur, rfl, hb', hg', hnc, _, hcs, htake⟩
    · omega
    · refine ⟨g', cap', by simp, Nat.le_trans hbase hb', (Array.getElem?_eq_some_iff.1 hg').1, by simpa using hnc, ?_, ?_⟩
      · intro j hj
        have hj' : j < l.length + 1 := by simpa using hj
        have hca := hown.cellAt j (by omega)
        rw [hca]
        by_cases hl : j < l.length
        · rw [List.getElem?_append_left (by simpa using hl)]
          simp [List.getElem_append_left hl, hl]
        · obtain rfl : j = l.length := by omega
          rw [List.getElem?_append_right (by simp)]
          simp
      · intro j h1 h2
        rw [cell_row hg', frozen_row hg']
        refine ⟨by rw [Array.getElem?_eq_getElem (by omega)]; rfl, ?_⟩
        simp

theorem wpList_append_buf (w : World) {ops : Array Oper} {rest : List Oper} {o : Oper} {a : Act} {Q : Exit → Act → World → Prop} (hgd : o.guard = none) (s x : Operand)
    (ho : o.op = .call { callee := .builtin .append, args := #[s, x], argTypes := #[200, 200] })
    {base : Nat} {v : Value} {l : List UInt8} (hs : a.eval s = v) (h : Buf w base v l) (hbase : base ≤ w.heap.size) (ad : Addr) (c : UInt8) (hx : a.eval x = .slice (some ad) 1 1) (hc : w.cell? ad = some (.int .u8 (c.toNat : Int)))
    (hlen : l.length + 1 ≤ 140737488355328)
    (hK : ∀ v' w', Buf w' base v' (l ++ [c]) → Below base w w' → wpList Tryz.prog ops Q rest (a.put o.dst v') w') : wpList Tryz.prog ops Q (o :: rest) a w := by
  refine wpList_plain hgd fun K hK' => ?_
  obtain ⟨v', w', hrun, r1, r2⟩ := buf_append h hbase o.type ad c hc hlen
  unfold Oper.wp
  simp [execOp, ho, resolve, invoke, builtin, hs, hx, hrun, Result.andThen]
  exact hK' _ _ (hK v' w' r1 r2)

/-- The bytes as a text. -/
theorem buf_string {w : World} {base : Nat} {v : Value} {l : List UInt8} (h : Buf w base v l) : (convert 200 9 v).run Tryz.prog w = .ok (.string (bytes l)) w := by
  obtain ⟨g, cap, rfl, _, _, _, hold, _⟩ := h
  refine run_convert_bytes_back (P := Tryz.prog) w 200 9 5 ⟨g, 0, none⟩ cap l Tryz.underlying200 Tryz.underlying5 Tryz.underlying9 (fun j hj => ?_)
  rw [Addr.add_lit, Nat.zero_add]
  exact hold j hj
end Go.Proofs.YteedmmljahgpjaaGreatDoor.W
