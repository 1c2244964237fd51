/-
  A slice of bytes of the call's own, begun by a conversion from a text, and appended to byte by byte.
-/
import Derived.Test.YtldipdbcmehioaaLeaf
import Derived.ArgAppend
import Derived.Laws.IdiomStrings
import Derived.OwnWalk
namespace Go.Proofs.Ytldipdbcmehioaa
open Go.RowKit

theorem Try.info5 : (Try.prog.info? 5).map (fun i => (i.zero, i.size, i.bytes)) = some (some (.int .u8 0), 1, 1) := by kernel_rfl

/-- A slice of bytes of the call's own. -/
def Buf (w : World) (base : Nat) (v : Value) (l : List UInt8) : Prop :=
  ∃ g cap, v = .slice (some ⟨g, 0, none⟩) l.length cap ∧ base ≤ g ∧ g < w.heap.size ∧ l.length ≤ cap ∧
    (∀ j (hj : j < l.length), w.cell? ⟨g, j, none⟩ = some (.int .u8 (l[j].toNat : Int))) ∧
    ∀ j, l.length ≤ j → j < cap → (w.cell? ⟨g, j, none⟩).isSome = true ∧ w.frozen? ⟨g, j, none⟩ = false

theorem Buf.on {w w' : World} {base : Nat} {v : Value} {l : List UInt8} (h : Buf w base v l) (hb : Below w.heap.size w w') : Buf w' base v l := by
  obtain ⟨g, cap, rfl, h1, h2, h3, h4, h5⟩ := h
  exact ⟨g, cap, rfl, h1, Nat.lt_of_lt_of_le h2 hb.size, h3, fun j hj => by rw [hb.cell h2]; exact h4 j hj, fun j a b => by rw [hb.cell h2, hb.frozen h2]; exact h5 j a b⟩
theorem Buf.alloc {w : World} {base : Nat} {v : Value} {l : List UInt8} (h : Buf w base v l) (o : Obj) : Buf (w.alloc o) base v l := h.on ((Below.refl _ w).alloc (Nat.le_refl _) o)

theorem cell_row {w : World} {g j : Nat} {cur : Array Value} {e : TypeId} {fr : Nat × Nat} (h : w.heap[g]? = some (.cells cur e fr)) : w.cell? ⟨g, j, none⟩ = cur[j]? := by
  unfold World.cell?
  rw [h]
  simp
theorem frozen_row {w : World} {g j : Nat} {cur : Array Value} {e : TypeId} {lo hi : Nat} (h : w.heap[g]? = some (.cells cur e (lo, hi))) : w.frozen? ⟨g, j, none⟩ = (decide (lo ≤ j) && decide (j < hi)) := by
  unfold World.frozen?
  rw [h]

/-- A text's bytes as a slice. -/
theorem buf_start (s : ByteArray) (w : World) : ∃ v w', (convert 9 46 (.string s)).run Try.prog w = .ok v w' ∧ Buf w' w.heap.size v s.data.toList ∧ Below w.heap.size w w' := by
  refine ⟨_, _, run_bytes_of_string (P := Try.prog) w 9 46 5 s Try.underlying9 Try.underlying46 Try.underlying5, ?_, ?_⟩
  · have hge := grownCap_ge w s.size 0 5
    generalize hC : bytesRow s (grownCap w s.size 0 5) = C
    have hCs : C.size = grownCap w s.size 0 5 := by
      rw [← hC]; unfold bytesRow
      simp only [Array.size_append, Array.size_map, Array.size_replicate]
      have : s.data.size = s.size := rfl
      omega
    have hrow : (w.drew.alloc (.cells C 5 (C.size, C.size + 1))).heap[w.heap.size]? = some (.cells C 5 (C.size, C.size + 1)) := by
      show (w.heap.push _)[w.heap.size]? = _
      simp
    refine ⟨w.heap.size, grownCap w s.size 0 5, by rw [len_of], Nat.le_refl _, by show _ < (w.heap.push _).size; simp, by rw [len_of]; exact hge, ?_, ?_⟩
    · intro j hj
      rw [cell_row hrow, ← hC, bytesRow_at s _ j (by simpa using hj)]
      simp
    · intro j h1 h2
      rw [cell_row hrow, frozen_row hrow]
      refine ⟨by rw [Array.getElem?_eq_getElem (by omega)]; rfl, ?_⟩
      have : decide (C.size ≤ j) = false := decide_eq_false (by omega)
      rw [this]; rfl
  · exact ((Below.refl _ w).drew).alloc (Nat.le_refl _) _

/-- One byte more. -/
theorem buf_append {w : World} {base : Nat} {v : Value} {l : List UInt8} (h : Buf w base v l) (hbase : base ≤ w.heap.size) (ty : TypeId) (ad : Addr) (c : UInt8) (hc : w.cell? ad = some (.int .u8 (c.toNat : Int)))
    (hlen : l.length + 1 ≤ 140737488355328) :
    ∃ v' w', (Builtin.append_ #[46, 46] ty #[v, .slice (some ad) 1 1]).run Try.prog w = .ok v' w' ∧ Buf w' base v' (l ++ [c]) ∧ Below base w w' := by
  obtain ⟨i0, hi, hz0, hz1, hz2⟩ := info_parts Try.info5
  obtain ⟨g, cap, rfl, hg, hlt, hle, hold, hsp⟩ := h
  have hnews : ∀ j u, [Value.int .u8 (c.toNat : Int)][j]? = some u → w.cell? (ad.add j) = some u := by
    intro j u hu
    match j, hu with
    | 0, hu =>
      simp at hu
      subst hu
      have : ad.add 0 = ad := by cases ad with | mk b o sp => cases sp <;> simp [Addr.add]
      rw [this]; exact hc
  by_cases hr : l.length + 1 ≤ cap
  · have hs := hsp l.length (Nat.le_refl _) (by omega)
    have hrun := run_append_room_cells (P := Try.prog) w 46 ty 5 i0 Try.underlying46 hi g 0 l.length cap ad 1 1 [.int .u8 (c.toNat : Int)] (by rw [hz1]; rfl) hnews (by intro u hu; simp at hu; subst hu; rfl) hr
      (fun j hj => by
        obtain rfl : j = 0 := by simp at hj; exact hj
        rw [hz1]; simpa using hs.1)
      (fun j hj => by
        obtain rfl : j = 0 := by simp at hj; exact hj
        rw [hz1]; simpa using hs.2)
    refine ⟨_, _, hrun, ?_, ?_⟩
    · rw [hz1, Nat.mul_one, Nat.zero_add]
      refine ⟨g, cap, by simp, hg, by show g < ((w.setCell ⟨g, l.length, none⟩ _).heap).size; simpa [World.setCell] using hlt, by simpa using hr, ?_, ?_⟩
      · intro j hj
        by_cases hj' : j < l.length
        · rw [World.cell?_setCells_out g _ _ _ _ (fun _ _ => Or.inl hj'), List.getElem_append_left hj']
          exact hold j hj'
        · obtain rfl : j = l.length := by simp at hj; omega
          have := World.cell?_setCells_in g [.int .u8 (c.toNat : Int)] l.length w (fun j hj => by
            obtain rfl : j = 0 := by simp at hj; exact hj
            simpa using hs.1) 0 (by simp)
          simpa using this
      · intro j h1 h2
        simp only [List.length_append, List.length_cons, List.length_nil] at h1
        rw [World.cell?_setCells_out g _ _ _ _ (fun _ _ => Or.inr (by simp; omega)), World.frozen?_setCells]
        exact hsp j (by omega) h2
    · exact (Below.refl base w).setCell (p := ⟨g, _, none⟩) hg _
  · obtain ⟨v', w', hrun, hown, hgr⟩ := run_append_arg_grows (P := Try.prog) w 46 ty 5 i0 (.int .u8 0) 1 1 Try.underlying46 hi hz0 hz1 hz2 rfl (by decide) ⟨g, 0, none⟩ l.length cap (l.map fun c => .int .u8 (c.toNat : Int)) (by simp)
      (fun j u hu => by
        rw [Addr.add_lit, Nat.zero_add]
        have hj : j < l.length := by have := (List.getElem?_eq_some_iff.1 hu).1; simpa using this
        rw [hold j hj]
        simp [List.getElem?_eq_getElem hj] at hu
        rw [← hu]) ad 1 1 [.int .u8 (c.toNat : Int)] rfl hnews (by omega) (by unfold maxLen; omega) (by omega)
    refine ⟨v', w', hrun, ?_, (Below.refl base w).grown hgr hbase (fun k hk => by cases hk)⟩
    rcases hown.2 with ⟨_, h0⟩ | ⟨g', cap', cur, rfl, hb', hg', hnc, _, hcs, htake⟩
    · omega
    · refine ⟨g', cap', by simp, Nat.le_trans hbase hb', (Array.getElem?_eq_some_iff.1 hg').1, by simpa using hnc, ?_, ?_⟩
      · intro j hj
        have hj' : j < l.length + 1 := by simpa using hj
        have hca := hown.cellAt j (by omega)
        rw [hca]
        by_cases hl : j < l.length
        · rw [List.getElem?_append_left (by simpa using hl)]
          simp [List.getElem_append_left hl, hl]
        · obtain rfl : j = l.length := by omega
          rw [List.getElem?_append_right (by simp)]
          simp
      · intro j h1 h2
        rw [cell_row hg', frozen_row hg']
        refine ⟨by rw [Array.getElem?_eq_getElem (by omega)]; rfl, ?_⟩
        simp

theorem wpList_append_buf (w : World) {ops : Array Oper} {rest : List Oper} {o : Oper} {a : Act} {Q : Exit → Act → World → Prop} (hgd : o.guard = none) (s x : Operand)
    (ho : o.op = .call { callee := .builtin .append, args := #[s, x], argTypes := #[46, 46] })
    {base : Nat} {v : Value} {l : List UInt8} (hs : a.eval s = v) (h : Buf w base v l) (hbase : base ≤ w.heap.size) (ad : Addr) (c : UInt8) (hx : a.eval x = .slice (some ad) 1 1) (hc : w.cell? ad = some (.int .u8 (c.toNat : Int)))
    (hlen : l.length + 1 ≤ 140737488355328)
    (hK : ∀ v' w', Buf w' base v' (l ++ [c]) → Below base w w' → wpList Try.prog ops Q rest (a.put o.dst v') w') : wpList Try.prog ops Q (o :: rest) a w := by
  refine wpList_plain hgd fun K hK' => ?_
  obtain ⟨v', w', hrun, r1, r2⟩ := buf_append h hbase o.type ad c hc hlen
  unfold Oper.wp
  simp [execOp, ho, resolve, invoke, builtin, hs, hx, hrun, Result.andThen]
  exact hK' _ _ (hK v' w' r1 r2)

/-- The bytes as a text. -/
theorem buf_string {w : World} {base : Nat} {v : Value} {l : List UInt8} (h : Buf w base v l) : (convert 46 9 v).run Try.prog w = .ok (.string (bytes l)) w := by
  obtain ⟨g, cap, rfl, _, _, _, hold, _⟩ := h
  refine run_convert_bytes_back (P := Try.prog) w 46 9 5 ⟨g, 0, none⟩ cap l Try.underlying46 Try.underlying5 Try.underlying9 (fun j hj => ?_)
  rw [Addr.add_lit, Nat.zero_add]
  exact hold j hj
end Go.Proofs.Ytldipdbcmehioaa
