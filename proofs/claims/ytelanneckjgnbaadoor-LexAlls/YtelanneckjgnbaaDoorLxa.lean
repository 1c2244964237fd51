/-
  One token more, behind a list of the call's own.
-/
import Derived.Test.YtelanneckjgnbaaDoorMem
import Derived.Deep.AppendLies
import Derived.Deep.RegionLaw
namespace Go.Proofs.YtelanneckjgnbaaDoor
open Go.RowKit

theorem Tryd.info49 : (Tryd.prog.info? 49).map (fun i => (i.zero, i.size, i.bytes)) = some (some (.agg #[.int .u8 0, .string ⟨#[]⟩, .int .u8 0, .int .i64 0, .int .i64 0]), 5, 48) := by kernel_rfl
/-- The cells of a list of tokens. -/
def tkF (A : Nat → Tk) (j : Nat) : Value := if j % 5 = 0 then .int .u8 (A (j / 5)).k else if j % 5 = 1 then .string (A (j / 5)).x else if j % 5 = 2 then .int .u8 (A (j / 5)).ty else if j % 5 = 3 then .int .i64 (A (j / 5)).n else .int .i64 (A (j / 5)).p
def lsF (L : List Tk) : Nat → Tk := fun i => L.getD i tk0
theorem lsF_lt {L : List Tk} {y : Tk} {i : Nat} (h : i < L.length) : lsF (L ++ [y]) i = lsF L i := by
  unfold lsF
  simp [List.getD, List.getElem?_append_left h]
theorem lsF_at (L : List Tk) (y : Tk) : lsF (L ++ [y]) L.length = y := by
  unfold lsF
  simp [List.getD]
/-- A list of tokens, of the call's own. -/
def RowL (w : World) (v : Value) (L : List Tk) : Prop := Row w 49 5 v L.length (tkF (lsF L))
/-- It lies in memory that is newer than W; and W's is as it was. -/
structure RL (W w : World) (v : Value) (L : List Tk) : Prop where
  row : RowL w v L
  nb : ∀ k, v.ownBlock = some k → W.heap.size ≤ k
  B : Below W.heap.size W w
theorem RL.nil (W : World) : RL W W (.slice none 0 0) [] := ⟨Row.nil _ _ _ _, fun k h => by simp [Value.ownBlock] at h, Below.refl _ _⟩
theorem RL.call {W w w' : World} {v : Value} {L : List Tk} (h : RL W w v L) (k : Below w.heap.size w w') : RL W w' v L :=
  ⟨h.row.of_block (fun b hb => k.block b (h.row.lt b hb)), h.nb, h.B.trans (k.mono h.B.size)⟩
theorem RL.alloc {W w : World} {v : Value} {L : List Tk} (h : RL W w v L) (o : Obj) : RL W (w.alloc o) v L := h.call (below_new w o)
theorem RL.drew {W w : World} {v : Value} {L : List Tk} (h : RL W w v L) : RL W w.drew v L := ⟨h.row.of_block (fun _ _ => rfl), h.nb, h.B.drew⟩
theorem RL.drewN {W w : World} {v : Value} {L : List Tk} (h : RL W w v L) (n : Nat) : RL W (w.drewN n) v L := ⟨h.row.of_block (fun _ _ => rfl), h.nb, below_drew h.B n⟩
theorem RL.hid {W w : World} {v : Value} {L : List Tk} (h : RL W w v L) : Hid (RL W w v L) := h
theorem tk_cells (y : Tk) : ∀ j, j < 5 → (tkA y).toList[j]? = some (tkF (fun _ => y) j) := by
  intro j hj
  match j, hj with
  | 0, _ => rfl
  | 1, _ => rfl
  | 2, _ => rfl
  | 3, _ => rfl
  | 4, _ => rfl
theorem app_core {W w0 w' : World} {v : Value} {L : List Tk} {y : Tk} {g cap : Nat} (hR : RL W w0 v L)
    (h2 : w'.ownsRow 0 49 5 (.slice (some ⟨g, 0, none⟩) (L.length + 1) cap) (L.length + 1) ((List.range (L.length * 5)).map (tkF (lsF L)) ++ (tkA y).toList))
    (h3 : (w0.alloc (.cells (tkA y) 49)).grownBy w' v.ownBlock) (h4 : v.ownBlock = some g ∨ g = (w0.alloc (.cells (tkA y) 49)).heap.size) :
    RL W w' (.slice (some ⟨g, 0, none⟩) (L.length + 1) cap) (L ++ [y]) ∧ w0.heap.size ≤ w'.heap.size ∧ ∀ b, b < w0.heap.size → v.ownBlock ≠ some b → w'.heap[b]? = w0.heap[b]? := by
  have hsz := size_alloc w0 (.cells (tkA y) 49)
  have hB0 := hR.B.alloc hR.B.size (.cells (tkA y) 49)
  refine ⟨⟨?_, ?_, hB0.grown h3 hB0.size (fun k hk => hR.nb k hk)⟩, ?_, ?_⟩
  · have hr := Row.snoc (x := tkF (fun _ => y)) h2 rfl (fun j hj => tk_cells y j hj)
    unfold RowL
    rw [List.length_append, List.length_singleton]
    refine hr.congr fun j hj => ?_
    by_cases h : j < L.length * 5
    · simp only [h, if_true]
      unfold tkF
      rw [lsF_lt (by omega)]
    · have e : j / 5 = L.length := by omega
      simp only [h, if_false]
      unfold tkF
      rw [e, lsF_at, show (j - L.length * 5) % 5 = j % 5 by omega]
  · intro k hk
    simp [Value.ownBlock] at hk
    subst hk
    rcases h4 with h4 | h4
    · exact hR.nb _ h4
    · have := hR.B.size; omega
  · have := h3.size; omega
  · intro b hb hne
    rw [h3.block b (by omega) (fun e => hne e.symm)]
    exact Below.heap_alloc _ _ _ hb

theorem news_core (w0 : World) (y : Tk) : ∀ j u, (tkA y).toList[j]? = some u → (w0.alloc (.cells (tkA y) 49)).cell? ((⟨w0.heap.size, 0, none⟩ : Addr).add j) = some u := World.news_of_block (heap_new w0 _)
theorem one_core (y : Tk) : ∀ u ∈ (tkA y).toList, u.oneCell' = true := by
  intro u hu
  simp [tkA] at hu
  rcases hu with rfl | rfl | rfl | rfl | rfl <;> rfl
theorem append_token {W w0 : World} {ops : Array Oper} {rest : List Oper} {o : Oper} {a : Act} {Q : Exit → Act → World → Prop} (hgd : o.guard = none) (d x : Operand)
    (ho : o.op = .call { callee := .builtin .append, args := #[d, x], argTypes := #[39, 39] }) (y : Tk) {v : Value} {L : List Tk} (hR : RL W w0 v L) (hs : a.eval d = v) (hx : a.eval x = .slice (some ⟨w0.heap.size, 0, none⟩) 1 1) (hlen : L.length ≤ 1000000000)
    (h : ∀ v' w', RL W w' v' (L ++ [y]) → w0.heap.size ≤ w'.heap.size → (∀ b, b < w0.heap.size → v.ownBlock ≠ some b → w'.heap[b]? = w0.heap[b]?) → wpList Tryd.prog ops Q rest (a.put o.dst v') w') :
    wpList Tryd.prog ops Q (o :: rest) a (w0.alloc (.cells (tkA y) 49)) := by
  obtain ⟨i0, hi, hz0, hz1, hz2⟩ := info_parts Tryd.info49
  refine wpList_append_lies _ hgd d x 39 ho 0 49 i0 _ 5 48 Tryd.underlying39 hi hz0 hz1 hz2 rfl (by decide) v L.length _ hs (hR.row.alloc _) ⟨w0.heap.size, 0, none⟩ 1 1 (tkA y).toList hx rfl (news_core w0 y) (one_core y) (by decide) (by unfold maxLen; omega) (by omega) (Nat.zero_le _) _ rfl ?_
  intro g cap w' h2 h3 h4 h5
  obtain ⟨q1, q2, q3⟩ := app_core hR h2 h3 h4
  exact h _ w' q1 q2 q3
theorem step_token {W w0 : World} {ops : Array Oper} {o : Oper} {a : Act} {K : Act → World → Prop} {Q : Exit → Act → World → Prop} {E : Prop} (hgd : o.guard = none) (d x : Operand)
    (ho : o.op = .call { callee := .builtin .append, args := #[d, x], argTypes := #[39, 39] }) (y : Tk) {v : Value} {L : List Tk} (hR : RL W w0 v L) (hs : a.eval d = v) (hx : a.eval x = .slice (some ⟨w0.heap.size, 0, none⟩) 1 1) (hlen : L.length ≤ 1000000000)
    (h : ∀ v' w', RL W w' v' (L ++ [y]) → w0.heap.size ≤ w'.heap.size → (∀ b, b < w0.heap.size → v.ownBlock ≠ some b → w'.heap[b]? = w0.heap[b]?) → K (a.put o.dst v') w') :
    if Region.wanted o (yielded ops a.tmps) = true then Oper.wp Tryd.prog o a (w0.alloc (.cells (tkA y) 49)) K Q else E := by
  obtain ⟨i0, hi, hz0, hz1, hz2⟩ := info_parts Tryd.info49
  refine step_append_lies _ hgd d x 39 ho 0 49 i0 _ 5 48 Tryd.underlying39 hi hz0 hz1 hz2 rfl (by decide) v L.length _ hs (hR.row.alloc _) ⟨w0.heap.size, 0, none⟩ 1 1 (tkA y).toList hx rfl (news_core w0 y) (one_core y) (by decide) (by unfold maxLen; omega) (by omega) (Nat.zero_le _) _ rfl ?_
  intro g cap w' h2 h3 h4 h5
  obtain ⟨q1, q2, q3⟩ := app_core hR h2 h3 h4
  exact h _ w' q1 q2 q3
end Go.Proofs.YtelanneckjgnbaaDoor
