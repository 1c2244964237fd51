/-
  One feed more, behind a list of the call's own.
-/
import Derived.Test.YtjjmpfpbfkploaaLentF
import Derived.Deep.AppendLies
import Derived.Deep.RegionLaw
namespace Go.Proofs.Ytjjmpfpbfkploaa
open Go.RowKit

def lsF (L : List Fd) : Nat → Fd := fun i => L.getD i ⟨0, 0, 0⟩
theorem lsF_lt {L : List Fd} {y : Fd} {i : Nat} (h : i < L.length) : lsF (L ++ [y]) i = lsF L i := by
  unfold lsF
  simp [List.getD, List.getElem?_append_left h]
theorem lsF_at (L : List Fd) (y : Fd) : lsF (L ++ [y]) L.length = y := by
  unfold lsF
  simp [List.getD]
/-- A list of feeds, of the call's own. -/
def RowL (w : World) (v : Value) (L : List Fd) : Prop := Row w 66 3 v L.length (fdF (lsF L))
/-- It lies in memory that is newer than W; and W's is as it was. -/
structure RL (W w : World) (v : Value) (L : List Fd) : Prop where
  row : RowL w v L
  nb : ∀ k, v.ownBlock = some k → W.heap.size ≤ k
  B : Below W.heap.size W w
theorem RL.nil (W : World) : RL W W (.slice none 0 0) [] := ⟨Row.nil _ _ _ _, fun k h => by simp [Value.ownBlock] at h, Below.refl _ _⟩
theorem RL.call {W w w' : World} {v : Value} {L : List Fd} (h : RL W w v L) (k : Below w.heap.size w w') : RL W w' v L :=
  ⟨h.row.of_block (fun b hb => k.block b (h.row.lt b hb)), h.nb, h.B.trans (k.mono h.B.size)⟩
theorem RL.alloc {W w : World} {v : Value} {L : List Fd} (h : RL W w v L) (o : Obj) : RL W (w.alloc o) v L := h.call (below_new w o)
theorem RL.drew {W w : World} {v : Value} {L : List Fd} (h : RL W w v L) : RL W w.drew v L := ⟨h.row.of_block (fun _ _ => rfl), h.nb, h.B.drew⟩
theorem RL.drewN {W w : World} {v : Value} {L : List Fd} (h : RL W w v L) (n : Nat) : RL W (w.drewN n) v L := ⟨h.row.of_block (fun _ _ => rfl), h.nb, below_drew h.B n⟩
theorem RL.hid {W w : World} {v : Value} {L : List Fd} (h : RL W w v L) : Hid (RL W w v L) := h
theorem fd_cells (y : Fd) : ∀ j, j < 3 → (fdA y).toList[j]? = some (fdF (fun _ => y) j) := by
  intro j hj
  match j, hj with
  | 0, _ => rfl
  | 1, _ => rfl
  | 2, _ => rfl
theorem app_core {W w0 w' : World} {v : Value} {L : List Fd} {y : Fd} {g cap : Nat} (hR : RL W w0 v L)
    (h2 : w'.ownsRow 0 66 3 (.slice (some ⟨g, 0, none⟩) (L.length + 1) cap) (L.length + 1) ((List.range (L.length * 3)).map (fdF (lsF L)) ++ (fdA y).toList))
    (h3 : (w0.alloc (.cells (fdA y) 66)).grownBy w' v.ownBlock) (h4 : v.ownBlock = some g ∨ g = (w0.alloc (.cells (fdA y) 66)).heap.size) :
    RL W w' (.slice (some ⟨g, 0, none⟩) (L.length + 1) cap) (L ++ [y]) ∧ w0.heap.size ≤ w'.heap.size ∧ ∀ b, b < w0.heap.size → v.ownBlock ≠ some b → w'.heap[b]? = w0.heap[b]? := by
  have hsz := size_alloc w0 (.cells (fdA y) 66)
  have hB0 := hR.B.alloc hR.B.size (.cells (fdA y) 66)
  refine ⟨⟨?_, ?_, hB0.grown h3 hB0.size (fun k hk => hR.nb k hk)⟩, ?_, ?_⟩
  · have hr := Row.snoc (x := fdF (fun _ => y)) h2 rfl (fun j hj => fd_cells y j hj)
    unfold RowL
    rw [List.length_append, List.length_singleton]
    refine hr.congr fun j hj => ?_
    by_cases h : j < L.length * 3
    · simp only [h, if_true]
      unfold fdF
      rw [lsF_lt (by omega)]
    · have e : j / 3 = L.length := by omega
      simp only [h, if_false]
      unfold fdF
      rw [e, lsF_at, show (j - L.length * 3) % 3 = j % 3 by omega]
  · intro k hk
    simp [Value.ownBlock] at hk
    subst hk
    rcases h4 with h4 | h4
    · exact hR.nb _ h4
    · have := hR.B.size; omega
  · have := h3.size; omega
  · intro b hb hne
    rw [h3.block b (by omega) (fun e => hne e.symm)]
    exact Below.heap_alloc _ _ _ hb

theorem news_core (w0 : World) (y : Fd) : ∀ j u, (fdA y).toList[j]? = some u → (w0.alloc (.cells (fdA y) 66)).cell? ((⟨w0.heap.size, 0, none⟩ : Addr).add j) = some u := World.news_of_block (heap_new w0 _)
theorem one_core (y : Fd) : ∀ u ∈ (fdA y).toList, u.oneCell' = true := by
  intro u hu
  simp [fdA] at hu
  rcases hu with rfl | rfl | rfl <;> rfl
theorem append_feed {W w0 : World} {ops : Array Oper} {rest : List Oper} {o : Oper} {a : Act} {Q : Exit → Act → World → Prop} (hgd : o.guard = none) (d x : Operand)
    (ho : o.op = .call { callee := .builtin .append, args := #[d, x], argTypes := #[25, 25] }) (y : Fd) {v : Value} {L : List Fd} (hR : RL W w0 v L) (hs : a.eval d = v) (hx : a.eval x = .slice (some ⟨w0.heap.size, 0, none⟩) 1 1) (hlen : L.length ≤ 1000000000)
    (h : ∀ v' w', RL W w' v' (L ++ [y]) → w0.heap.size ≤ w'.heap.size → (∀ b, b < w0.heap.size → v.ownBlock ≠ some b → w'.heap[b]? = w0.heap[b]?) → wpList Try.prog ops Q rest (a.put o.dst v') w') :
    wpList Try.prog ops Q (o :: rest) a (w0.alloc (.cells (fdA y) 66)) := by
  obtain ⟨i0, hi, hz0, hz1, hz2⟩ := info_parts Try.info66
  refine wpList_append_lies _ hgd d x 25 ho 0 66 i0 _ 3 24 Try.underlying25 hi hz0 hz1 hz2 rfl (by decide) v L.length _ hs (hR.row.alloc _) ⟨w0.heap.size, 0, none⟩ 1 1 (fdA y).toList hx rfl (news_core w0 y) (one_core y) (by decide) (by unfold maxLen; omega) (by omega) (Nat.zero_le _) _ rfl ?_
  intro g cap w' h2 h3 h4 h5
  obtain ⟨q1, q2, q3⟩ := app_core hR h2 h3 h4
  exact h _ w' q1 q2 q3
theorem step_feed {W w0 : World} {ops : Array Oper} {o : Oper} {a : Act} {K : Act → World → Prop} {Q : Exit → Act → World → Prop} {E : Prop} (hgd : o.guard = none) (d x : Operand)
    (ho : o.op = .call { callee := .builtin .append, args := #[d, x], argTypes := #[25, 25] }) (y : Fd) {v : Value} {L : List Fd} (hR : RL W w0 v L) (hs : a.eval d = v) (hx : a.eval x = .slice (some ⟨w0.heap.size, 0, none⟩) 1 1) (hlen : L.length ≤ 1000000000)
    (h : ∀ v' w', RL W w' v' (L ++ [y]) → w0.heap.size ≤ w'.heap.size → (∀ b, b < w0.heap.size → v.ownBlock ≠ some b → w'.heap[b]? = w0.heap[b]?) → K (a.put o.dst v') w') :
    if Region.wanted o (yielded ops a.tmps) = true then Oper.wp Try.prog o a (w0.alloc (.cells (fdA y) 66)) K Q else E := by
  obtain ⟨i0, hi, hz0, hz1, hz2⟩ := info_parts Try.info66
  refine step_append_lies _ hgd d x 25 ho 0 66 i0 _ 3 24 Try.underlying25 hi hz0 hz1 hz2 rfl (by decide) v L.length _ hs (hR.row.alloc _) ⟨w0.heap.size, 0, none⟩ 1 1 (fdA y).toList hx rfl (news_core w0 y) (one_core y) (by decide) (by unfold maxLen; omega) (by omega) (Nat.zero_le _) _ rfl ?_
  intro g cap w' h2 h3 h4 h5
  obtain ⟨q1, q2, q3⟩ := app_core hR h2 h3 h4
  exact h _ w' q1 q2 q3
end Go.Proofs.Ytjjmpfpbfkploaa
