/-
  One node more, behind a list of the call's own.
-/
import Derived.Test.YtighocmdlifheaaDoorMem
import Derived.Test.YtighocmdlifheaaDoorLv
import Derived.Deep.AppendLies
import Derived.Deep.RegionLaw
namespace Go.Proofs.YtighocmdlifheaaDoor
open Go.RowKit

theorem Tryd.info28 : (Tryd.prog.info? 28).map (fun i => (i.zero, i.size, i.bytes)) = some (some (.agg #[.int .u8 0, .int .u8 0, .int .u8 0, .int .i64 0, .int .u8 0, .string ⟨#[]⟩, .slice none 0 0, .int .i64 0]), 8, 72) := by kernel_rfl
def nd0 : Nd := .mk hdN none 0 []
/-- The cells of a list of nodes. -/
def ndF (A : Nat → Nd) (j : Nat) : Value := (A (j / 8)).vals.getD (j % 8) undef
def ldF (L : List Nd) : Nat → Nd := fun i => L.getD i nd0
theorem ldF_lt {L : List Nd} {y : Nd} {i : Nat} (h : i < L.length) : ldF (L ++ [y]) i = ldF L i := by
  unfold ldF
  simp [List.getD, List.getElem?_append_left h]
theorem ldF_at (L : List Nd) (y : Nd) : ldF (L ++ [y]) L.length = y := by
  unfold ldF
  simp [List.getD]
/-- A list of tokens, of the call's own. -/
def RowN (w : World) (v : Value) (L : List Nd) : Prop := Row w 28 8 v L.length (ndF (ldF L))
/-- It lies in memory that is newer than W; and W's is as it was. -/
structure RN (W w : World) (v : Value) (L : List Nd) : Prop where
  row : RowN w v L
  nb : ∀ k, v.ownBlock = some k → W.heap.size ≤ k
  B : Below W.heap.size W w
theorem RN.nil (W : World) : RN W W (.slice none 0 0) [] := ⟨Row.nil _ _ _ _, fun k h => by simp [Value.ownBlock] at h, Below.refl _ _⟩
theorem RN.call {W w w' : World} {v : Value} {L : List Nd} (h : RN W w v L) (k : Below w.heap.size w w') : RN W w' v L :=
  ⟨h.row.of_block (fun b hb => k.block b (h.row.lt b hb)), h.nb, h.B.trans (k.mono h.B.size)⟩
theorem RN.alloc {W w : World} {v : Value} {L : List Nd} (h : RN W w v L) (o : Obj) : RN W (w.alloc o) v L := h.call (below_new w o)
theorem RN.drew {W w : World} {v : Value} {L : List Nd} (h : RN W w v L) : RN W w.drew v L := ⟨h.row.of_block (fun _ _ => rfl), h.nb, h.B.drew⟩
theorem RN.drewN {W w : World} {v : Value} {L : List Nd} (h : RN W w v L) (n : Nat) : RN W (w.drewN n) v L := ⟨h.row.of_block (fun _ _ => rfl), h.nb, below_drew h.B n⟩
theorem RN.hid {W w : World} {v : Value} {L : List Nd} (h : RN W w v L) : Hid (RN W w v L) := h
theorem nd_cells (y : Nd) : ∀ j, j < 8 → (y.vals).toList[j]? = some (ndF (fun _ => y) j) := by
  intro j hj
  match j, hj with
  | 0, _ => rfl
  | 1, _ => rfl
  | 2, _ => rfl
  | 3, _ => rfl
  | 4, _ => rfl
  | 5, _ => rfl
  | 6, _ => rfl
  | 7, _ => rfl
theorem appn_core {W w0 w' : World} {v : Value} {L : List Nd} {y : Nd} {g cap : Nat} (hR : RN W w0 v L)
    (h2 : w'.ownsRow 0 28 8 (.slice (some ⟨g, 0, none⟩) (L.length + 1) cap) (L.length + 1) ((List.range (L.length * 8)).map (ndF (ldF L)) ++ (y.vals).toList))
    (h3 : (w0.alloc (.cells (y.vals) 28)).grownBy w' v.ownBlock) (h4 : v.ownBlock = some g ∨ g = (w0.alloc (.cells (y.vals) 28)).heap.size) :
    RN W w' (.slice (some ⟨g, 0, none⟩) (L.length + 1) cap) (L ++ [y]) ∧ w0.heap.size ≤ w'.heap.size ∧ ∀ b, b < w0.heap.size → v.ownBlock ≠ some b → w'.heap[b]? = w0.heap[b]? := by
  have hsz := size_alloc w0 (.cells (y.vals) 28)
  have hB0 := hR.B.alloc hR.B.size (.cells (y.vals) 28)
  refine ⟨⟨?_, ?_, hB0.grown h3 hB0.size (fun k hk => hR.nb k hk)⟩, ?_, ?_⟩
  · have hr := Row.snoc (x := ndF (fun _ => y)) h2 rfl (fun j hj => nd_cells y j hj)
    unfold RowN
    rw [List.length_append, List.length_singleton]
    refine hr.congr fun j hj => ?_
    by_cases h : j < L.length * 8
    · simp only [h, if_true]
      unfold ndF
      rw [ldF_lt (by omega)]
    · have e : j / 8 = L.length := by omega
      simp only [h, if_false]
      unfold ndF
      rw [e, ldF_at, show (j - L.length * 8) % 8 = j % 8 by omega]
  · intro k hk
    simp [Value.ownBlock] at hk
    subst hk
    rcases h4 with h4 | h4
    · exact hR.nb _ h4
    · have := hR.B.size; omega
  · have := h3.size; omega
  · intro b hb hne
    rw [h3.block b (by omega) (fun e => hne e.symm)]
    exact Below.heap_alloc _ _ _ hb

theorem newsn_core (w0 : World) (y : Nd) : ∀ j u, (y.vals).toList[j]? = some u → (w0.alloc (.cells (y.vals) 28)).cell? ((⟨w0.heap.size, 0, none⟩ : Addr).add j) = some u := World.news_of_block (heap_new w0 _)
theorem onen_core (y : Nd) : ∀ u ∈ (y.vals).toList, u.oneCell' = true := by
  intro u hu
  simp [Nd.vals, hdA] at hu
  rcases hu with rfl | rfl | rfl | rfl | rfl | rfl | rfl | rfl <;> rfl
theorem append_node {W w0 : World} {ops : Array Oper} {rest : List Oper} {o : Oper} {a : Act} {Q : Exit → Act → World → Prop} (hgd : o.guard = none) (d x : Operand)
    (ho : o.op = .call { callee := .builtin .append, args := #[d, x], argTypes := #[26, 26] }) (y : Nd) {v : Value} {L : List Nd} (hR : RN W w0 v L) (hs : a.eval d = v) (hx : a.eval x = .slice (some ⟨w0.heap.size, 0, none⟩) 1 1) (hlen : L.length ≤ 1000000000)
    (h : ∀ v' w', RN W w' v' (L ++ [y]) → w0.heap.size ≤ w'.heap.size → (∀ b, b < w0.heap.size → v.ownBlock ≠ some b → w'.heap[b]? = w0.heap[b]?) → (v'.ownBlock = v.ownBlock ∨ ∃ g, v'.ownBlock = some g ∧ w0.heap.size < g) → wpList Tryd.prog ops Q rest (a.put o.dst v') w') :
    wpList Tryd.prog ops Q (o :: rest) a (w0.alloc (.cells (y.vals) 28)) := by
  obtain ⟨i0, hi, hz0, hz1, hz2⟩ := info_parts Tryd.info28
  refine wpList_append_lies _ hgd d x 26 ho 0 28 i0 _ 8 72 Tryd.underlying26 hi hz0 hz1 hz2 rfl (by decide) v L.length _ hs (hR.row.alloc _) ⟨w0.heap.size, 0, none⟩ 1 1 (y.vals).toList hx rfl (newsn_core w0 y) (onen_core y) (by decide) (by unfold maxLen; omega) (by omega) (Nat.zero_le _) _ rfl ?_
  intro g cap w' h2 h3 h4 h5
  obtain ⟨q1, q2, q3⟩ := appn_core hR h2 h3 h4
  refine h _ w' q1 q2 q3 ?_
  rcases h4 with h4 | h4
  · exact .inl h4.symm
  · exact .inr ⟨g, rfl, by rw [h4, size_alloc]; omega⟩
theorem ndF_at (A : Nat → Nd) (j i : Nat) (hi : i < 8) : ndF A (j * 8 + i) = (A j).vals.getD i undef := by
  unfold ndF
  rw [show (j * 8 + i) / 8 = j by omega, show (j * 8 + i) % 8 = i by omega]
theorem RowN.lies {w : World} {v : Value} {L : List Nd} (h : RowN w v L) : (v = .slice none 0 0 ∧ L = []) ∨ ∃ g cap, v = .slice (some ⟨g, 0, none⟩) L.length cap ∧ L.length ≤ cap ∧ cap ≤ 9223372036854775807 ∧ ∀ j, j < L.length → NdAt w g (0 + j * 8) (ldF L j) := by
  have h' := h
  rcases h.2 with ⟨rfl, e⟩ | ⟨g, cap, cur, rfl, _, _, hc1, hc2, _⟩
  · left
    exact ⟨rfl, List.length_eq_zero_iff.1 e⟩
  · right
    refine ⟨g, cap, rfl, hc1, hc2, fun j hj => ?_⟩
    rw [Nat.zero_add]
    have c := fun i (hi : i < 8) => (Row.cell h' (j := j * 8 + i) (by omega)).trans (congrArg some (ndF_at (ldF L) j i hi))
    exact ⟨c 0 (by omega), c 1 (by omega), c 2 (by omega), c 3 (by omega), c 4 (by omega), c 5 (by omega), c 6 (by omega), c 7 (by omega)⟩
theorem ldF_get {L : List Nd} {i : Nat} (h : i < L.length) : ldF L i = L[i] := by
  unfold ldF
  rw [List.getD_eq_getElem?_getD, List.getElem?_eq_getElem h]; rfl
/-- All blocks in which kids lie are such. -/
inductive Bk (P : Nat → Prop) : Nd → Prop
  | mk (h : Hd) (a : Option Addr) (c : Nat) (ks : List Nd) (hb : ∀ x, a = some x → P x.block) (hs : ∀ k ∈ ks, Bk P k) : Bk P (.mk h a c ks)
theorem Bk.mono {P Q : Nat → Prop} (h : ∀ b, P b → Q b) : ∀ {m : Nd}, Bk P m → Bk Q m := by
  intro m hm
  induction hm with
  | mk g a c ks hb _ ih => exact .mk g a c ks (fun x e => h _ (hb x e)) ih
theorem Lies.bk {P : Nat → Prop} {w w' : World} (k : ∀ b, b < w.heap.size → P b → w'.heap[b]? = w.heap[b]?) : ∀ {m : Nd}, Lies w m → Bk P m → Lies w' m := by
  intro m hl
  induction hl with
  | mk h a c ks hr hc hm hk _ ih =>
    intro hB
    cases hB with
    | mk _ _ _ _ hb hs =>
      refine .mk h a c ks hr hc hm (fun i hi => ?_) (fun x hx => ih x hx (hs x hx))
      obtain ⟨b, o, e, hat⟩ := hk i hi
      exact ⟨b, o, e, hat.blk (k b hat.lt (hb _ e))⟩
/-- The same expression without places. -/
inductive Bare : Nd → Nd → Prop
  | mk (h : Hd) (a a' : Option Addr) (c c' : Nat) (ks ks' : List Nd) (hl : ks'.length = ks.length) (hk : ∀ i (h1 : i < ks.length) (h2 : i < ks'.length), Bare ks[i] ks'[i]) : Bare (.mk h a c ks) (.mk { h with p := 0 } a' c' ks')
end Go.Proofs.YtighocmdlifheaaDoor
