/-
  One node more, behind a list of the call's own, at a step of a region that draws its order.
-/
import Derived.Test.YtkfabnchhjfjjabGreatDoorRcv
import Derived.Test.YtkfabnchhjfjjabGreatDoorMem
import Derived.Deep.AppendLies
import Derived.Deep.RegionLaw
namespace Go.Proofs.YtkfabnchhjfjjabGreatDoor
open Go.RowKit

theorem Tryz.info52 : (Tryz.prog.info? 52).map (fun i => (i.zero, i.size, i.bytes)) = some (some (.agg #[.int .u8 0, .int .u8 0, .int .u8 0, .int .i64 0, .int .u8 0, .string ⟨#[]⟩, .slice none 0 0, .int .i64 0]), 8, 72) := by kernel_rfl
def nd0 : Nd := .mk ⟨0, 0, 0, 0, 0, gE, 0⟩ none 0 []
/-- The cells of a list of nodes. -/
def ndF (A : Nat → Nd) (j : Nat) : Value := (A (j / 8)).vals.getD (j % 8) undef
def ldF (L : List Nd) : Nat → Nd := fun i => L.getD i nd0
theorem ldF_lt {L : List Nd} {y : Nd} {i : Nat} (h : i < L.length) : ldF (L ++ [y]) i = ldF L i := by
  unfold ldF
  simp [List.getD, List.getElem?_append_left h]
theorem ldF_at (L : List Nd) (y : Nd) : ldF (L ++ [y]) L.length = y := by
  unfold ldF
  simp [List.getD]
/-- A list of nodes, of the call's own. -/
def RowN (w : World) (v : Value) (L : List Nd) : Prop := Row w 52 8 v L.length (ndF (ldF L))
theorem nd_cells (y : Nd) : ∀ j, j < 8 → (y.vals).toList[j]? = some (ndF (fun _ => y) j) := by
  intro j hj
  match j, hj with
  | 0, _ => rfl
  | 1, _ => rfl
  | 2, _ => rfl
  | 3, _ => rfl
  | 4, _ => rfl
  | 5, _ => rfl
  | 6, _ => rfl
  | 7, _ => rfl
theorem RowN.snoc {w' : World} {L : List Nd} {y : Nd} {g cap : Nat} (h2 : w'.ownsRow 0 52 8 (.slice (some ⟨g, 0, none⟩) (L.length + 1) cap) (L.length + 1) ((List.range (L.length * 8)).map (ndF (ldF L)) ++ (y.vals).toList)) : RowN w' (.slice (some ⟨g, 0, none⟩) (L.length + 1) cap) (L ++ [y]) := by
  have hr := Row.snoc (x := ndF (fun _ => y)) h2 rfl (fun j hj => nd_cells y j hj)
  unfold RowN
  rw [List.length_append, List.length_singleton]
  refine hr.congr fun j hj => ?_
  by_cases h : j < L.length * 8
  · simp only [h, if_true]
    unfold ndF
    rw [ldF_lt (by omega)]
  · have e : j / 8 = L.length := by omega
    simp only [h, if_false]
    unfold ndF
    rw [e, ldF_at, show (j - L.length * 8) % 8 = j % 8 by omega]
theorem newsn_core (w0 : World) (y : Nd) : ∀ j u, (y.vals).toList[j]? = some u → (w0.alloc (.cells (y.vals) 52)).cell? ((⟨w0.heap.size, 0, none⟩ : Addr).add j) = some u := World.news_of_block (heap_new w0 _)
theorem onen_core (y : Nd) : ∀ u ∈ (y.vals).toList, u.oneCell' = true := by
  intro u hu
  simp [Nd.vals, hdA] at hu
  rcases hu with rfl | rfl | rfl | rfl | rfl | rfl | rfl | rfl <;> rfl
theorem step_row {w0 : World} {ops : Array Oper} {o : Oper} {a : Act} {K : Act → World → Prop} {Q : Exit → Act → World → Prop} {E : Prop} (hgd : o.guard = none) (d x : Operand)
    (ho : o.op = .call { callee := .builtin .append, args := #[d, x], argTypes := #[50, 50] }) (y : Nd) {v : Value} {L : List Nd} (hR : RowN w0 v L) (hs : a.eval d = v) (hx : a.eval x = .slice (some ⟨w0.heap.size, 0, none⟩) 1 1) (hlen : L.length ≤ 1000000000)
    (h : ∀ g cap w', RowN w' (.slice (some ⟨g, 0, none⟩) (L.length + 1) cap) (L ++ [y]) → (w0.alloc (.cells y.vals 52)).grownBy w' v.ownBlock → (v.ownBlock = some g ∨ w0.heap.size < g) → K (a.put o.dst (.slice (some ⟨g, 0, none⟩) (L.length + 1) cap)) w') :
    if Region.wanted o (yielded ops a.tmps) = true then Oper.wp Tryz.prog o a (w0.alloc (.cells y.vals 52)) K Q else E := by
  obtain ⟨i0, hi, hz0, hz1, hz2⟩ := info_parts Tryz.info52
  refine step_append_lies _ hgd d x 50 ho 0 52 i0 _ 8 72 Tryz.underlying50 hi hz0 hz1 hz2 rfl (by decide) v L.length _ hs (hR.alloc _) ⟨w0.heap.size, 0, none⟩ 1 1 (y.vals).toList hx rfl (newsn_core w0 y) (onen_core y) (by decide) (by unfold maxLen; omega) (by omega) (Nat.zero_le _) _ rfl ?_
  intro g cap w' h2 h3 h4 h5
  refine h g cap w' (RowN.snoc h2) h3 ?_
  rcases h4 with h4 | h4
  · exact .inl h4
  · exact .inr (by rw [h4, size_alloc]; omega)
theorem ndF_at (A : Nat → Nd) (j i : Nat) (hi : i < 8) : ndF A (j * 8 + i) = (A j).vals.getD i undef := by
  unfold ndF
  rw [show (j * 8 + i) / 8 = j by omega, show (j * 8 + i) % 8 = i by omega]
theorem RowN.lies {w : World} {v : Value} {L : List Nd} (h : RowN w v L) : (v = .slice none 0 0 ∧ L = []) ∨ ∃ g cap, v = .slice (some ⟨g, 0, none⟩) L.length cap ∧ L.length ≤ cap ∧ cap ≤ 9223372036854775807 ∧ ∀ j, j < L.length → NdAt w g (0 + j * 8) (ldF L j) := by
  have h' := h
  rcases h.2 with ⟨rfl, e⟩ | ⟨g, cap, cur, rfl, _, _, hc1, hc2, _⟩
  · left
    exact ⟨rfl, List.length_eq_zero_iff.1 e⟩
  · right
    refine ⟨g, cap, rfl, hc1, hc2, fun j hj => ?_⟩
    rw [Nat.zero_add]
    have c := fun i (hi : i < 8) => (Row.cell h' (j := j * 8 + i) (by omega)).trans (congrArg some (ndF_at (ldF L) j i hi))
    exact ⟨c 0 (by omega), c 1 (by omega), c 2 (by omega), c 3 (by omega), c 4 (by omega), c 5 (by omega), c 6 (by omega), c 7 (by omega)⟩
theorem ldF_get {L : List Nd} {i : Nat} (h : i < L.length) : ldF L i = L[i] := by
  unfold ldF
  rw [List.getD_eq_getElem?_getD, List.getElem?_eq_getElem h]; rfl
theorem allReady_cons {P : Program} {md : Region.Mode} {ops : Array Oper} {Q : Exit → Act → World → Prop} {fuel : Nat} {listed : Array Bool} {a : Act} {w : World} {i : Nat} {o : Oper} {rs : List Nat} (ho : ops[i]? = some o)
    (h : ∀ K' : Act → World → Prop, Shut (∀ a w, wpAny P md ops Q fuel (listed.setIfInBounds i true) a w → K' a w) → if Region.wanted o (yielded ops a.tmps) = true then Oper.wp P o a w K' Q else K' (a.put o.dst undef) w)
    (hs : AllReady P md ops Q fuel listed a w rs) : AllReady P md ops Q fuel listed a w (i :: rs) := AllReady.cons ho (fun K hK => h K hK) hs
/-- A call that is being read: its node's box, and its kids so far. -/
structure CX (w : World) (b G : Nat) (fa : Int) (fe : Value) (d : Nat) (V : World) (Nb : Nat) (v : Value) (L : List Nd) (q p : Int) (ts : List Tk) : Prop where
  X : BX w b G fa fe d V [] ts
  N : V.heap[Nb]? = some (.cells #[.int .u8 8, .int .u8 q, .int .u8 0, .int .i64 0, .int .u8 0, .string ⟨#[]⟩, v, .int .i64 p] 52 (0, 0))
  nb : w.heap.size < Nb
  row : RowN V v L
  vb : ∀ k, v.ownBlock = some k → w.heap.size < k ∧ k ≠ Nb
  ls : ∀ m ∈ L, Lies V m ∧ Bkn (fun k => w.heap.size < k ∧ k < V.heap.size ∧ k ≠ Nb ∧ v.ownBlock ≠ some k) m
theorem CX.hid {w : World} {b G : Nat} {fa : Int} {fe : Value} {d : Nat} {V : World} {Nb : Nat} {v : Value} {L : List Nd} {q p : Int} {ts : List Tk} (h : CX w b G fa fe d V Nb v L q p ts) : Hid (CX w b G fa fe d V Nb v L q p ts) := h
/-- The reader has gone on. -/
theorem CX.mv {w : World} {b G : Nat} {fa : Int} {fe : Value} {d : Nat} {V V' : World} {Nb : Nat} {v : Value} {L : List Nd} {q p : Int} {ts ts' : List Tk} (h : CX w b G fa fe d V Nb v L q p ts) (hb : b < w.heap.size) (hm : Mv V V' (fun k => k = b)) (hr : ∃ a c, Rdr V' b G ts' fa fe d a c) (ht : ∀ x ∈ ts', x ∈ ts) : CX w b G fa fe d V' Nb v L q p ts' := by
  have hs := hm.size
  have h1 := h.nb
  refine ⟨h.X.mv hb hm hr ht, (hm.block _ (Array.getElem?_eq_some_iff.1 h.N).1 (by omega)).trans h.N, h.nb, h.row.of_block (fun k hk => hm.block k (h.row.lt k hk) (by have := (h.vb k hk).1; omega)), h.vb, fun m hm' => ?_⟩
  obtain ⟨l1, l2⟩ := h.ls m hm'
  exact ⟨l1.bkn l2 fun j hj => hm.block j hj.2.1 (by omega), l2.mono fun j hj => ⟨hj.1, by omega, hj.2.2⟩⟩
theorem CX.on {w : World} {b G : Nat} {fa : Int} {fe : Value} {d : Nat} {V V' : World} {Nb : Nat} {v : Value} {L : List Nd} {q p : Int} {ts : List Tk} (h : CX w b G fa fe d V Nb v L q p ts) (hb : b < w.heap.size) (k : Below V.heap.size V V') : CX w b G fa fe d V' Nb v L q p ts := by
  refine h.mv hb (Mv.ofBelow k) ?_ (fun _ h => h)
  obtain ⟨a, c, hr⟩ := h.X.R
  exact ⟨a, c, hr.on k⟩
/-- One kid more: it has been appended, and stored. -/
theorem CX.app {w : World} {b G : Nat} {fa : Int} {fe : Value} {d : Nat} {V w' : World} {Nb : Nat} {v : Value} {L : List Nd} {q p : Int} {ts : List Tk} {y : Nd} {g cap : Nat} (h : CX w b G fa fe d V Nb v L q p ts) (hb : b < w.heap.size) (hg : G < w.heap.size) (hl : Lies V y) (hk : Bkn (fun k => w.heap.size < k ∧ k < V.heap.size ∧ k ≠ Nb ∧ v.ownBlock ≠ some k) y)
    (hr : RowN w' (.slice (some ⟨g, 0, none⟩) (L.length + 1) cap) (L ++ [y])) (h3 : (V.alloc (.cells y.vals 52)).grownBy w' v.ownBlock) (h4 : v.ownBlock = some g ∨ V.heap.size < g) :
    w'.heap[Nb]? = V.heap[Nb]? ∧ CX w b G fa fe d (w'.setCell ⟨Nb, 6, none⟩ (.slice (some ⟨g, 0, none⟩) (L.length + 1) cap)) Nb (.slice (some ⟨g, 0, none⟩) (L.length + 1) cap) (L ++ [y]) q p ts := by
  have hs0 := size_alloc V (.cells y.vals 52)
  have hs := h3.size
  have hN := (Array.getElem?_eq_some_iff.1 h.N).1
  have hZ := (Array.getElem?_eq_some_iff.1 h.X.Z).1
  have h1 := h.nb
  have old : ∀ k, k < V.heap.size → v.ownBlock ≠ some k → w'.heap[k]? = V.heap[k]? := fun k hk hne => (h3.block k (by omega) (fun e => hne e.symm)).trans (Below.heap_alloc _ _ _ hk)
  have oldS : ∀ k, k < V.heap.size → v.ownBlock ≠ some k → k ≠ Nb → (w'.setCell ⟨Nb, 6, none⟩ (.slice (some ⟨g, 0, none⟩) (L.length + 1) cap)).heap[k]? = V.heap[k]? := fun k hk hne hn => (Below.heap_setCell _ _ _ _ hn).trans (old k hk hne)
  have hvN : v.ownBlock ≠ some Nb := fun e => (h.vb _ e).2 rfl
  have hgN : g ≠ Nb := by
    rcases h4 with h4 | h4
    · exact fun e => hvN (by rw [← e]; exact h4)
    · omega
  have hgw : w.heap.size < g := by
    rcases h4 with h4 | h4
    · exact (h.vb _ h4).1
    · omega
  have vlow : ∀ k, k ≤ w.heap.size → v.ownBlock ≠ some k := fun k hk e => by have := (h.vb _ e).1; omega
  refine ⟨old _ hN hvN, ⟨⟨?_, ?_, fun p hp => by simp at hp, ?_, h.X.T⟩, ?_, h.nb, ?_, ?_, ?_⟩⟩
  · have m1 : Mv w w' (fun k => k = b) := (h.X.M.trans (Mv.ofBelow (F := fun k => k = b) (below_new V (.cells y.vals 52))) (fun _ e => .inl e)).grown h3 (fun k e => .inr (by have := (h.vb _ e).1; omega))
    exact m1.setCell (a := ⟨Nb, 6, none⟩) (.inr (by show w.heap.size ≤ Nb; omega)) _
  · exact (oldS _ hZ (vlow _ (Nat.le_refl _)) (by omega)).trans h.X.Z
  · obtain ⟨a, c, hR⟩ := h.X.R
    exact ⟨a, c, hR.blk (oldS _ hR.lt (vlow _ (by omega)) (by omega)) (oldS _ hR.gl (vlow _ (by omega)) (by omega)) (by simp [World.setCell]; omega)⟩
  · exact heap_set (j := 6) _ ((old _ hN hvN).trans h.N)
  · exact hr.of_block (fun k hk => Below.heap_setCell _ _ _ _ (by simp [Value.ownBlock] at hk; show k ≠ Nb; omega))
  · intro k hk
    simp [Value.ownBlock] at hk
    subst hk
    exact ⟨hgw, hgN⟩
  · intro m hm
    have hsz : (w'.setCell ⟨Nb, 6, none⟩ (.slice (some ⟨g, 0, none⟩) (L.length + 1) cap)).heap.size = w'.heap.size := by simp [World.setCell]
    have key : ∀ m, Lies V m → Bkn (fun k => w.heap.size < k ∧ k < V.heap.size ∧ k ≠ Nb ∧ v.ownBlock ≠ some k) m → Lies (w'.setCell ⟨Nb, 6, none⟩ (.slice (some ⟨g, 0, none⟩) (L.length + 1) cap)) m ∧ Bkn (fun k => w.heap.size < k ∧ k < (w'.setCell ⟨Nb, 6, none⟩ (.slice (some ⟨g, 0, none⟩) (L.length + 1) cap)).heap.size ∧ k ≠ Nb ∧ (Value.slice (some ⟨g, 0, none⟩) (L.length + 1) cap).ownBlock ≠ some k) m := fun m l1 l2 =>
      ⟨l1.bkn l2 fun j hj => oldS j hj.2.1 hj.2.2.2 hj.2.2.1, l2.mono fun j hj => ⟨hj.1, by rw [hsz]; omega, hj.2.2.1, fun e => by
        simp [Value.ownBlock] at e
        rcases h4 with h4 | h4
        · exact hj.2.2.2 (by rw [h4, e])
        · omega⟩⟩
    rcases List.mem_append.1 hm with hm | hm
    · exact key m (h.ls m hm).1 (h.ls m hm).2
    · obtain rfl := List.mem_singleton.1 hm
      exact key m hl hk
/-- A call is read. -/
theorem CX.fin {w : World} {b G : Nat} {fa : Int} {fe : Value} {d : Nat} {W : World} {Nb g n cap : Nat} {L : List Nd} {q p : Int} {ts : List Tk} (h : CX w b G fa fe d W Nb (.slice (some ⟨g, 0, none⟩) n cap) L q p ts) (hn : n = L.length) (hb : b < w.heap.size) (hg : G < w.heap.size) (hq : Rg ⟨8, q, 0, 0, 0, gE, p⟩) :
    ∃ Y, ((((((((W.setCell ⟨w.heap.size, 0, none⟩ (.int .u8 8)).setCell ⟨w.heap.size, 1, none⟩ (.int .u8 q)).setCell ⟨w.heap.size, 2, none⟩ (.int .u8 0)).setCell ⟨w.heap.size, 3, none⟩ (.int .i64 0)).setCell ⟨w.heap.size, 4, none⟩ (.int .u8 0)).setCell ⟨w.heap.size, 5, none⟩ (.string ⟨#[]⟩)).setCell ⟨w.heap.size, 6, none⟩ (.slice (some ⟨g, 0, none⟩) n cap)).setCell ⟨w.heap.size, 7, none⟩ (.int .i64 p)) = Y ∧ Y.heap[w.heap.size]? = some (.cells (Nd.mk ⟨8, q, 0, 0, 0, gE, p⟩ (some ⟨g, 0, none⟩) cap L).vals 52 (0, 0)) ∧ Lies Y (.mk ⟨8, q, 0, 0, 0, gE, p⟩ (some ⟨g, 0, none⟩) cap L) ∧ Bkn (fun k => w.heap.size ≤ k ∧ k < Y.heap.size) (.mk ⟨8, q, 0, 0, 0, gE, p⟩ (some ⟨g, 0, none⟩) cap L) ∧ (∃ a c, Rdr Y b G ts fa fe d a c) ∧ Mv w Y (fun k => k = b) := by
  obtain ⟨Y, eY, hY1, hY2, hY3, hY4⟩ := fin8 h.X.Z (.int .u8 8) (.int .u8 q) (.int .u8 0) (.int .i64 0) (.int .u8 0) (.string ⟨#[]⟩) (.slice (some ⟨g, 0, none⟩) n cap) (.int .i64 p)
  obtain ⟨g', cap', e', hc1, hc2, hrow⟩ : ∃ g' cap', Value.slice (some ⟨g, 0, none⟩) n cap = .slice (some ⟨g', 0, none⟩) L.length cap' ∧ L.length ≤ cap' ∧ cap' ≤ 9223372036854775807 ∧ ∀ j, j < L.length → NdAt W g' (0 + j * 8) (ldF L j) := h.row.lies.resolve_left (fun e => by cases e.1)
  cases e'
  have hgw := (h.vb g rfl).1
  have hgl : g < W.heap.size := h.row.lt g rfl
  refine ⟨Y, eY, hY1, ?_, ?_, ?_, hY4 _ _ h.X.M (Nat.le_refl _)⟩
  · refine .mk _ _ _ _ hq hc1 hc2 (fun i hi => ⟨g, 0, rfl, ?_⟩) (fun m hm => (h.ls m hm).1.bkn (h.ls m hm).2 fun j hj => hY3 j (by omega))
    have := hrow i hi
    rw [ldF_get hi] at this
    exact this.blk (hY3 g (by omega))
  · refine .mk _ _ _ _ (fun b' o e => ?_) (fun m hm => (h.ls m hm).2.mono fun j hj => ⟨by omega, by omega⟩)
    injection e with e; injection e with e; omega
  · obtain ⟨a, c, hr⟩ := h.X.R
    exact ⟨a, c, hr.blk (hY3 _ (by omega)) (hY3 _ (by omega)) (by omega)⟩
theorem treesOf_snoc (L : List Nd) (m : Nd) : treesOf (L ++ [m]) = treesOf L ++ [treeOf m] := by
  induction L with
  | nil => rfl
  | cons k L ih => simp only [List.cons_append, treesOf, ih]
def cSnd : Code → Code
  | .seq _ b => b
  | c => c
end Go.Proofs.YtkfabnchhjfjjabGreatDoor
