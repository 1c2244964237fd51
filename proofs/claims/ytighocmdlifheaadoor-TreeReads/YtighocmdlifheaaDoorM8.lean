import Derived.Test.YtighocmdlifheaaDoorM5
import Derived.Test.YtighocmdlifheaaDoorM6
import Derived.Deep.AppendLies
import Derived.Deep.RegionLaw
import Derived.Test.YtighocmdlifheaaDoorM7
import Derived.Deep.MidRow
import Derived.WalkKit
import Derived.Below
/-
  One node more, behind a list of the call's own.
-/
namespace Go.Proofs.YtighocmdlifheaaDoor
open Go.RowKit

theorem Tryd.info28 : (Tryd.prog.info? 28).map (fun i => (i.zero, i.size, i.bytes)) = some (some (.agg #[.int .u8 0, .int .u8 0, .int .u8 0, .int .i64 0, .int .u8 0, .string ⟨#[]⟩, .slice none 0 0, .int .i64 0]), 8, 72) := by kernel_rfl
def nd0 : Nd := .mk hdN none 0 []
/-- The cells of a list of nodes. -/
def ndF (A : Nat → Nd) (j : Nat) : Value := (A (j / 8)).vals.getD (j % 8) undef
def ldF (L : List Nd) : Nat → Nd := fun i => L.getD i nd0
theorem ldF_lt {L : List Nd} {y : Nd} {i : Nat} (h : i < L.length) : ldF (L ++ [y]) i = ldF L i := by
  unfold ldF
  simp [List.getD, List.getElem?_append_left h]
theorem ldF_at (L : List Nd) (y : Nd) : ldF (L ++ [y]) L.length = y := by
  unfold ldF
  simp [List.getD]
/-- A list of tokens, of the call's own. -/
def RowN (w : World) (v : Value) (L : List Nd) : Prop := Row w 28 8 v L.length (ndF (ldF L))
/-- It lies in memory that is newer than W; and W's is as it was. -/
structure RN (W w : World) (v : Value) (L : List Nd) : Prop where
  row : RowN w v L
  nb : ∀ k, v.ownBlock = some k → W.heap.size ≤ k
  B : Below W.heap.size W w
theorem RN.nil (W : World) : RN W W (.slice none 0 0) [] := ⟨Row.nil _ _ _ _, fun k h => by simp [Value.ownBlock] at h, Below.refl _ _⟩
theorem RN.call {W w w' : World} {v : Value} {L : List Nd} (h : RN W w v L) (k : Below w.heap.size w w') : RN W w' v L :=
  ⟨h.row.of_block (fun b hb => k.block b (h.row.lt b hb)), h.nb, h.B.trans (k.mono h.B.size)⟩
theorem RN.alloc {W w : World} {v : Value} {L : List Nd} (h : RN W w v L) (o : Obj) : RN W (w.alloc o) v L := h.call (below_new w o)
theorem RN.drew {W w : World} {v : Value} {L : List Nd} (h : RN W w v L) : RN W w.drew v L := ⟨h.row.of_block (fun _ _ => rfl), h.nb, h.B.drew⟩
theorem RN.drewN {W w : World} {v : Value} {L : List Nd} (h : RN W w v L) (n : Nat) : RN W (w.drewN n) v L := ⟨h.row.of_block (fun _ _ => rfl), h.nb, below_drew h.B n⟩
theorem RN.hid {W w : World} {v : Value} {L : List Nd} (h : RN W w v L) : Hid (RN W w v L) := h
theorem nd_cells (y : Nd) : ∀ j, j < 8 → (y.vals).toList[j]? = some (ndF (fun _ => y) j) := by
  intro j hj
  match j, hj with
  | 0, _ => rfl
  | 1, _ => rfl
  | 2, _ => rfl
  | 3, _ => rfl
  | 4, _ => rfl
  | 5, _ => rfl
  | 6, _ => rfl
  | 7, _ => rfl
theorem appn_core {W w0 w' : World} {v : Value} {L : List Nd} {y : Nd} {g cap : Nat} (hR : RN W w0 v L)
    (h2 : w'.ownsRow 0 28 8 (.slice (some ⟨g, 0, none⟩) (L.length + 1) cap) (L.length + 1) ((List.range (L.length * 8)).map (ndF (ldF L)) ++ (y.vals).toList))
    (h3 : (w0.alloc (.cells (y.vals) 28)).grownBy w' v.ownBlock) (h4 : v.ownBlock = some g ∨ g = (w0.alloc (.cells (y.vals) 28)).heap.size) :
    RN W w' (.slice (some ⟨g, 0, none⟩) (L.length + 1) cap) (L ++ [y]) ∧ w0.heap.size ≤ w'.heap.size ∧ ∀ b, b < w0.heap.size → v.ownBlock ≠ some b → w'.heap[b]? = w0.heap[b]? := by
  have hsz := size_alloc w0 (.cells (y.vals) 28)
  have hB0 := hR.B.alloc hR.B.size (.cells (y.vals) 28)
  refine ⟨⟨?_, ?_, hB0.grown h3 hB0.size (fun k hk => hR.nb k hk)⟩, ?_, ?_⟩
  · have hr := Row.snoc (x := ndF (fun _ => y)) h2 rfl (fun j hj => nd_cells y j hj)
    unfold RowN
    rw [List.length_append, List.length_singleton]
    refine hr.congr fun j hj => ?_
    by_cases h : j < L.length * 8
    · simp only [h, if_true]
      unfold ndF
      rw [ldF_lt (by omega)]
    · have e : j / 8 = L.length := by omega
      simp only [h, if_false]
      unfold ndF
      rw [e, ldF_at, show (j - L.length * 8) % 8 = j % 8 by omega]
  · intro k hk
    simp [Value.ownBlock] at hk
    subst hk
    rcases h4 with h4 | h4
    · exact hR.nb _ h4
    · have := hR.B.size; omega
  · have := h3.size; omega
  · intro b hb hne
    rw [h3.block b (by omega) (fun e => hne e.symm)]
    exact Below.heap_alloc _ _ _ hb

theorem newsn_core (w0 : World) (y : Nd) : ∀ j u, (y.vals).toList[j]? = some u → (w0.alloc (.cells (y.vals) 28)).cell? ((⟨w0.heap.size, 0, none⟩ : Addr).add j) = some u := World.news_of_block (heap_new w0 _)
theorem onen_core (y : Nd) : ∀ u ∈ (y.vals).toList, u.oneCell' = true := by
  intro u hu
  simp [Nd.vals, hdA] at hu
  rcases hu with rfl | rfl | rfl | rfl | rfl | rfl | rfl | rfl <;> rfl
theorem append_node {W w0 : World} {ops : Array Oper} {rest : List Oper} {o : Oper} {a : Act} {Q : Exit → Act → World → Prop} (hgd : o.guard = none) (d x : Operand)
    (ho : o.op = .call { callee := .builtin .append, args := #[d, x], argTypes := #[26, 26] }) (y : Nd) {v : Value} {L : List Nd} (hR : RN W w0 v L) (hs : a.eval d = v) (hx : a.eval x = .slice (some ⟨w0.heap.size, 0, none⟩) 1 1) (hlen : L.length ≤ 1000000000)
    (h : ∀ v' w', RN W w' v' (L ++ [y]) → w0.heap.size ≤ w'.heap.size → (∀ b, b < w0.heap.size → v.ownBlock ≠ some b → w'.heap[b]? = w0.heap[b]?) → (v'.ownBlock = v.ownBlock ∨ ∃ g, v'.ownBlock = some g ∧ w0.heap.size < g) → wpList Tryd.prog ops Q rest (a.put o.dst v') w') :
    wpList Tryd.prog ops Q (o :: rest) a (w0.alloc (.cells (y.vals) 28)) := by
  obtain ⟨i0, hi, hz0, hz1, hz2⟩ := info_parts Tryd.info28
  refine wpList_append_lies _ hgd d x 26 ho 0 28 i0 _ 8 72 Tryd.underlying26 hi hz0 hz1 hz2 rfl (by decide) v L.length _ hs (hR.row.alloc _) ⟨w0.heap.size, 0, none⟩ 1 1 (y.vals).toList hx rfl (newsn_core w0 y) (onen_core y) (by decide) (by unfold maxLen; omega) (by omega) (Nat.zero_le _) _ rfl ?_
  intro g cap w' h2 h3 h4 h5
  obtain ⟨q1, q2, q3⟩ := appn_core hR h2 h3 h4
  refine h _ w' q1 q2 q3 ?_
  rcases h4 with h4 | h4
  · exact .inl h4.symm
  · exact .inr ⟨g, rfl, by rw [h4, size_alloc]; omega⟩
theorem ndF_at (A : Nat → Nd) (j i : Nat) (hi : i < 8) : ndF A (j * 8 + i) = (A j).vals.getD i undef := by
  unfold ndF
  rw [show (j * 8 + i) / 8 = j by omega, show (j * 8 + i) % 8 = i by omega]
theorem RowN.lies {w : World} {v : Value} {L : List Nd} (h : RowN w v L) : (v = .slice none 0 0 ∧ L = []) ∨ ∃ g cap, v = .slice (some ⟨g, 0, none⟩) L.length cap ∧ L.length ≤ cap ∧ cap ≤ 9223372036854775807 ∧ ∀ j, j < L.length → NdAt w g (0 + j * 8) (ldF L j) := by
  have h' := h
  rcases h.2 with ⟨rfl, e⟩ | ⟨g, cap, cur, rfl, _, _, hc1, hc2, _⟩
  · left
    exact ⟨rfl, List.length_eq_zero_iff.1 e⟩
  · right
    refine ⟨g, cap, rfl, hc1, hc2, fun j hj => ?_⟩
    rw [Nat.zero_add]
    have c := fun i (hi : i < 8) => (Row.cell h' (j := j * 8 + i) (by omega)).trans (congrArg some (ndF_at (ldF L) j i hi))
    exact ⟨c 0 (by omega), c 1 (by omega), c 2 (by omega), c 3 (by omega), c 4 (by omega), c 5 (by omega), c 6 (by omega), c 7 (by omega)⟩
theorem ldF_get {L : List Nd} {i : Nat} (h : i < L.length) : ldF L i = L[i] := by
  unfold ldF
  rw [List.getD_eq_getElem?_getD, List.getElem?_eq_getElem h]; rfl
/-- All blocks in which kids lie are such. -/
inductive Bk (P : Nat → Prop) : Nd → Prop
  | mk (h : Hd) (a : Option Addr) (c : Nat) (ks : List Nd) (hb : ∀ x, a = some x → P x.block) (hs : ∀ k ∈ ks, Bk P k) : Bk P (.mk h a c ks)
theorem Bk.mono {P Q : Nat → Prop} (h : ∀ b, P b → Q b) : ∀ {m : Nd}, Bk P m → Bk Q m := by
  intro m hm
  induction hm with
  | mk g a c ks hb _ ih => exact .mk g a c ks (fun x e => h _ (hb x e)) ih
theorem Lies.bk {P : Nat → Prop} {w w' : World} (k : ∀ b, b < w.heap.size → P b → w'.heap[b]? = w.heap[b]?) : ∀ {m : Nd}, Lies w m → Bk P m → Lies w' m := by
  intro m hl
  induction hl with
  | mk h a c ks hr hc hm hk _ ih =>
    intro hB
    cases hB with
    | mk _ _ _ _ hb hs =>
      refine .mk h a c ks hr hc hm (fun i hi => ?_) (fun x hx => ih x hx (hs x hx))
      obtain ⟨b, o, e, hat⟩ := hk i hi
      exact ⟨b, o, e, hat.blk (k b hat.lt (hb _ e))⟩
/-- The same expression without places. -/
inductive Bare : Nd → Nd → Prop
  | mk (h : Hd) (a a' : Option Addr) (c c' : Nat) (ks ks' : List Nd) (hl : ks'.length = ks.length) (hk : ∀ i (h1 : i < ks.length) (h2 : i < ks'.length), Bare ks[i] ks'[i]) : Bare (.mk h a c ks) (.mk { h with p := 0 } a' c' ks')
end Go.Proofs.YtighocmdlifheaaDoor

/-
  Check, of the chapter's smallest strategy and of one without a state.
-/
namespace Go.Proofs.YtighocmdlifheaaDoor
open Go.RowKit
theorem lies0 (w : World) : Lies w nd0 := .mk _ _ _ _ ⟨by decide, by decide, by decide, by decide, by decide, by decide, by decide, by decide, by decide, by decide, by decide, by decide, by decide⟩ (Nat.le_refl _) (by decide) (fun i hi => by simp at hi) (fun k hk => by cases hk)
theorem part_none (w : World) : Calls Tryd.prog 90 #[.agg #[.int .u8 0, .int .u8 0, .int .u8 0, .int .i64 0, .int .u8 0, .string ⟨#[]⟩, .slice none 0 0, .int .i64 0], .bool false] w fun e w' => e = .returned (.tuple #[]) ∧ Below w.heap.size w w' := by
  have cS : ∀ v, Calls Tryd.prog 21 #[.agg #[.int .u8 0, .int .u8 0, .int .u8 0, .int .i64 0, .int .u8 0, .string ⟨#[]⟩, .slice none 0 0, .int .i64 0], .agg #[.int .u8 0, .int .u8 0, .int .u8 0, .int .i64 0, .int .u8 0, .string ⟨#[]⟩, .slice none 0 0, .int .i64 0]] v fun e w' => e = .returned (.bool true) ∧ Below v.heap.size v w' := fun v => same_any nd0 nd0 v (lies0 v) (lies0 v)
  go_enter Tryd.func90, Tryd.ntmps90
  go_wp2_with fail
  refine (cS _).mono ?_
  rintro e w1 ⟨rfl, hb⟩
  have HB : Hid (Below w.heap.size w w1) := (below_new _ _).trans (hb.mono (by simp))
  clear hb
  go_wp2_with (go_at_call 63; refine (need_t 120 _).mono ?_; rintro e w3 ⟨rfl, e4⟩; obtain rfl := e4.symm)
  go_end0
  exact ⟨rfl, HB.out⟩
set_option maxRecDepth 100000 in
theorem name_ok (s : ByteArray) (hs : s.size ≤ 140737488355328) (hn : nameB s = true) (w : World) (ht : Tab w) : Calls Tryd.prog 64 #[.string s] w fun e w' => e = .returned (.tuple #[]) ∧ Below w.heap.size w w' := by
  have cN := namep_any s hs w ht
  rw [hn] at cN
  go_enter Tryd.func64, Tryd.ntmps64
  go_wp2_with (first | (go_at_call 70; refine cN.mono ?_; rintro e w1 ⟨rfl, hb⟩) | (go_at_call 63; refine (need_t 120 _).mono ?_; rintro e w3 ⟨rfl, e4⟩; obtain rfl := e4.symm))
  go_end0
  exact ⟨rfl, hb⟩
set_option maxRecDepth 100000 in
theorem count_ok (n l m : Int) (h1 : l ≤ n) (h2 : n ≤ m) (w : World) : Calls Tryd.prog 65 #[.int .i64 n, .int .i64 l, .int .i64 m] w fun e w' => e = .returned (.tuple #[]) ∧ w' = w := by
  have d1 : decide (l ≤ n) = true := decide_eq_true h1
  have d2 : decide (n ≤ m) = true := decide_eq_true h2
  go_enter Tryd.func65, Tryd.ntmps65
  go_wp2_with (go_at_call 63; refine (need_t _ _).mono ?_; rintro e w3 ⟨rfl, e4⟩; obtain rfl := e4.symm)
  go_end0
  exact ⟨rfl, rfl⟩
theorem snd2 (w : World) (A B : Obj) : ((w.alloc A).alloc B).heap[w.heap.size + 1]? = some B := by
  rw [← size_alloc w A]; exact heap_new _ _
set_option maxRecDepth 100000 in
theorem named_halt (w : World) : Calls Tryd.prog 88 #[.agg #[.int .u8 6, .int .u8 0, .string ⟨#[]⟩, .int .u8 0, .int .u8 0, .int .u8 0, .int .i64 0, .int .u8 0, .string ⟨#[]⟩, .slice none 0 0, .int .i64 0, .int .u8 0, .int .u8 0, .int .u8 0, .int .i64 0, .int .u8 0, .string ⟨#[]⟩, .slice none 0 0, .int .i64 0, .int .u8 0, .int .u8 0, .int .u8 0, .int .i64 0, .int .u8 0, .string ⟨#[]⟩, .slice none 0 0, .int .i64 0, .int .u8 0, .int .u8 0, .int .u8 0, .int .i64 0, .int .u8 0, .string ⟨#[]⟩, .slice none 0 0, .int .i64 0, .int .i64 0]] w fun e w' => e = .returned (.agg #[.bool false, .bool false, .bool false, .bool false, .bool false, .bool false]) ∧ Below w.heap.size w w' := by
  go_enter Tryd.func88, Tryd.ntmps88
  go_wp2_with fail
  exact bodyPost_ret (results_cell_row rfl _ _ (w.heap.size + 1) 169 #[.bool false, .bool false, .bool false, .bool false, .bool false, .bool false] (0, 0) _ rfl (snd2 _ _ _) Tryd.underlying169 rfl (by kernel_rfl)) rfl ⟨rfl, below_two _ _ _⟩
end Go.Proofs.YtighocmdlifheaaDoor

/-
  A new variable of many cells, and what is stored into it at once.
-/
namespace Go.Proofs.YtighocmdlifheaaDoor
open Go.RowKit
variable {P : Program}
theorem run_alloc_row (w : World) (ty : TypeId) (C : Array Value) (hz : (P.info? ty).map (·.zero) = some (some (.agg C))) :
    (Instr.alloc ty true (.tuple #[])).run P w = .ok (.pointer (some ⟨w.heap.size, 0, none⟩)) (w.alloc (.cells C ty)) := by
  cases hq : P.info? ty with
  | none => simp [hq] at hz
  | some i =>
    have hs : i.zero = some (.agg C) := by simpa [hq] using hz
    simp [Instr.alloc, zeroValue, typeInfo, hq, hs, newVar, newRow, Value.cells, go_sem]
theorem wp_alloc_row {op : Oper} {a : Act} {w : World} {K : Act → World → Prop} {Q : Exit → Act → World → Prop} (ty : TypeId) (ho : op.op = .alloc ty) (C : Array Value) (hz : (P.info? ty).map (·.zero) = some (some (.agg C)))
    (h : K (a.put op.dst (.pointer (some ⟨w.heap.size, 0, none⟩))) (w.alloc (.cells C ty))) : op.wp P a w K Q := by
  unfold Oper.wp execOp
  simp only [ho, Sem.run_bind, run_alloc_row w ty C hz, Result.andThen_ok, Sem.run_pure]
  exact h
theorem below_cells {B g : Nat} (hg : B ≤ g) : ∀ (vs : List Value) (o : Nat) (w : World), Below B w (w.setCells g o vs)
  | [], _, w => Below.refl B w
  | v :: r, o, w => ((Below.refl B w).setCell (p := ⟨g, o, none⟩) hg v).trans (below_cells hg r (o + 1) _)
theorem size_cells (g : Nat) : ∀ (vs : List Value) (o : Nat) (w : World), (w.setCells g o vs).heap.size = w.heap.size
  | [], _, _ => rfl
  | v :: r, o, w => (size_cells g r (o + 1) _).trans (by simp [World.setCell])
/-- A new block, filled at once. -/
structure Fil (w : World) (cs : List Value) (ty : TypeId) (Y : World) : Prop where
  B : Below w.heap.size w Y
  r : Y.rangeAt w.heap.size 0 cs
  s : Y.heap.size = w.heap.size + 1
theorem wpList_new_row {ops : Array Oper} {rest : List Oper} {o1 o2 : Oper} {a : Act} {w : World} {Q : Exit → Act → World → Prop} (hg1 : o1.guard = none) (hg2 : o2.guard = none) (ty : TypeId) (h1 : o1.op = .alloc ty) (x y : Operand) (h2 : o2.op = .store ty x y)
    (C : Array Value) (hz : (P.info? ty).map (·.zero) = some (some (.agg C))) (hi : (P.info? ty).map (·.size) = some C.size) (cells : Array Value) (hs : cells.size = C.size)
    (hx : (a.put o1.dst (.pointer (some ⟨w.heap.size, 0, none⟩))).eval x = .pointer (some ⟨w.heap.size, 0, none⟩)) (hy : (a.put o1.dst (.pointer (some ⟨w.heap.size, 0, none⟩))).eval y = .agg cells) (hc : cells.all (·.oneCell') = true)
    (h : ∀ Y, Fil w cells.toList ty Y → wpList P ops Q rest ((a.put o1.dst (.pointer (some ⟨w.heap.size, 0, none⟩))).put o2.dst undef) Y) : wpList P ops Q (o1 :: o2 :: rest) a w := by
  have hb : (w.alloc (.cells C ty)).heap[w.heap.size]? = some (.cells C ty (0, 0)) := heap_new _ _
  have ht : (w.alloc (.cells C ty)).there w.heap.size 0 cells.size := fun j hj => by
    have hj' : j < C.size := by omega
    refine ⟨?_, ?_⟩
    · rw [Nat.zero_add, cell_of hb j, Array.getElem?_eq_getElem hj']; rfl
    · rw [Nat.zero_add]; exact frozen_of hb j
  refine wpList_plain hg1 fun _ hK => wp_alloc_row ty h1 C hz (hK _ _ ?_)
  refine wpList_store_mid hg2 ty x y h2 w.heap.size 0 cells hx hy ht (by rw [hi, hs]) hc (h _ ⟨?_, ?_, ?_⟩)
  · exact (below_new w _).trans ((below_cells (Nat.le_refl _) cells.toList 0 _).mono (Nat.le_refl _))
  · exact World.rangeAt_setCells_same _ _ _ _ ht
  · rw [size_cells, size_alloc]
end Go.Proofs.YtighocmdlifheaaDoor

/-
  needRule, needState: of one thing done, of one rule.
-/
namespace Go.Proofs.YtighocmdlifheaaDoor
open Go.RowKit
def ndZ : List Value := [.int .u8 0, .int .u8 0, .int .u8 0, .int .i64 0, .int .u8 0, .string ⟨#[]⟩, .slice none 0 0, .int .i64 0]
def doZ (k : Int) : List Value := [.int .u8 k, .int .u8 0, .string ⟨#[]⟩] ++ (ndZ ++ (ndZ ++ (ndZ ++ (ndZ ++ [.int .i64 0]))))
theorem zero104 : (Tryd.prog.info? 104).map (·.zero) = some (some (.agg (doZ 0).toArray)) := by kernel_rfl
theorem size104 : (Tryd.prog.info? 104).map (·.size) = some 36 := by kernel_rfl
theorem range_on {w w' : World} {b o : Nat} {cs : List Value} (h : w.rangeAt b o cs) (k : Below w.heap.size w w') : w'.rangeAt b o cs := fun j v hv => by
  have h1 := h j v hv
  rw [World.cell?_of_block (k.block b (World.block_lt_of_cell? w _ h1))]; exact h1
def hasN : Nd := .mk ⟨4, 0, 0, 0, 1, ⟨#[]⟩, 0⟩ none 0 []
theorem liesHas (w : World) : Lies w hasN := .mk _ _ _ _ ⟨by decide, by decide, by decide, by decide, by decide, by decide, by decide, by decide, by decide, by decide, by decide, by decide, by decide⟩ (Nat.le_refl _) (by decide) (fun i hi => by simp at hi) (fun k hk => by cases hk)
set_option maxRecDepth 100000 in
set_option maxHeartbeats 4000000 in
theorem rule_one (d : List Value) (hd : d.length = 36) (h1 : d.toArray.all (·.oneCell') = true) (cD : ∀ v, Calls Tryd.prog 79 #[.agg d.toArray] v fun e w' => e = .returned (.tuple #[]) ∧ Below v.heap.size v w') (b : Nat) (w : World) (hr : w.rangeAt b 0 d) (ht : Tab w) :
    Calls Tryd.prog 73 #[.agg #[.int .u8 4, .int .u8 0, .int .u8 0, .int .i64 0, .int .u8 1, .string ⟨#[]⟩, .slice none 0 0, .int .i64 0, .slice (some ⟨b, 0, none⟩) 1 1, .int .i64 0]] w fun e w' => e = .returned (.tuple #[]) ∧ Below w.heap.size w w' := by
  obtain ⟨W, eW⟩ : ∃ W, w.alloc (.cells #[.int .u8 4, .int .u8 0, .int .u8 0, .int .i64 0, .int .u8 1, .string ⟨#[]⟩, .slice none 0 0, .int .i64 0, .slice (some ⟨b, 0, none⟩) 1 1, .int .i64 0] 75) = W := ⟨_, rfl⟩
  have hbW : Below w.heap.size w W := by rw [← eW]; exact below_new _ _
  have hW : W.heap[w.heap.size]? = some (.cells #[.int .u8 4, .int .u8 0, .int .u8 0, .int .i64 0, .int .u8 1, .string ⟨#[]⟩, .slice none 0 0, .int .i64 0, .slice (some ⟨b, 0, none⟩) 1 1, .int .i64 0] 75 (0, 0)) := by rw [← eW]; exact heap_new _ _
  have cE : Calls Tryd.prog 52 #[.agg #[.int .u8 4, .int .u8 0, .int .u8 0, .int .i64 0, .int .u8 1, .string ⟨#[]⟩, .slice none 0 0, .int .i64 0]] W fun e w' => e = .returned (.tuple #[]) ∧ Below W.heap.size W w' := by
    have := needExpr_any hasN W (liesHas W) (by decide) (ht.on hbW)
    rw [show cE hasN = 0 by decide] at this
    exact this.zero
  have y0 : W.cell? ⟨w.heap.size, 0, none⟩ = some (.int .u8 4) := cell_of hW 0
  have y1 : W.cell? ⟨w.heap.size, 1, none⟩ = some (.int .u8 0) := cell_of hW 1
  have y2 : W.cell? ⟨w.heap.size, 2, none⟩ = some (.int .u8 0) := cell_of hW 2
  have y3 : W.cell? ⟨w.heap.size, 3, none⟩ = some (.int .i64 0) := cell_of hW 3
  have y4 : W.cell? ⟨w.heap.size, 4, none⟩ = some (.int .u8 1) := cell_of hW 4
  have y5 : W.cell? ⟨w.heap.size, 5, none⟩ = some (.string ⟨#[]⟩) := cell_of hW 5
  have y6 : W.cell? ⟨w.heap.size, 6, none⟩ = some (.slice none 0 0) := cell_of hW 6
  have y7 : W.cell? ⟨w.heap.size, 7, none⟩ = some (.int .i64 0) := cell_of hW 7
  have HW : Hid (W.heap[w.heap.size]? = some (.cells #[.int .u8 4, .int .u8 0, .int .u8 0, .int .i64 0, .int .u8 1, .string ⟨#[]⟩, .slice none 0 0, .int .i64 0, .slice (some ⟨b, 0, none⟩) 1 1, .int .i64 0] 75 (0, 0))) := hW
  have HBW : Hid (Below w.heap.size w W) := hbW
  have HR : Hid (w.rangeAt b 0 d) := hr
  have HD : Hid (d.length = 36) := hd
  have H1 : Hid (d.toArray.all (·.oneCell') = true) := h1
  clear hbW hW hr hd h1 ht
  go_enter Tryd.func73, Tryd.ntmps73
  go_wp2_with fail
  clear eW
  refine cE.mono ?_
  rintro e w1 ⟨rfl, hb⟩
  have z8 : w1.cell? ⟨w.heap.size, 8, none⟩ = some (.slice (some ⟨b, 0, none⟩) 1 1) := cell_of ((hb.block _ (Array.getElem?_eq_some_iff.1 HW.out).1).trans HW.out) 8
  have HB1 : Hid (Below w.heap.size w w1) := below2 HBW.out hb
  clear hb cE y0 y1 y2 y3 y4 y5 y6 y7 HBW HW
  go_wp2_with (go_at_call 65; refine (count_ok 1 1 8 (by decide) (by decide) _).mono ?_; rintro e w3 ⟨rfl, e4⟩; obtain rfl := e4.symm)
  go_loopw [3, 14] (fun _ t wr => ∃ i : Nat, i ≤ 1 ∧ t = .int .i64 i ∧ Hid (Below w.heap.size w wr)) (fun _ t _ => 1 - (intOf t).toNat)
  case atStart => exact ⟨0, by omega, rfl, HB1⟩
  case round =>
    obtain ⟨i, hi, rfl, HBr⟩ := hrel
    rcases (by omega : i = 0 ∨ i = 1) with rfl | rfl
    · have HRr : Hid (wr.rangeAt b 0 d) := range_on HR.out HBr.out
      go_wp2_with (first
        | (refine wpList_load_mid rfl 104 (.tmp 16) rfl b 0 rfl d _ HRr.out Tryd.underlying104 rfl (by rw [HD.out]; exact size104) ?_)
        | (refine wpList_new_row rfl rfl 104 rfl (.tmp 3) (.tmp 17) rfl (doZ 0).toArray zero104 (by exact size104) d.toArray (by rw [List.size_toArray, HD.out]; rfl) rfl rfl H1.out ?_; intro Y hY; have HY : Hid (Fil wr d 104 Y) := hY; clear hY)
        | (refine wpList_load_mid rfl 104 (.tmp 3) rfl wr.heap.size 0 rfl d _ HY.out.r Tryd.underlying104 rfl (by rw [HD.out]; exact size104) ?_))
      refine (cD _).mono ?_
      rintro e w5 ⟨rfl, hb5⟩
      have HB5 : Hid (Below w.heap.size w w5) := below2 (below2 HBr.out HY.out.B) hb5
      clear hb5
      go_wp2_with fail
      exact ⟨⟨1, by omega, rfl, HB5⟩, by simp only [intOf]; omega⟩
    · go_wp2_with fail
      go_end0
      exact ⟨rfl, HBr.out⟩
end Go.Proofs.YtighocmdlifheaaDoor

/-
  Reads, of one node that asks for a field.
-/
namespace Go.Proofs.YtighocmdlifheaaDoor
open Go.RowKit Go.Shelf
attribute [local go_sem] Oper.semAt_some
/-- Between two rounds: the fields that have come; no names. -/
structure Fh (w : World) (B C : Nat) (pr : List Nat) (W : World) : Prop where
  b : Boxed W B 33 (.int .u16 (if 0 ∈ pr then 2 else 0))
  c : Boxed W C 34 (.slice none 0 0)
  m : Below w.heap.size w W
theorem fh_own (w : World) (B C : Nat) {D : Nat} (hC : w.heap.size ≤ D) : OwnFrom D (Fh w B C) := by
  intro pr W W' row h hg hr
  exact ⟨boxed_own _ _ (fun (_ : Unit) => _) () W W' row h.b hg (fun x e => (hr x e).2), boxed_own _ _ (fun (_ : Unit) => _) () W W' row h.c hg (fun x e => (hr x e).2), h.m.grown hg h.m.size (fun k e => Nat.le_trans hC (hr k e).1)⟩
theorem results_t23 {P : Program} {fn : Func} (h : fn.results = #[.tmp 2, .tmp 3]) (tmps : Array Value) (w : World) : (results fn tmps).run P w = .ok (.tuple #[tmps.getD 2 undef, tmps.getD 3 undef]) w := by
  simp [results, h]
theorem ndx_own {w : World} (a' : Act) (A : Nat → Value → Value → Value → Value → Value → Act) (T : Nd) : OwnFrom w.heap.size (fun (_ : Unit) W => ∃ Bt u5 u6 u8 u9 u10, a' = A Bt u5 u6 u8 u9 u10 ∧ NdH W Bt T) := by
  intro _ W W' row hs hg hr
  obtain ⟨Bt, u5, u6, u8, u9, u10, e, h⟩ := hs
  refine ⟨Bt, u5, u6, u8, u9, u10, e, (hg.block Bt h.lt (fun e => ?_)).trans h⟩
  obtain ⟨_, o, ho, hc⟩ := hr Bt e.symm
  rw [show W.heap[Bt]? = _ from h] at ho
  cases ho
  cases hc
set_option maxRecDepth 1000000 in
set_option maxHeartbeats 8000000 in
theorem reads_has (w : World) : Calls Tryd.prog 10 #[.agg hasN.vals] w fun e w' => e = .returned (.tuple #[.int .u16 2, .slice none 0 0]) ∧ Below w.heap.size w w' := by
  have hmm := @run_makeMap Tryd.prog
  have hl := liesHas w
  refine (callsIn_wide (n := 3)).1 (callsIn_of_wp_marks Tryd.func10 rfl trivial ?_ rfl)
  refine wpIn_wide.2 ?_
  simp only [Tryd.ntmps10, List.size_toArray, List.length_cons, List.length_nil, Nat.reduceAdd, Nat.reduceSub, Array.replicate_succ, Array.replicate_zero, List.push_toArray, List.append_toArray, List.nil_append, List.cons_append]
  obtain ⟨B0, hB0⟩ : ∃ x, w.heap.size = x := ⟨_, rfl⟩
  obtain ⟨U, eU⟩ : ∃ U, ((((w.alloc (.cells hasN.vals 28)).alloc (.cells #[.int .u16 0] 33)).alloc (.cells #[.slice none 0 0] 34)).alloc (.map #[] 0)).alloc (.cells #[.map (some (B0 + 1 + 1 + 1))] 80) = U := ⟨_, rfl⟩
  have sU : U.heap.size = B0 + 1 + 1 + 1 + 1 + 1 := by rw [← eU]; simp [hB0]
  have hU : Below w.heap.size w U := by rw [← eU]; exact ((((below_new w _).alloc (by simp) _).alloc (by simp <;> omega) _).alloc (by simp <;> omega) _).alloc (by simp <;> omega) _
  have u1 : Boxed U (B0 + 1) 33 (.int .u16 0) := by
    have := (((Boxed.new (w.alloc (.cells hasN.vals 28)) 33 (.int .u16 0)).alloc (.cells #[.slice none 0 0] 34)).alloc (.map #[] 0)).alloc (.cells #[.map (some (B0 + 1 + 1 + 1))] 80)
    rw [World.size_alloc, hB0] at this
    rw [← eU]; exact this
  have u2 : Boxed U (B0 + 1 + 1) 34 (.slice none 0 0) := by
    have := ((Boxed.new ((w.alloc (.cells hasN.vals 28)).alloc (.cells #[.int .u16 0] 33)) 34 (.slice none 0 0)).alloc (.map #[] 0)).alloc (.cells #[.map (some (B0 + 1 + 1 + 1))] 80)
    rw [World.size_alloc, World.size_alloc, hB0] at this
    rw [← eU]; exact this
  have hN : NdH U B0 hasN := by rw [← eU, ← hB0]; exact heap_old (heap_old (heap_old (heap_old (heap_new w _) (by simp)) (by simp <;> omega)) (by simp <;> omega)) (by simp <;> omega)
  have y0 : U.cell? ⟨B0, 0, none⟩ = some (.int .u8 4) := cell_of hN 0
  have y1 : U.cell? ⟨B0, 1, none⟩ = some (.int .u8 0) := cell_of hN 1
  have y2 : U.cell? ⟨B0, 2, none⟩ = some (.int .u8 0) := cell_of hN 2
  have y3 : U.cell? ⟨B0, 3, none⟩ = some (.int .i64 0) := cell_of hN 3
  have y4 : U.cell? ⟨B0, 4, none⟩ = some (.int .u8 1) := cell_of hN 4
  have y5 : U.cell? ⟨B0, 5, none⟩ = some (.string ⟨#[]⟩) := cell_of hN 5
  have y6 : U.cell? ⟨B0, 6, none⟩ = some (.slice none 0 0) := cell_of hN 6
  have y7 : U.cell? ⟨B0, 7, none⟩ = some (.int .i64 0) := cell_of hN 7
  have cL := all_any hasN U
  rw [sU] at cL
  obtain ⟨W1, eW1⟩ : ∃ W1, U.alloc (.cells hasN.vals 28) = W1 := ⟨_, rfl⟩
  have hbl : Below w.heap.size w W1 := by rw [← eW1]; exact hU.alloc hU.size _
  have s0 : W1.heap.size = B0 + 1 + 1 + 1 + 1 + 1 + 1 := by rw [← eW1, size_alloc, sU]
  have z1 : Boxed W1 (B0 + 1) 33 (.int .u16 0) := by rw [← eW1]; exact u1.alloc _
  have z2 : Boxed W1 (B0 + 1 + 1) 34 (.slice none 0 0) := by rw [← eW1]; exact u2.alloc _
  have z3 : NdH W1 (B0 + 1 + 1 + 1 + 1 + 1) hasN := by rw [← eW1, ← sU]; exact heap_new _ _
  rw [eW1] at cL
  have HB0 : Hid (w.heap.size = B0) := hB0
  have Hbl : Hid (Below w.heap.size w W1) := hbl
  have Hs0 : Hid (W1.heap.size = B0 + 1 + 1 + 1 + 1 + 1 + 1) := s0
  have Hz1 : Hid (Boxed W1 (B0 + 1) 33 (.int .u16 0)) := z1
  have Hz2 : Hid (Boxed W1 (B0 + 1 + 1) 34 (.slice none 0 0)) := z2
  have Hz3 : Hid (NdH W1 (B0 + 1 + 1 + 1 + 1 + 1) hasN) := z3
  have Hl : Hid (Lies w hasN) := hl
  clear eW1 sU hU u1 u2 hN hbl s0 z1 z2 z3 hl
  unfold Nd.vals hdA hasN at cL eU ⊢
  simp only [Nd.h, Nd.a, Nd.c, Nd.ks, List.length_nil] at cL eU ⊢
  go_wp2_with fail
  clear eU
  refine cL.mono ?_
  rintro e W2 ⟨rfl, e1⟩
  obtain rfl := e1
  go_wp2_with fail
  refine (wpIn_wide (n := 12)).1 ?_
  refine wpIn_rangeFunc_ownH rfl (by omega) (gf := 43) (lb := #[.pointer (some ⟨B0 + 1 + 1 + 1 + 1 + 1, 0, none⟩)]) rfl trivial (enters_of Tryd.func43 (by kernel_rfl) rfl)
    (all_stops 11 hasN (fun b => b = B0 + 1) (B0 + 1 + 1 + 1 + 1 + 1) w W2 Hl.out Hbl.out (fun b hb => by rw [Hs0.out, HB0.out, hb]; omega) Hz3.out)
    (fun h k => h.trans k) ?hKb (Below.refl _ _) (fun _ => rfl)
    (Fh w (B0 + 1) (B0 + 1 + 1))
    (fun _ pre _ => False)
    (fh_own w (B0 + 1) (B0 + 1 + 1) Hbl.out.size) (fun c => ownFrom_pure _ _) ⟨Hz1.out, Hz2.out, Hbl.out⟩
    (fun x a' W => ∃ Bt u5 u6 u8 u9 u10, a' = { tmps := #[.agg #[.int .u8 4, .int .u8 0, .int .u8 0, .int .i64 0, .int .u8 1, .string ⟨#[]⟩, .slice none 0 0, .int .i64 0], .pointer (some ⟨B0, 0, none⟩), .int .u16 0, .slice none 0 0, .pointer (some ⟨B0 + 1, 0, none⟩), u5, u6, .pointer (some ⟨Bt, 0, none⟩), u8, u9, u10, .agg (cutN ((pre hasN).getD x (.mk ⟨0, 0, 0, 0, 0, ⟨#[]⟩, 0⟩ none 0 []))).vals, undef, undef, undef, undef, undef, undef, undef, undef, undef, undef, undef, undef, undef, undef, undef, undef, undef, undef, undef, undef, undef, undef, undef, undef, undef, undef, undef, undef, undef], defers := [] } ∧ NdH W Bt (cutN ((pre hasN).getD x (.mk ⟨0, 0, 0, 0, 0, ⟨#[]⟩, 0⟩ none 0 []))))
    ?hAx ?assign ?body ?done ?stop
  case hKb => exact fun W l o o' h1 h2 h3 h4 => Kc.bound (w := W2) W l o o' h1 h2 h3 h4
  case hAx => exact fun x a' => ndx_own a' _ _
  case assign =>
    rintro lo pr x Y K hi hK
    unfold encN
    obtain ⟨T, eT⟩ : ∃ T, cutN ((pre hasN).getD x (.mk ⟨0, 0, 0, 0, 0, ⟨#[]⟩, 0⟩ none 0 [])) = T := ⟨_, rfl⟩
    rw [eT] at hK ⊢
    have HK : Hid (∀ a', (∃ Bt u5 u6 u8 u9 u10, a' = _ ∧ NdH (Y.alloc (.cells T.vals 28)) Bt T) → K a' (Y.alloc (.cells T.vals 28))) := fun a' hA => hK a' _ ⟨by simp, fun k o _ hk _ => (Below.heap_alloc _ _ _ (Array.getElem?_eq_some_iff.1 hk).1).trans hk⟩ (Kc.of_below (below_new _ _)) ((fh_own w (B0 + 1) (B0 + 1 + 1) (Nat.le_refl _)).alloc _ hi) hA
    clear hK hi eT
    unfold Nd.vals hdA at HK ⊢
    gi_wp2
    exact HK.out _ ⟨Y.heap.size, _, _, _, _, _, rfl, heap_new _ _⟩
  case body =>
    rintro lo pr x a' Y hlo hlr ⟨hb, hc, hm⟩ ⟨Bt, u5, u6, u8, u9, u10, rfl, hT⟩ hlen
    have HF : Hid (Fh w (B0 + 1) (B0 + 1 + 1) pr Y) := ⟨hb, hc, hm⟩
    have hne : Bt ≠ B0 + 1 := fun e => by
      subst e
      have h1 : Y.heap[B0 + 1]? = _ := hb
      have h2 : Y.heap[B0 + 1]? = _ := hT
      rw [h1] at h2
      cases h2
    obtain ⟨V, hV⟩ : ∃ V : Int, (if 0 ∈ pr then 2 else 0) = V := ⟨_, rfl⟩
    have hor : bits BinOp.or IntKind.u16 V 2 = 2 := by rw [← hV]; split <;> decide
    rw [hV] at hb
    have cb := hb.cell
    have fb := hb.frozen
    have HV : Hid ((if 0 ∈ pr then (2 : Int) else 0) = V) := hV
    have HT : Hid (Boxed Y (B0 + 1) 33 (.int .u16 V)) := hb
    clear hb hc hm hlen hlr hV
    rcases x with _ | x
    · have y0 : Y.cell? ⟨Bt, 0, none⟩ = some (.int .u8 4) := cell_of hT 0
      have y4 : Y.cell? ⟨Bt, 4, none⟩ = some (.int .u8 1) := cell_of hT 4
      clear hT
      gi_wp2
      refine ⟨⟨by simp [World.setCell], fun k o _ hk ho => (Below.heap_setCell _ _ _ _ (fun e => ?_)).trans hk⟩, ⟨by simp [World.setCell], fun k cs t fr hv _ => Below.heap_setCell _ _ _ _ hv⟩, ?_, ?_, HF.out.m.setCell (p := ⟨B0 + 1, 0, none⟩) (by rw [HB0.out]; exact Nat.le_succ _) _⟩
      · have e : k = B0 + 1 := e
        rw [e, show Y.heap[B0 + 1]? = _ from HT.out] at hk
        cases hk
        cases ho
      · rw [if_pos (by simp)]
        exact HT.out.set (.int .u16 2)
      · exact HF.out.c.other (by omega) _
    · have y0 : Y.cell? ⟨Bt, 0, none⟩ = some (.int .u8 0) := cell_of hT 0
      clear hT
      gi_wp2
      refine ⟨⟨Nat.le_refl _, fun _ _ _ h _ => h⟩, Kc.refl _ _, ?_, HF.out.c, HF.out.m⟩
      have e : (if 0 ∈ pr ++ [x + 1] then (2 : Int) else 0) = if 0 ∈ pr then 2 else 0 := by simp
      rw [e]
      exact HF.out.b
  case done =>
    rintro D xs W hD rfl ⟨hb, hc, hm⟩ hK
    have c1 := hb.cell
    have c2 := hc.cell
    have e1 : (0 ∈ List.range (pre hasN).length) := by decide
    rw [if_pos e1] at c1
    have HD : Hid (W.heap[D]? = some (.deferred (some []))) := hK
    have HM : Hid (Below w.heap.size w W) := hm
    clear hK hm hb hc
    go_upto_region 14 with fail
    go_quiet (fail)
    have HM2 : Hid (Below w.heap.size w (W.drewN nq)) := below_drew HM.out nq
    have HD2 : Hid ((W.drewN nq).heap[D]? = some (.deferred (some []))) := HD.out
    go_wp2_with fail
    refine leaves_marks (v := .tuple #[.int .u16 2, .slice none 0 0]) [D] (W.drewN nq) (by simp) (fun D' hD' => by simp at hD'; rw [hD']; exact HD2.out) (fun W' mv => ⟨results_t23 rfl _ _, rfl, ?_⟩)
    exact ((Mv.ofBelow HM2.out).trans mv (fun b e => .inr (by simp at e; rw [e]; have := Hbl.out.size; omega))).toBelow
  case stop =>
    intro D c pre W _ h1 h2 _
    exact absurd h2 (by simp)
end Go.Proofs.YtighocmdlifheaaDoor
