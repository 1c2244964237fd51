import Derived.Test.YtkfabnchhjfjjabGreatDoorMem
import Derived.Deep.AppendLies
import Derived.Deep.RegionLaw
/-
  One token more, behind a list of the call's own.
-/
namespace Go.Proofs.YtkfabnchhjfjjabGreatDoor
open Go.RowKit

theorem Tryz.info33 : (Tryz.prog.info? 33).map (fun i => (i.zero, i.size, i.bytes)) = some (some (.agg #[.int .u8 0, .string ⟨#[]⟩, .int .u8 0, .int .i64 0, .int .i64 0]), 5, 48) := by kernel_rfl
/-- The cells of a list of tokens. -/
def tkF (A : Nat → Tk) (j : Nat) : Value := if j % 5 = 0 then .int .u8 (A (j / 5)).k else if j % 5 = 1 then .string (A (j / 5)).x else if j % 5 = 2 then .int .u8 (A (j / 5)).ty else if j % 5 = 3 then .int .i64 (A (j / 5)).n else .int .i64 (A (j / 5)).p
def lsF (L : List Tk) : Nat → Tk := fun i => L.getD i tk0
theorem lsF_lt {L : List Tk} {y : Tk} {i : Nat} (h : i < L.length) : lsF (L ++ [y]) i = lsF L i := by
  unfold lsF
  simp [List.getD, List.getElem?_append_left h]
theorem lsF_at (L : List Tk) (y : Tk) : lsF (L ++ [y]) L.length = y := by
  unfold lsF
  simp [List.getD]
/-- A list of tokens, of the call's own. -/
def RowL (w : World) (v : Value) (L : List Tk) : Prop := Row w 33 5 v L.length (tkF (lsF L))
/-- It lies in memory that is newer than W; and W's is as it was. -/
structure RL (W w : World) (v : Value) (L : List Tk) : Prop where
  row : RowL w v L
  nb : ∀ k, v.ownBlock = some k → W.heap.size ≤ k
  B : Below W.heap.size W w
theorem RL.nil (W : World) : RL W W (.slice none 0 0) [] := ⟨Row.nil _ _ _ _, fun k h => by simp [Value.ownBlock] at h, Below.refl _ _⟩
theorem RL.call {W w w' : World} {v : Value} {L : List Tk} (h : RL W w v L) (k : Below w.heap.size w w') : RL W w' v L :=
  ⟨h.row.of_block (fun b hb => k.block b (h.row.lt b hb)), h.nb, h.B.trans (k.mono h.B.size)⟩
theorem RL.alloc {W w : World} {v : Value} {L : List Tk} (h : RL W w v L) (o : Obj) : RL W (w.alloc o) v L := h.call (below_new w o)
theorem RL.drew {W w : World} {v : Value} {L : List Tk} (h : RL W w v L) : RL W w.drew v L := ⟨h.row.of_block (fun _ _ => rfl), h.nb, h.B.drew⟩
theorem RL.drewN {W w : World} {v : Value} {L : List Tk} (h : RL W w v L) (n : Nat) : RL W (w.drewN n) v L := ⟨h.row.of_block (fun _ _ => rfl), h.nb, below_drew h.B n⟩
theorem RL.hid {W w : World} {v : Value} {L : List Tk} (h : RL W w v L) : Hid (RL W w v L) := h
theorem tk_cells (y : Tk) : ∀ j, j < 5 → (tkA y).toList[j]? = some (tkF (fun _ => y) j) := by
  intro j hj
  match j, hj with
  | 0, _ => rfl
  | 1, _ => rfl
  | 2, _ => rfl
  | 3, _ => rfl
  | 4, _ => rfl
theorem app_core {W w0 w' : World} {v : Value} {L : List Tk} {y : Tk} {g cap : Nat} (hR : RL W w0 v L)
    (h2 : w'.ownsRow 0 33 5 (.slice (some ⟨g, 0, none⟩) (L.length + 1) cap) (L.length + 1) ((List.range (L.length * 5)).map (tkF (lsF L)) ++ (tkA y).toList))
    (h3 : (w0.alloc (.cells (tkA y) 33)).grownBy w' v.ownBlock) (h4 : v.ownBlock = some g ∨ g = (w0.alloc (.cells (tkA y) 33)).heap.size) :
    RL W w' (.slice (some ⟨g, 0, none⟩) (L.length + 1) cap) (L ++ [y]) ∧ w0.heap.size ≤ w'.heap.size ∧ ∀ b, b < w0.heap.size → v.ownBlock ≠ some b → w'.heap[b]? = w0.heap[b]? := by
  have hsz := size_alloc w0 (.cells (tkA y) 33)
  have hB0 := hR.B.alloc hR.B.size (.cells (tkA y) 33)
  refine ⟨⟨?_, ?_, hB0.grown h3 hB0.size (fun k hk => hR.nb k hk)⟩, ?_, ?_⟩
  · have hr := Row.snoc (x := tkF (fun _ => y)) h2 rfl (fun j hj => tk_cells y j hj)
    unfold RowL
    rw [List.length_append, List.length_singleton]
    refine hr.congr fun j hj => ?_
    by_cases h : j < L.length * 5
    · simp only [h, if_true]
      unfold tkF
      rw [lsF_lt (by omega)]
    · have e : j / 5 = L.length := by omega
      simp only [h, if_false]
      unfold tkF
      rw [e, lsF_at, show (j - L.length * 5) % 5 = j % 5 by omega]
  · intro k hk
    simp [Value.ownBlock] at hk
    subst hk
    rcases h4 with h4 | h4
    · exact hR.nb _ h4
    · have := hR.B.size; omega
  · have := h3.size; omega
  · intro b hb hne
    rw [h3.block b (by omega) (fun e => hne e.symm)]
    exact Below.heap_alloc _ _ _ hb

theorem news_core (w0 : World) (y : Tk) : ∀ j u, (tkA y).toList[j]? = some u → (w0.alloc (.cells (tkA y) 33)).cell? ((⟨w0.heap.size, 0, none⟩ : Addr).add j) = some u := World.news_of_block (heap_new w0 _)
theorem one_core (y : Tk) : ∀ u ∈ (tkA y).toList, u.oneCell' = true := by
  intro u hu
  simp [tkA] at hu
  rcases hu with rfl | rfl | rfl | rfl | rfl <;> rfl
theorem append_token {W w0 : World} {ops : Array Oper} {rest : List Oper} {o : Oper} {a : Act} {Q : Exit → Act → World → Prop} (hgd : o.guard = none) (d x : Operand)
    (ho : o.op = .call { callee := .builtin .append, args := #[d, x], argTypes := #[24, 24] }) (y : Tk) {v : Value} {L : List Tk} (hR : RL W w0 v L) (hs : a.eval d = v) (hx : a.eval x = .slice (some ⟨w0.heap.size, 0, none⟩) 1 1) (hlen : L.length ≤ 1000000000)
    (h : ∀ v' w', RL W w' v' (L ++ [y]) → w0.heap.size ≤ w'.heap.size → (∀ b, b < w0.heap.size → v.ownBlock ≠ some b → w'.heap[b]? = w0.heap[b]?) → wpList Tryz.prog ops Q rest (a.put o.dst v') w') :
    wpList Tryz.prog ops Q (o :: rest) a (w0.alloc (.cells (tkA y) 33)) := by
  obtain ⟨i0, hi, hz0, hz1, hz2⟩ := info_parts Tryz.info33
  refine wpList_append_lies _ hgd d x 24 ho 0 33 i0 _ 5 48 Tryz.underlying24 hi hz0 hz1 hz2 rfl (by decide) v L.length _ hs (hR.row.alloc _) ⟨w0.heap.size, 0, none⟩ 1 1 (tkA y).toList hx rfl (news_core w0 y) (one_core y) (by decide) (by unfold maxLen; omega) (by omega) (Nat.zero_le _) _ rfl ?_
  intro g cap w' h2 h3 h4 h5
  obtain ⟨q1, q2, q3⟩ := app_core hR h2 h3 h4
  exact h _ w' q1 q2 q3
theorem step_token {W w0 : World} {ops : Array Oper} {o : Oper} {a : Act} {K : Act → World → Prop} {Q : Exit → Act → World → Prop} {E : Prop} (hgd : o.guard = none) (d x : Operand)
    (ho : o.op = .call { callee := .builtin .append, args := #[d, x], argTypes := #[24, 24] }) (y : Tk) {v : Value} {L : List Tk} (hR : RL W w0 v L) (hs : a.eval d = v) (hx : a.eval x = .slice (some ⟨w0.heap.size, 0, none⟩) 1 1) (hlen : L.length ≤ 1000000000)
    (h : ∀ v' w', RL W w' v' (L ++ [y]) → w0.heap.size ≤ w'.heap.size → (∀ b, b < w0.heap.size → v.ownBlock ≠ some b → w'.heap[b]? = w0.heap[b]?) → K (a.put o.dst v') w') :
    if Region.wanted o (yielded ops a.tmps) = true then Oper.wp Tryz.prog o a (w0.alloc (.cells (tkA y) 33)) K Q else E := by
  obtain ⟨i0, hi, hz0, hz1, hz2⟩ := info_parts Tryz.info33
  refine step_append_lies _ hgd d x 24 ho 0 33 i0 _ 5 48 Tryz.underlying24 hi hz0 hz1 hz2 rfl (by decide) v L.length _ hs (hR.row.alloc _) ⟨w0.heap.size, 0, none⟩ 1 1 (tkA y).toList hx rfl (news_core w0 y) (one_core y) (by decide) (by unfold maxLen; omega) (by omega) (Nat.zero_le _) _ rfl ?_
  intro g cap w' h2 h3 h4 h5
  obtain ⟨q1, q2, q3⟩ := app_core hR h2 h3 h4
  exact h _ w' q1 q2 q3
end Go.Proofs.YtkfabnchhjfjjabGreatDoor

/-
  The walk of the document's Begin.
-/
namespace Go.Proofs.YtkfabnchhjfjjabGreatDoor
open Go.RowKit

def oneQ (s : ByteArray) (f : Nat) : Nat := oneP s f + (oneT s f).x.size
/-- The tokens from a place on, up to the end or up to what is wrong; what, and where. -/
def begO (s : ByteArray) (f : Nat) : List Tk × Int × Int :=
  if oneE s f ≠ 0 then ([], oneE s f, oneB s f)
  else if (oneT s f).k = 0 then ([oneT s f], 0, 0)
  else if _h : f < oneQ s f ∧ oneQ s f ≤ s.size then (oneT s f :: (begO s (oneQ s f)).1, (begO s (oneQ s f)).2)
  else ([], 0, 0)
termination_by s.size - f
decreasing_by all_goals omega
theorem beg_bad {s : ByteArray} {f : Nat} (h : oneE s f ≠ 0) : begO s f = ([], oneE s f, oneB s f) := by
  rw [begO, if_pos h]
theorem beg_end {s : ByteArray} {f : Nat} (h : oneE s f = 0) (hk : (oneT s f).k = 0) : begO s f = ([oneT s f], 0, 0) := by
  rw [begO, if_neg (by simp [h]), if_pos hk]
theorem beg_more {s : ByteArray} {f : Nat} (hf : f ≤ s.size) (h : oneE s f = 0) (hk : ¬ (oneT s f).k = 0) : f < oneQ s f ∧ oneQ s f ≤ s.size ∧ (oneT s f).p + ((oneT s f).x.size : Int) = (oneQ s f : Nat) ∧ begO s f = (oneT s f :: (begO s (oneQ s f)).1, (begO s (oneQ s f)).2) := by
  obtain ⟨q0, q1, q2, q3⟩ := one_fine s f hf h
  have q4 := q3 hk
  have e1 : f < oneQ s f := by unfold oneQ; omega
  have e2 : oneQ s f ≤ s.size := q2
  refine ⟨e1, e2, by rw [q0]; unfold oneQ; omega, ?_⟩
  rw [begO, if_neg (by simp [h]), if_neg hk, dif_pos ⟨e1, e2⟩]
theorem results_t3 {P : Program} {fn : Func} {p u v : Tmp} (h : fn.results = #[.tmp p, .tmp u, .tmp v]) (tmps : Array Value) (w : World) : (results fn tmps).run P w = .ok (.tuple #[tmps.getD p undef, tmps.getD u undef, tmps.getD v undef]) w := by
  simp [results, h]
end Go.Proofs.YtkfabnchhjfjjabGreatDoor

/-
  The walk of the document's Tokens.
-/
namespace Go.Proofs.YtkfabnchhjfjjabGreatDoor
open Go.RowKit

/-- What Tokens answers. -/
def tksE (s : ByteArray) : Int := if s.size > 4096 then 110 else (begO s 0).2.1
def tksB (s : ByteArray) : Int := if tksE s = 0 then 0 else if s.size > 4096 then 0 else (begO s 0).2.2
def tksL (s : ByteArray) : List Tk := if tksE s = 0 then (begO s 0).1 else []
theorem RL.none {W w : World} (h : Below W.heap.size W w) : RL W w (.slice none 0 0) [] := ⟨Row.nil _ _ _ _, fun k h => by simp [Value.ownBlock] at h, h⟩
end Go.Proofs.YtkfabnchhjfjjabGreatDoor
