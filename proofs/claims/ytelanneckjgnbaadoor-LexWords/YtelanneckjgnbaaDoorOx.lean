/-
  The owner's look at lists of texts: marks, and the two appends.
-/
import Derived.Test.YtelanneckjgnbaaDoorGw
import Derived.Test.YtelanneckjgnbaaDoorMk
import Derived.Test.YtelanneckjgnbaaDoorWs
import Derived.Test.YtelanneckjgnbaaDoorPj
import Derived.Test.YtelanneckjgnbaaDoorLxa
namespace Go.Proofs.YtelanneckjgnbaaDoor
open Go.RowKit

theorem Tryd.info38 : (Tryd.prog.info? 38).map (fun i => (i.zero, i.size, i.bytes)) = some (some (.slice none 0 0), 1, 24) := by kernel_rfl
def mkX (j q : Nat) : Value := .string (mrkI ((j : Int) * 1000 + (q : Int)))
def bhX (j k : Nat) : Value := .string (mrkI ((-1 - (j : Int)) * 1000 - (k : Int)))
def cmX (C : Nat → Nat → Value) (i k : Nat) (j q : Nat) : Value := if j < i ∨ (j = i ∧ q < k) then mkX j q else C j q
def apX (n : Nat → Nat) (j q : Nat) : Value := if q < n j then mkX j q else bhX j (q - n j)
theorem apX_in {n : Nat → Nat} {j q : Nat} (h : q < n j * 1) : apX n j q = mkX j q := if_pos (by omega)
theorem apX_out {n : Nat → Nat} {j k : Nat} : apX n j (n j + k) = bhX j k := by unfold apX; rw [if_neg (by omega), Nat.add_sub_cancel_left]
section
variable {w v : World} {g N : Nat} {V : Nat → Value} {n : Nat → Nat} {C : Nat → Nat → Value} {i : Nat}
theorem P1.call {e : TypeId} {s : Nat} {v' : World} (ap : Aprt w g N V) (h : P1 e s w v g N V n C) (hb : Below v.heap.size v v') : P1 e s w v' g N V n C := by
  refine ⟨fun j hj => (h.row j hj).of_block (fun b hbb => hb.block b ((h.row j hj).lt b hbb)), fun j hj => ?_, ?_⟩
  · rw [hb.cell (show (⟨g, j, none⟩ : Addr).block < _ from Nat.lt_of_lt_of_le ap.gl h.mv.size)]; exact h.cell j hj
  · exact h.mv.trans (F' := fun _ => False) ⟨hb.os, hb.tape, hb.output, hb.size, fun b hbb _ => hb.block b hbb⟩ (fun b e => e.elim)
theorem P1.startX (h : P1 9 1 w v g N V n C) : P1 9 1 w v g N V n (cmX C 0 0) := h.congr (fun j _ q _ => by unfold cmX; rw [if_neg (by omega)])
theorem P1.nextX (h : P1 9 1 w v g N V n (cmX C i (n i))) : P1 9 1 w v g N V n (cmX C (i + 1) 0) :=
  h.congr (fun j _ q hq => by
    unfold cmX
    by_cases e : j < i
    · rw [if_pos (.inl e), if_pos (.inl (by omega))]
    · by_cases e' : j = i
      · subst e'
        rw [if_pos (.inr ⟨rfl, by omega⟩), if_pos (.inl (by omega))]
      · rw [if_neg (by omega), if_neg (by omega)])
theorem P1.markX (ap : Aprt w g N V) {k b c : Nat} (h : P1 9 1 w v g N V n (cmX C i k)) (hi : i < N) (hV : V i = .slice (some ⟨b, 0, none⟩) (n i) c) :
    P1 9 1 w (v.setCell ⟨b, k, none⟩ (mkX i k)) g N V n (cmX C i (k + 1)) :=
  (h.put ap k hi hV (mkX i k)).congr (fun j _ q _ => by
    unfold cmX
    by_cases e : j = i ∧ q = k
    · obtain ⟨rfl, rfl⟩ := e
      rw [if_pos ⟨rfl, rfl⟩, if_pos (.inr ⟨rfl, by omega⟩)]
    · rw [if_neg e]
      by_cases e' : j < i ∨ (j = i ∧ q < k)
      · rw [if_pos e', if_pos (e'.elim (fun h => .inl h) (fun h => .inr ⟨h.1, by omega⟩))]
      · rw [if_neg e', if_neg (by omega)])
theorem P1.doneX (h : P1 9 1 w v g N V n (cmX C N 0)) : P1 9 1 w v g N V n mkX := h.congr (fun j hj q _ => by unfold cmX; rw [if_pos (.inl hj)])
end
theorem append_markX {w v : World} {g N : Nat} {V : Nat → Value} {n : Nat → Nat} {i : Nat} {U : Nat → Value} {lv : Value} {k : Nat} {X : Value} {ops : Array Oper} {rest : List Oper} {o : Oper} {a : Act} {Q : Exit → Act → World → Prop} (hgd : o.guard = none) (d x : Operand)
    (ho : o.op = .call { callee := .builtin .append, args := #[d, x], argTypes := #[38, 38] }) (ap : Aprt w g N V) (hi : i < N) (h : P3 9 38 1 16 w v g N V n mkX (apX n) i U lv k X) (y : ByteArray) (hy : bhX i k = .string y) (hs : a.eval d = X) (hx : a.eval x = .slice (some ⟨v.heap.size, 0, none⟩) 1 1) (hlen : n i + k ≤ 1000000000)
    (hK : ∀ X' v', P3 9 38 1 16 w v' g N V n mkX (apX n) i U lv (k + 1) X' → wpList Tryd.prog ops Q rest (a.put o.dst X') v') :
    wpList Tryd.prog ops Q (o :: rest) a (v.alloc (.cells #[.string y] 9)) := by
  obtain ⟨i0, h0, hz0, hz1, hz2⟩ := info_parts Tryd.info9
  have h' := h.call ap (below_new v (.cells #[.string y] 9))
  obtain ⟨X', v', r1, r2, r3⟩ := run_app1 (P := Tryd.prog) (v.alloc (.cells #[.string y] 9)) 38 o.type 9 i0 _ 1 16 Tryd.underlying38 h0 hz0 hz1 hz2 rfl (by decide) X (n i + k) _ h'.xrow ⟨v.heap.size, 0, none⟩ [.string y] rfl (World.news_of_block (heap_new v _)) (by intro u hu; simp at hu; rw [hu]; rfl) (by unfold maxLen; omega) (by omega)
  refine wpList_plain hgd fun K hK' => ?_
  unfold Oper.wp execOp
  simp only [ho, resolve, invoke, builtin, Sem.run_bind, Sem.run_pure, Result.andThen_ok, List.map_toArray, List.map_cons, List.map_nil, hs, hx, r1]
  refine hK' _ _ (hK X' v' (h'.app (by decide) ap hi (fun q hq => apX_in hq) ?_ r3))
  have hr := Row.snoc (x := fun _ => .string y) r2 rfl (fun j hj => by obtain rfl : j = 0 := by omega
                                                                       rfl)
  refine (show Row v' 9 1 X' (n i + (k + 1)) _ from hr).congr fun j hj => ?_
  by_cases e : j < (n i + k) * 1
  · rw [if_pos e]
  · rw [if_neg e, show j = n i + k by omega, apX_out, hy]
theorem append_longX {w v : World} {g N : Nat} {V : Nat → Value} {n : Nat → Nat} {M A : Nat → Nat → Value} {i : Nat} {U : Nat → Value} {lv : Value} {X : Value} {ops : Array Oper} {rest : List Oper} {o : Oper} {a : Act} {Q : Exit → Act → World → Prop} (hgd : o.guard = none) (d x : Operand)
    (ho : o.op = .call { callee := .builtin .append, args := #[d, x], argTypes := #[69, 69] }) (ap : Aprt w g N V) (h : P3 9 38 1 16 w v g N V n M A i U lv 16 X) (hX1 : X.oneCell' = true) (hs : a.eval d = lv) (hx : a.eval x = .slice (some ⟨v.heap.size, 0, none⟩) 1 1) (hlen : i ≤ 1000000)
    (hK : ∀ lv' v', P2 9 38 1 16 w v' g N V n M A (i + 1) (fun j => if j = i then X else U j) lv' → wpList Tryd.prog ops Q rest (a.put o.dst lv') v') :
    wpList Tryd.prog ops Q (o :: rest) a (v.alloc (.cells #[X] 38)) := by
  obtain ⟨i0, h0, hz0, hz1, hz2⟩ := info_parts Tryd.info38
  have h' := h.call ap (below_new v (.cells #[X] 38))
  refine wpList_append_own_at _ hgd d x 69 ho 0 38 i0 _ 1 24 Tryd.underlying69 h0 hz0 hz1 hz2 rfl (by decide) lv i _ hs h'.long ⟨v.heap.size, 0, none⟩ 1 1 [X] hx rfl (World.news_of_block (heap_new v _)) (by intro u hu; simp at hu; rw [hu]; exact hX1) (by unfold maxLen; omega) (by omega) (Nat.zero_le _) ?_
  intro lv' v' r1 r2 _ r4
  refine hK lv' v' (h'.fin (by decide) ap ?_ r2 r4)
  have hr := Row.snoc (x := fun _ => X) r1 rfl (fun j hj => by obtain rfl : j = 0 := by omega
                                                               rfl)
  refine hr.congr fun j hj => ?_
  by_cases e : j < i * 1
  · rw [if_pos e, if_neg (show ¬ j = i by omega)]
  · rw [if_neg e, if_pos (show j = i by omega)]
theorem mark_mk (j q : Nat) (h1 : j ≤ 1000) (h2 : q ≤ 1000000) : ∃ x, mkX j q = .string x ∧ ∀ w, Calls Tryd.prog 71 #[.int .i64 ((j : Int) * 1000 + (q : Int))] w fun e w' => e = .returned (.string x) ∧ Below w.heap.size w w' :=
  ⟨_, rfl, fun w => mark_any' _ (by omega) (by omega) w⟩
theorem mark_bh (j q : Nat) (h1 : j ≤ 1000) (h2 : q ≤ 1000000) : ∃ x, bhX j q = .string x ∧ ∀ w, Calls Tryd.prog 71 #[.int .i64 ((-1 - (j : Int)) * 1000 - (q : Int))] w fun e w' => e = .returned (.string x) ∧ Below w.heap.size w w' :=
  ⟨_, rfl, fun w => mark_any' _ (by omega) (by omega) w⟩
end Go.Proofs.YtelanneckjgnbaaDoor
