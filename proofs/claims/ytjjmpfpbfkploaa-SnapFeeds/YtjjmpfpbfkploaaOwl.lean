/-
  The two appends of the owner's look; how its three parts begin and end.
-/
import Derived.Test.YtjjmpfpbfkploaaOwp
namespace Go.Proofs.Ytjjmpfpbfkploaa
open Go.RowKit

theorem Try.info25 : (Try.prog.info? 25).map (fun i => (i.zero, i.size, i.bytes)) = some (some (.slice none 0 0), 1, 24) := by kernel_rfl

theorem append_mark {w v : World} {g N : Nat} {V : Nat → Value} {n : Nat → Nat} {i : Nat} {U : Nat → Value} {lv : Value} {k : Nat} {X : Value} {ops : Array Oper} {rest : List Oper} {o : Oper} {a : Act} {Q : Exit → Act → World → Prop} (hgd : o.guard = none) (d x : Operand)
    (ho : o.op = .call { callee := .builtin .append, args := #[d, x], argTypes := #[25, 25] }) (ap : Aprt w g N V) (hi : i < N) (h : P3 w v g N V n i U lv k X) (y : Fd) (hy : apF i (n i) (n i + k) = y) (hs : a.eval d = X) (hx : a.eval x = .slice (some ⟨v.heap.size, 0, none⟩) 1 1) (hlen : n i + k ≤ 1000000000)
    (hK : ∀ X' v', P3 w v' g N V n i U lv (k + 1) X' → wpList Try.prog ops Q rest (a.put o.dst X') v') :
    wpList Try.prog ops Q (o :: rest) a (v.alloc (.cells (fdA y) 66)) := by
  obtain ⟨i0, h0, hz0, hz1, hz2⟩ := info_parts Try.info66
  have h' := h.call ap (below_new v (.cells (fdA y) 66))
  obtain ⟨X', v', r1, r2, r3⟩ := run_app1 (P := Try.prog) (v.alloc (.cells (fdA y) 66)) 25 o.type 66 i0 _ 3 24 Try.underlying25 h0 hz0 hz1 hz2 rfl (by decide) X (n i + k) _ h'.xrow ⟨v.heap.size, 0, none⟩ (fdA y).toList rfl (news_core v y) (one_core y) (by unfold maxLen; omega) (by omega)
  refine wpList_plain hgd fun K hK' => ?_
  unfold Oper.wp execOp
  simp only [ho, resolve, invoke, builtin, Sem.run_bind, Sem.run_pure, Result.andThen_ok, List.map_toArray, List.map_cons, List.map_nil, hs, hx, r1]
  refine hK' _ _ (hK X' v' (h'.app ap hi ?_ r3))
  have hr := Row.snoc (x := fdF (fun _ => y)) r2 rfl (fun j hj => fd_cells y j hj)
  refine (show Row v' 66 3 X' (n i + (k + 1)) _ from hr).congr fun j hj => ?_
  by_cases e : j < (n i + k) * 3
  · simp only [e, if_true]
  · simp only [e, if_false]
    have e1 : j / 3 = n i + k := by omega
    unfold fdF
    rw [e1, hy, show (j - (n i + k) * 3) % 3 = j % 3 by omega]

theorem append_long {w v : World} {g N : Nat} {V : Nat → Value} {n : Nat → Nat} {i : Nat} {U : Nat → Value} {lv : Value} {X : Value} {ops : Array Oper} {rest : List Oper} {o : Oper} {a : Act} {Q : Exit → Act → World → Prop} (hgd : o.guard = none) (d x : Operand)
    (ho : o.op = .call { callee := .builtin .append, args := #[d, x], argTypes := #[55, 55] }) (ap : Aprt w g N V) (h : P3 w v g N V n i U lv 16 X) (hX1 : X.oneCell' = true) (hs : a.eval d = lv) (hx : a.eval x = .slice (some ⟨v.heap.size, 0, none⟩) 1 1) (hlen : i ≤ 1000000)
    (hK : ∀ lv' v', P2 w v' g N V n (i + 1) (fun j => if j = i then X else U j) lv' → wpList Try.prog ops Q rest (a.put o.dst lv') v') :
    wpList Try.prog ops Q (o :: rest) a (v.alloc (.cells #[X] 25)) := by
  obtain ⟨i0, h0, hz0, hz1, hz2⟩ := info_parts Try.info25
  have h' := h.call ap (below_new v (.cells #[X] 25))
  refine wpList_append_own_at _ hgd d x 55 ho 0 25 i0 _ 1 24 Try.underlying55 h0 hz0 hz1 hz2 rfl (by decide) lv i _ hs h'.long ⟨v.heap.size, 0, none⟩ 1 1 [X] hx rfl (World.news_of_block (heap_new v _)) (by intro u hu; simp at hu; rw [hu]; exact hX1) (by unfold maxLen; omega) (by omega) (Nat.zero_le _) ?_
  intro lv' v' r1 r2 _ r4
  refine hK lv' v' (h'.fin ap ?_ r2 r4)
  have hr := Row.snoc (x := fun _ => X) r1 rfl (fun j hj => by obtain rfl : j = 0 := by omega
                                                               rfl)
  refine hr.congr fun j hj => ?_
  by_cases e : j < i * 1
  · rw [if_pos e, if_neg (show ¬ j = i by omega)]
  · rw [if_neg e, if_pos (show j = i by omega)]

theorem P1.start {w v : World} {g N : Nat} {V : Nat → Value} {n : Nat → Nat} {C : Nat → Nat → Fd} (h : P1 w v g N V n C) : P1 w v g N V n (cmF C 0 0) :=
  h.congr (fun j _ k _ => by unfold cmF; rw [if_neg (by omega)])
theorem P1.next {w v : World} {g N : Nat} {V : Nat → Value} {n : Nat → Nat} {C : Nat → Nat → Fd} {i : Nat} (h : P1 w v g N V n (cmF C i (n i))) : P1 w v g N V n (cmF C (i + 1) 0) :=
  h.congr (fun j _ k hk => by
    unfold cmF
    by_cases e : j < i
    · rw [if_pos (.inl e), if_pos (.inl (by omega))]
    · by_cases e' : j = i
      · subst e'
        rw [if_pos (.inr ⟨rfl, hk⟩), if_pos (.inl (by omega))]
      · rw [if_neg (by omega), if_neg (by omega)])
theorem P1.mark {w v : World} {g N : Nat} {V : Nat → Value} {n : Nat → Nat} {C : Nat → Nat → Fd} (ap : Aprt w g N V) {i k b c : Nat} (h : P1 w v g N V n (cmF C i k)) (hi : i < N) (hV : V i = .slice (some ⟨b, 0, none⟩) (n i) c) :
    P1 w (((v.setCell ⟨b, k * 3, none⟩ (.int .u8 0)).setCell ⟨b, k * 3 + 1, none⟩ (.int .i64 ((i : Int) * 1000 + (k : Int)))).setCell ⟨b, k * 3 + 2, none⟩ (.int .i64 0)) g N V n (cmF C i (k + 1)) :=
  (h.put ap hi hV (mkF i k) (k := k)).congr (fun j _ k' _ => by
    unfold cmF
    by_cases e : j = i ∧ k' = k
    · obtain ⟨rfl, rfl⟩ := e
      rw [if_pos ⟨rfl, rfl⟩, if_pos (.inr ⟨rfl, by omega⟩)]
    · rw [if_neg e]
      by_cases e' : j < i ∨ (j = i ∧ k' < k)
      · rw [if_pos e', if_pos (e'.elim (fun h => .inl h) (fun h => .inr ⟨h.1, by omega⟩))]
      · rw [if_neg e', if_neg (by omega)])
theorem P1.done {w v : World} {g N : Nat} {V : Nat → Value} {n : Nat → Nat} {C : Nat → Nat → Fd} (h : P1 w v g N V n (cmF C N 0)) : P2 w v g N V n 0 (fun _ => .slice none 0 0) (.slice none 0 0) := by
  have hr : ∀ j, j < N → Row v 66 3 (V j) (n j) (fdF (mkF j)) := fun j hj => (h.row j hj).congr (fun q _ => by
    have e : cmF C N 0 j = mkF j := by funext k; unfold cmF; rw [if_pos (.inl hj)]
    rw [e])
  exact ⟨fun j hj => Rd.of_row (hr j hj), fun j _ hj => hr j hj, fun j hj => by omega, fun j hj => by omega, fun j j' hj => by omega, Row.nil _ _ _ _, fun b hb => by simp [Value.ownBlock] at hb, h.cell, h.mv⟩
theorem P3.form {w v : World} {g N : Nat} {V : Nat → Value} {n : Nat → Nat} {i : Nat} {U : Nat → Value} {lv : Value} {k : Nat} {X : Value} (h : P3 w v g N V n i U lv k X) : ∃ ao c, X = .slice ao (n i + k) c := by
  obtain ⟨ao, c, e, _⟩ := h.xrow.form
  exact ⟨ao, c, e⟩
/-- What the last look reads of list i. -/
theorem P2.look {w v : World} {g N : Nat} {V : Nat → Value} {n : Nat → Nat} {U : Nat → Value} {lv : Value} (h : P2 w v g N V n N U lv) {i : Nat} (hi : i < N) :
    ∃ gl lc bu cu, lv = .slice (some ⟨gl, 0, none⟩) N lc ∧ U i = .slice (some ⟨bu, 0, none⟩) (n i + 16) cu ∧ v.cell? ⟨gl, i, none⟩ = some (.slice (some ⟨bu, 0, none⟩) (n i + 16) cu) ∧ ∀ k, k < n i + 16 → FdAt v bu (k * 3) (apF i (n i) k) := by
  obtain ⟨ao, lc, e1, h1, _⟩ := h.long.form
  obtain ⟨gl, rfl⟩ := h1 (by omega)
  have hu := h.urow i hi
  obtain ⟨bu, cu, e2, _⟩ := Rd.of_row hu 0 (by omega)
  have hl := h.long
  rw [e1] at hl
  refine ⟨gl, lc, bu, cu, e1, e2, ?_, fun k hk => ?_⟩
  · rw [← e2]; exact hl.cell (by omega)
  · obtain ⟨b', c', e3, hf⟩ := Rd.of_row hu k hk
    rw [e2] at e3
    simp at e3
    rw [e3.1]; exact hf
end Go.Proofs.Ytjjmpfpbfkploaa
