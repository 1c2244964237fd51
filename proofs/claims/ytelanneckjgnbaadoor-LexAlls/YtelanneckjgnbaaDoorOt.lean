/-
  The walk of the owner's look at lists of tokens.
-/
import Derived.Test.YtelanneckjgnbaaDoorGw
import Derived.Test.YtelanneckjgnbaaDoorLxs
namespace Go.Proofs.YtelanneckjgnbaaDoor
open Go.RowKit

theorem Tryd.info39 : (Tryd.prog.info? 39).map (fun i => (i.zero, i.size, i.bytes)) = some (some (.slice none 0 0), 1, 24) := by kernel_rfl
theorem spot_any (i k : Nat) (hi : i ≤ 1000) (hk : k ≤ 1000000000) (w : World) : Calls Tryd.prog 64 #[.int .i64 i, .int .i64 k] w fun e w' => e = .returned (.int .i64 ((i : Int) * 20000 + (k : Int))) ∧ w' = w := by
  go_enter Tryd.func64, Tryd.ntmps64
  go_wp2
  go_ret
  exact ⟨rfl, rfl⟩
theorem behindR_any (i k : Nat) (hi : i ≤ 1000) (hk : k ≤ 1000) (w : World) : Calls Tryd.prog 65 #[.int .i64 i, .int .i64 k] w fun e w' => e = .returned (.int .i64 (-1 - (i : Int) * 20 - (k : Int))) ∧ w' = w := by
  go_enter Tryd.func65, Tryd.ntmps65
  go_wp2
  go_ret
  exact ⟨rfl, rfl⟩
/-- The marks of list i, in its places: the place alone. -/
def spI (i k : Nat) : Int := (i : Int) * 20000 + (k : Int)
def bhI (i k : Nat) : Int := -1 - (i : Int) * 20 - (k : Int)
/-- The cells as far as they are marked: the first i lists, and k things of list i. -/
def cmT (C : Nat → Nat → Value) (i k : Nat) (j q : Nat) : Value := if q % 5 = 4 ∧ (j < i ∨ (j = i ∧ q / 5 < k)) then .int .i64 (spI j (q / 5)) else C j q
def mkT' (C : Nat → Nat → Value) (j q : Nat) : Value := if q % 5 = 4 then .int .i64 (spI j (q / 5)) else C j q
def apT (C : Nat → Nat → Value) (n : Nat → Nat) (j q : Nat) : Value := if q < n j * 5 then mkT' C j q else tkF (fun k => ⟨0, ⟨#[]⟩, 0, 0, bhI j (k - n j)⟩) q
theorem apT_in {C : Nat → Nat → Value} {n : Nat → Nat} {j q : Nat} (h : q < n j * 5) : apT C n j q = mkT' C j q := if_pos h
theorem apT_out {C : Nat → Nat → Value} {n : Nat → Nat} {j k : Nat} : apT C n j ((n j + k) * 5 + 4) = .int .i64 (bhI j k) := by
  unfold apT
  rw [if_neg (by omega), (tkF_at _ _).2.2.2.2]
  simp only [Nat.add_sub_cancel_left]
theorem P1.startT {w v : World} {g N : Nat} {V : Nat → Value} {n : Nat → Nat} {C : Nat → Nat → Value} (h : P1 49 5 w v g N V n C) : P1 49 5 w v g N V n (cmT C 0 0) :=
  h.congr (fun j _ q _ => by unfold cmT; rw [if_neg (by omega)])
theorem P1.nextT {w v : World} {g N : Nat} {V : Nat → Value} {n : Nat → Nat} {C : Nat → Nat → Value} {i : Nat} (h : P1 49 5 w v g N V n (cmT C i (n i))) : P1 49 5 w v g N V n (cmT C (i + 1) 0) :=
  h.congr (fun j _ q hq => by
    unfold cmT
    by_cases e : q % 5 = 4 ∧ (j < i ∨ (j = i ∧ q / 5 < n i))
    · rw [if_pos e, if_pos ⟨e.1, .inl (by omega)⟩]
    · rw [if_neg e]
      by_cases e2 : q % 5 = 4 ∧ (j < i + 1 ∨ (j = i + 1 ∧ q / 5 < 0))
      · exfalso
        apply e
        refine ⟨e2.1, ?_⟩
        by_cases e3 : j < i
        · exact .inl e3
        · have e4 : j = i := by omega
          subst e4
          exact .inr ⟨rfl, by omega⟩
      · rw [if_neg e2])
theorem P1.markT {w v : World} {g N : Nat} {V : Nat → Value} {n : Nat → Nat} {C : Nat → Nat → Value} (ap : Aprt w g N V) {i k b c : Nat} (h : P1 49 5 w v g N V n (cmT C i k)) (hi : i < N) (hV : V i = .slice (some ⟨b, 0, none⟩) (n i) c) :
    P1 49 5 w (v.setCell ⟨b, k * 5 + 4, none⟩ (.int .i64 (spI i k))) g N V n (cmT C i (k + 1)) :=
  (h.put ap (k * 5 + 4) hi hV (.int .i64 (spI i k))).congr (fun j _ q _ => by
    unfold cmT
    by_cases e : j = i ∧ q = k * 5 + 4
    · obtain ⟨rfl, rfl⟩ := e
      rw [if_pos ⟨rfl, rfl⟩, if_pos ⟨by omega, .inr ⟨rfl, by omega⟩⟩, show (k * 5 + 4) / 5 = k by omega]
    · rw [if_neg e]
      by_cases e' : q % 5 = 4 ∧ (j < i ∨ (j = i ∧ q / 5 < k))
      · rw [if_pos e', if_pos ⟨e'.1, e'.2.elim (fun h => .inl h) (fun h => .inr ⟨h.1, by omega⟩)⟩]
      · rw [if_neg e', if_neg (by omega)])
theorem P1.doneT {w v : World} {g N : Nat} {V : Nat → Value} {n : Nat → Nat} {C : Nat → Nat → Value} (h : P1 49 5 w v g N V n (cmT C N 0)) : P1 49 5 w v g N V n (mkT' C) :=
  h.congr (fun j hj q _ => by
    unfold cmT mkT'
    by_cases e : q % 5 = 4
    · rw [if_pos ⟨e, .inl hj⟩, if_pos e]
    · rw [if_neg (fun h => e h.1), if_neg e])
theorem append_markT {w v : World} {g N : Nat} {V : Nat → Value} {n : Nat → Nat} {C : Nat → Nat → Value} {i : Nat} {U : Nat → Value} {lv : Value} {k : Nat} {X : Value} {ops : Array Oper} {rest : List Oper} {o : Oper} {a : Act} {Q : Exit → Act → World → Prop} (hgd : o.guard = none) (d x : Operand)
    (ho : o.op = .call { callee := .builtin .append, args := #[d, x], argTypes := #[39, 39] }) (ap : Aprt w g N V) (hi : i < N) (h : P3 49 39 5 8 w v g N V n (mkT' C) (apT C n) i U lv k X) (hs : a.eval d = X) (hx : a.eval x = .slice (some ⟨v.heap.size, 0, none⟩) 1 1) (hlen : n i + k ≤ 1000000000)
    (hK : ∀ X' v', P3 49 39 5 8 w v' g N V n (mkT' C) (apT C n) i U lv (k + 1) X' → wpList Tryd.prog ops Q rest (a.put o.dst X') v') :
    wpList Tryd.prog ops Q (o :: rest) a (v.alloc (.cells (tkA ⟨0, ⟨#[]⟩, 0, 0, bhI i k⟩) 49)) := by
  obtain ⟨y, hy⟩ : ∃ y : Tk, y = ⟨0, ⟨#[]⟩, 0, 0, bhI i k⟩ := ⟨_, rfl⟩
  rw [← hy]
  obtain ⟨i0, h0, hz0, hz1, hz2⟩ := info_parts Tryd.info49
  have h' := h.call ap (below_new v (.cells (tkA y) 49))
  obtain ⟨X', v', r1, r2, r3⟩ := run_app1 (P := Tryd.prog) (v.alloc (.cells (tkA y) 49)) 39 o.type 49 i0 _ 5 48 Tryd.underlying39 h0 hz0 hz1 hz2 rfl (by decide) X (n i + k) _ h'.xrow ⟨v.heap.size, 0, none⟩ (tkA y).toList rfl (news_core v y) (one_core y) (by unfold maxLen; omega) (by omega)
  refine wpList_plain hgd fun K hK' => ?_
  unfold Oper.wp execOp
  simp only [ho, resolve, invoke, builtin, Sem.run_bind, Sem.run_pure, Result.andThen_ok, List.map_toArray, List.map_cons, List.map_nil, hs, hx, r1]
  refine hK' _ _ (hK X' v' (h'.app (by decide) ap hi (fun q hq => apT_in hq) ?_ r3))
  have hr := Row.snoc (x := tkF (fun _ => y)) r2 rfl (fun j hj => tk_cells y j hj)
  refine (show Row v' 49 5 X' (n i + (k + 1)) _ from hr).congr fun j hj => ?_
  by_cases e : j < (n i + k) * 5
  · simp only [e, if_true]
  · simp only [e, if_false]
    have e1 : j / 5 = n i + k := by omega
    unfold apT
    rw [if_neg (by omega)]
    unfold tkF
    rw [e1, show (j - (n i + k) * 5) % 5 = j % 5 by omega]
    simp only [Nat.add_sub_cancel_left, hy]
theorem append_longT {w v : World} {g N : Nat} {V : Nat → Value} {n : Nat → Nat} {M A : Nat → Nat → Value} {i : Nat} {U : Nat → Value} {lv : Value} {X : Value} {ops : Array Oper} {rest : List Oper} {o : Oper} {a : Act} {Q : Exit → Act → World → Prop} (hgd : o.guard = none) (d x : Operand)
    (ho : o.op = .call { callee := .builtin .append, args := #[d, x], argTypes := #[24, 24] }) (ap : Aprt w g N V) (h : P3 49 39 5 8 w v g N V n M A i U lv 8 X) (hX1 : X.oneCell' = true) (hs : a.eval d = lv) (hx : a.eval x = .slice (some ⟨v.heap.size, 0, none⟩) 1 1) (hlen : i ≤ 1000000)
    (hK : ∀ lv' v', P2 49 39 5 8 w v' g N V n M A (i + 1) (fun j => if j = i then X else U j) lv' → wpList Tryd.prog ops Q rest (a.put o.dst lv') v') :
    wpList Tryd.prog ops Q (o :: rest) a (v.alloc (.cells #[X] 39)) := by
  obtain ⟨i0, h0, hz0, hz1, hz2⟩ := info_parts Tryd.info39
  have h' := h.call ap (below_new v (.cells #[X] 39))
  refine wpList_append_own_at _ hgd d x 24 ho 0 39 i0 _ 1 24 Tryd.underlying24 h0 hz0 hz1 hz2 rfl (by decide) lv i _ hs h'.long ⟨v.heap.size, 0, none⟩ 1 1 [X] hx rfl (World.news_of_block (heap_new v _)) (by intro u hu; simp at hu; rw [hu]; exact hX1) (by unfold maxLen; omega) (by omega) (Nat.zero_le _) ?_
  intro lv' v' r1 r2 _ r4
  refine hK lv' v' (h'.fin (by decide) ap ?_ r2 r4)
  have hr := Row.snoc (x := fun _ => X) r1 rfl (fun j hj => by obtain rfl : j = 0 := by omega
                                                               rfl)
  refine hr.congr fun j hj => ?_
  by_cases e : j < i * 1
  · rw [if_pos e, if_neg (show ¬ j = i by omega)]
  · rw [if_neg e, if_pos (show j = i by omega)]
end Go.Proofs.YtelanneckjgnbaaDoor
