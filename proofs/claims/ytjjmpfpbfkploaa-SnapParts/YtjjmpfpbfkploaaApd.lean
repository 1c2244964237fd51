/-
  append of a part of a row, be it nil or empty.
-/
import Derived.Test.YtjjmpfpbfkploaaMv
import Derived.Deep.Upon
import Derived.Maps.AppendAt
namespace Go.Proofs.Ytjjmpfpbfkploaa
open Go.RowKit

theorem map_two (n m s : Nat) (f F : Nat → Value) : (List.range (n * s)).map f ++ (List.range (m * s)).map F = (List.range ((n + m) * s)).map (fun j => if j < n * s then f j else F (j - n * s)) := by
  have hm : (n + m) * s = n * s + m * s := by rw [Nat.add_mul]
  apply List.ext_getElem?
  intro j
  rw [List.getElem?_map]
  by_cases h1 : j < n * s
  · rw [List.getElem?_append_left (by simpa using h1), List.getElem?_map, List.getElem?_range h1, List.getElem?_range (by omega)]
    simp [h1]
  · rw [List.getElem?_append_right (by simpa using Nat.le_of_not_lt h1), List.length_map, List.length_range, List.getElem?_map]
    by_cases h2 : j < (n + m) * s
    · rw [List.getElem?_range h2, List.getElem?_range (by omega)]
      simp [h1]
    · rw [List.getElem?_eq_none (l := List.range (m * s)) (by rw [List.length_range]; omega), List.getElem?_eq_none (l := List.range ((n + m) * s)) (by rw [List.length_range]; omega)]
      rfl

theorem run_append_nil_src {P : Program} (w : World) (t ty e : TypeId) (i : TypeInfo) (ht : P.underlying t = some (.slice e)) (hi : P.info? e = some i) (base : Option Addr) (sLen sCap : Nat) (hle : sLen ≤ sCap) :
    (Builtin.append_ #[t, t] ty #[.slice base sLen sCap, .slice none 0 0]).run P w = .ok (.slice base sLen sCap) w := by
  cases base <;> simp [Builtin.append_, run_underlying ht, sizeOf, typeInfo, hi, Builtin.lenOf, Builtin.firstCells, hle, storeCells]

theorem wpList_append_row {P : Program} {w : World} {ops : Array Oper} {rest : List Oper} {o : Oper} {a : Act} {Q : Exit → Act → World → Prop} (hgd : o.guard = none) (d x : Operand) (t : TypeId)
    (ho : o.op = .call { callee := .builtin .append, args := #[d, x], argTypes := #[t, t] })
    (e : TypeId) (i : TypeInfo) (z : Value) (size bytes : Nat) (ht : P.underlying t = some (.slice e)) (hi : P.info? e = some i) (hz : i.zero = some z)
    (hsize : i.size = size) (hby : i.bytes = bytes) (hzs : z.cells.size = size) (hsz : 0 < size)
    (v : Value) (n : Nat) (f : Nat → Value) (hs : a.eval d = v) (hown : Row w e size v n f)
    (sp : Option Addr) (m c : Nat) (F : Nat → Value) (hx : a.eval x = .slice sp m c) (hsp : sp = none → m = 0 ∧ c = 0) (hcells : ∀ ad, sp = some ad → ∀ j, j < m * size → w.cell? (ad.add j) = some (F j)) (hone : ∀ j, (F j).oneCell' = true)
    (h63 : n + m ≤ 2147483648) (hb16 : bytes ≤ 100)
    (h : ∀ v' w', Row w' e size v' (n + m) (fun j => if j < n * size then f j else F (j - n * size)) → w.grownBy w' v.ownBlock → (v'.ownBlock = v.ownBlock ∨ v'.ownBlock = some w.heap.size) → wpList P ops Q rest (a.put o.dst v') w') :
    wpList P ops Q (o :: rest) a w := by
  refine wpList_plain hgd fun K hK => ?_
  cases sp with
  | none =>
    obtain ⟨rfl, rfl⟩ := hsp rfl
    obtain ⟨ao, cc, hv, _, _⟩ := hown.form
    subst hv
    have hle : n ≤ cc := by
      rcases hown.2 with ⟨h0, h1⟩ | ⟨g', cap', cur, hv', _, _, hle, _⟩
      · omega
      · simp only [Value.slice.injEq] at hv'; omega
    have hr := run_append_nil_src (P := P) w t o.type e i ht hi ao n cc hle
    unfold Oper.wp execOp
    simp only [ho, resolve, invoke, builtin, Sem.run_bind, Sem.run_pure, Result.andThen_ok, List.map_toArray, List.map_cons, List.map_nil, hs, hx, hr]
    refine hK _ _ (h _ w (hown.congr (fun j hj => by rw [if_pos hj])) (World.grownBy.refl w _) (.inl rfl))
  | some ad =>
    obtain ⟨v', w', hr, h2, h3, _, h5⟩ := run_append_own_at (P := P) w 0 t o.type e i z size bytes ht hi hz hsize hby hzs hsz v n _ hown ad m c ((List.range (m * size)).map F) (by simp)
      (fun j u hu => by
        have hj : j < m * size := by have := (List.getElem?_eq_some_iff.1 hu).1; simpa using this
        rw [List.getElem?_map, List.getElem?_range hj] at hu
        rw [hcells ad rfl j hj]; exact hu)
      (fun u hu => by obtain ⟨j, _, rfl⟩ := List.mem_map.1 hu; exact hone j)
      (by simp only [maxLen]; omega) (by
        have : (n + m) * bytes ≤ 2147483648 * 100 := Nat.mul_le_mul h63 hb16
        omega) (Nat.zero_le _)
    unfold Oper.wp execOp
    simp only [ho, resolve, invoke, builtin, Sem.run_bind, Sem.run_pure, Result.andThen_ok, List.map_toArray, List.map_cons, List.map_nil, hs, hx, hr]
    refine hK _ _ (h v' w' ?_ h3 h5)
    unfold Row
    rw [← map_two]
    exact h2

end Go.Proofs.Ytjjmpfpbfkploaa
