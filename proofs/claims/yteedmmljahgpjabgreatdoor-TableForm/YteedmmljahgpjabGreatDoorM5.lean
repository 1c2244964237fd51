import Derived.Test.YteedmmljahgpjabGreatDoorM4
/-
  Lists of a call's own, with blocks beside them of which nothing changes; a row's spans.
-/
namespace Go.Proofs.YteedmmljahgpjabGreatDoor
open Go.RowKit
set_option linter.unusedVariables false
set_option linter.unusedSimpArgs false
theorem fold_size (n : Nat) : ∀ (l : List Value) (k : Nat) (a : Array Value), ((l.zipIdx k).foldl (fun cs (q : Value × Nat) => cs.setIfInBounds (0 * n + q.2) q.1) a).size = a.size
  | [], k, a => rfl
  | c :: l, k, a => by
    simp only [List.zipIdx_cons, List.foldl_cons]
    rw [fold_size n l (k + 1)]
    simp
theorem fold_get (n : Nat) : ∀ (l : List Value) (k : Nat) (a : Array Value) (i : Nat), i < a.size → ((l.zipIdx k).foldl (fun cs (q : Value × Nat) => cs.setIfInBounds (0 * n + q.2) q.1) a)[i]? = if k ≤ i ∧ i < k + l.length then l[i - k]? else a[i]?
  | [], k, a, i, hi => by
    rw [if_neg (by simp)]
    rfl
  | c :: l, k, a, i, hi => by
    simp only [List.zipIdx_cons, List.foldl_cons]
    rw [fold_get n l (k + 1) _ i (by simpa using hi)]
    simp only [List.length_cons, Nat.zero_mul, Nat.zero_add]
    by_cases h1 : k + 1 ≤ i ∧ i < k + 1 + l.length
    · rw [if_pos h1, if_pos (by omega), show i - k = (i - (k + 1)) + 1 by omega]
      rfl
    · rw [if_neg h1, Array.getElem?_setIfInBounds]
      by_cases h2 : k = i
      · subst h2
        rw [if_pos rfl, if_pos hi, if_pos (by omega), Nat.sub_self]
        rfl
      · rw [if_neg h2, if_neg (by omega)]
theorem fold_all (n : Nat) (cs a : Array Value) (h : a.size = cs.size) : cs.zipIdx.foldl (fun (x : Array Value) (q : Value × Nat) => x.setIfInBounds (0 * n + q.2) q.1) a = cs := by
  obtain ⟨l⟩ := cs
  simp only [List.size_toArray] at h
  have e : (Array.mk l).zipIdx.foldl (fun (x : Array Value) (q : Value × Nat) => x.setIfInBounds (0 * n + q.2) q.1) a = (l.zipIdx 0).foldl (fun (x : Array Value) (q : Value × Nat) => x.setIfInBounds (0 * n + q.2) q.1) a := by
    rw [← Array.foldl_toList]
    simp
  rw [e]
  apply Array.ext_getElem?
  intro i
  by_cases hi : i < a.size
  · rw [fold_get n l 0 a i hi, if_pos (by omega)]
    simp
  · rw [Array.getElem?_eq_none (by rw [fold_size]; omega), Array.getElem?_eq_none (by simp; omega)]
/-- A slice of one thing is built. -/
theorem wpList_slice1 {w : World} {ops : Array Oper} {rest : List Oper} {o : Oper} {a : Act} {Q : Exit → Act → World → Prop} (hgd : o.guard = none) (t e : TypeId) (x : Operand) (ho : o.op = .buildSlice t 1 #[(0, x)])
    (cs : Array Value) (hx : a.eval x = .agg cs) (n : Nat) (z : Value) (ht : Tryz.prog.underlying t = some (.slice e)) (by_ : Nat) (hi : (Tryz.prog.info? e).map (fun i => (i.zero, i.size, i.bytes)) = some (some z, n, by_)) (hz : z.cells.size = n) (hn : cs.size = n) (h0 : 0 < n) (h1 : n ≤ 1000)
    (h : wpList Tryz.prog ops Q rest (a.put o.dst (.slice (some ⟨w.heap.size, 0, none⟩) 1 1)) (w.alloc (.cells cs e))) : wpList Tryz.prog ops Q (o :: rest) a w := by
  refine wpList_plain hgd fun Kk hK => ?_
  obtain ⟨i0, hi0, hz0, hz1, hz2⟩ := info_parts hi
  have hu := run_underlying ht w
  have hf : Instr.fill (fun i => some (i * n, n)) ((Array.range (1 * n)).map (z.cells[· % z.cells.size]!)) [(0, .agg cs)] = some cs := by
    obtain ⟨A, hA⟩ : ∃ A, (Array.range (1 * n)).map (z.cells[· % z.cells.size]!) = A := ⟨_, rfl⟩
    have hAs : A.size = n := by rw [← hA]; simp
    rw [hA]
    have e3 : Instr.fill (fun i => some (i * n, n)) A [(0, .agg cs)] = if (decide (cs.size ≠ n) || decide (0 * n + cs.size > A.size)) = true then none else some (cs.zipIdx.foldl (fun (x : Array Value) (q : Value × Nat) => x.setIfInBounds (0 * n + q.2) q.1) A) := rfl
    rw [e3, if_neg (by simp; omega)]
    exact congrArg some (fold_all n cs _ (by omega))
  have hr : (Instr.buildSlice t 1 #[(0, .agg cs)]).run Tryz.prog w = .ok (.slice (some ⟨w.heap.size, 0, none⟩) 1 1) (w.alloc (.cells cs e)) := by
    have e1 : ¬ n > 16777216 := by omega
    have e2 : ¬ n = 0 := by omega
    rw [show (1 * n) = n from Nat.one_mul n] at hf
    simp [Instr.buildSlice, Sem.run_bind, hu, sizeOf, zeroValue, typeInfo, hi0, hz0, hz1, e1, e2, hf, newRow, newObj]
    rfl
  unfold Oper.wp execOp
  simp only [ho, List.map_toArray, List.map_cons, List.map_nil, hx, Sem.run_bind, hr, Result.andThen_ok]
  exact hK _ _ h
theorem owns_blk' {V V' : World} {B : Nat} {e sz : Nat} {v : Value} {n : Nat} {xs : List Value} (h : V.ownsRow B e sz v n xs) (k : ∀ g, v.ownBlock = some g → V'.heap[g]? = V.heap[g]?) : V'.ownsRow B e sz v n xs := by
  obtain ⟨h1, h2⟩ := h
  refine ⟨h1, ?_⟩
  rcases h2 with h2 | ⟨g, cap, cur, hv, q1, q2, q3⟩
  · exact .inl h2
  · exact .inr ⟨g, cap, cur, hv, q1, (k g (by rw [hv]; rfl)).trans q2, q3⟩
theorem wpList_index {w : World} {ops : Array Oper} {rest : List Oper} {o : Oper} {a : Act} {Q : Exit → Act → World → Prop} (hgd : o.guard = none) (t : TypeId) (x y : Operand) (ho : o.op = .index t x y) (v u r : Value) (hx : a.eval x = v) (hy : a.eval y = u) (hr : ∀ w, Sem.run Tryz.prog (Instr.index t v u) w = .ok r w)
    (h : wpList Tryz.prog ops Q rest (a.put o.dst r) w) : wpList Tryz.prog ops Q (o :: rest) a w := by
  refine wpList_plain hgd fun Kk hK => ?_
  unfold Oper.wp execOp
  simp only [ho, hx, hy, Sem.run_bind, hr, Result.andThen_ok]
  exact hK _ _ h
/-- A list of the call's own, and boxes beside it. -/
structure OwnK (w V : World) (bs : List (Nat × Nat × Array Value)) (e sz : Nat) (v : Value) (vs : List (Array Value)) : Prop where
  R : V.ownsRow w.heap.size e sz v vs.length (vs.map Array.toList).flatten
  Z : ∀ x ∈ vs, x.size = sz
  B : Below w.heap.size w V
  K : ∀ p ∈ bs, V.heap[p.1]? = some (.cells p.2.2 p.2.1 (0, 0)) ∧ w.heap.size ≤ p.1 ∧ v.ownBlock ≠ some p.1
theorem OwnK.lt {w V : World} {bs : List (Nat × Nat × Array Value)} {e sz : Nat} {v : Value} {vs : List (Array Value)} (h : OwnK w V bs e sz v vs) : ∀ g, v.ownBlock = some g → w.heap.size ≤ g ∧ g < V.heap.size := fun g hg => World.ownsRow.lt h.R g hg
theorem OwnK.on {w V V' : World} {bs : List (Nat × Nat × Array Value)} {e sz : Nat} {v : Value} {vs : List (Array Value)} (h : OwnK w V bs e sz v vs) (k : Below V.heap.size V V') : OwnK w V' bs e sz v vs :=
  ⟨owns_blk' h.R fun g hg => k.block g (h.lt g hg).2, h.Z, below2 h.B k, fun p hp => by
    obtain ⟨h1, h2, h3⟩ := h.K p hp
    exact ⟨(k.block _ (Array.getElem?_eq_some_iff.1 h1).1).trans h1, h2, h3⟩⟩
theorem OwnK.drew {w V : World} {bs : List (Nat × Nat × Array Value)} {e sz : Nat} {v : Value} {vs : List (Array Value)} (h : OwnK w V bs e sz v vs) (n : Nat) : OwnK w (V.drewN n) bs e sz v vs := h.on ⟨rfl, rfl, rfl, Nat.le_refl _, fun _ _ => rfl⟩
theorem OwnK.nil {w V : World} (h : Below w.heap.size w V) (e sz : Nat) : OwnK w V [] e sz (.slice none 0 0) [] := ⟨⟨by simp, .inl ⟨rfl, rfl⟩⟩, by simp, h, by simp⟩
theorem OwnK.add {w V : World} {bs : List (Nat × Nat × Array Value)} {e sz : Nat} {v : Value} {vs : List (Array Value)} (h : OwnK w V bs e sz v vs) (b t : Nat) (cs : Array Value) (h1 : V.heap[b]? = some (.cells cs t (0, 0))) (h2 : w.heap.size ≤ b) (h3 : v.ownBlock ≠ some b) : OwnK w V ((b, t, cs) :: bs) e sz v vs :=
  ⟨h.R, h.Z, h.B, fun p hp => by
    rcases List.mem_cons.1 hp with rfl | hp
    · exact ⟨h1, h2, h3⟩
    · exact h.K p hp⟩
theorem OwnK.less {w V : World} {bs : List (Nat × Nat × Array Value)} {q : Nat × Nat × Array Value} {e sz : Nat} {v : Value} {vs : List (Array Value)} (h : OwnK w V (q :: bs) e sz v vs) : OwnK w V bs e sz v vs := ⟨h.R, h.Z, h.B, fun p hp => h.K p (List.mem_cons_of_mem _ hp)⟩
theorem OwnK.box {w V : World} {bs : List (Nat × Nat × Array Value)} {q : Nat × Nat × Array Value} {e sz : Nat} {v : Value} {vs : List (Array Value)} (h : OwnK w V (q :: bs) e sz v vs) : V.heap[q.1]? = some (.cells q.2.2 q.2.1 (0, 0)) := (h.K q (List.mem_cons_self ..)).1
theorem flat_at {sz : Nat} : ∀ (vs : List (Array Value)), (∀ x ∈ vs, x.size = sz) → ∀ i (hi : i < vs.length) j, j < sz → (vs.map Array.toList).flatten[i * sz + j]? = vs[i][j]?
  | [], _, i, hi, _, _ => by simp at hi
  | x :: vs, hz, i, hi, j, hj => by
    have hx := hz x (List.mem_cons_self ..)
    simp only [List.map_cons, List.flatten_cons]
    cases i with
    | zero => rw [List.getElem?_append_left (by simp; omega)]; simp
    | succ i =>
      rw [List.getElem?_append_right (by simp [hx]; rw [Nat.add_mul]; omega)]
      have := flat_at vs (fun y hy => hz y (List.mem_cons_of_mem _ hy)) i (by simpa using hi) j hj
      have e : (i + 1) * sz + j - x.toList.length = i * sz + j := by simp [hx]; rw [Nat.add_mul]; omega
      rw [e, this]
      simp
theorem flat_len {sz : Nat} : ∀ (us : List (Array Value)), (∀ x ∈ us, x.size = sz) → (us.map Array.toList).flatten.length = us.length * sz
  | [], _ => by simp
  | y :: us, h => by
    simp only [List.map_cons, List.flatten_cons, List.length_append, List.length_cons]
    rw [flat_len us (fun x hx => h x (List.mem_cons_of_mem _ hx))]
    have := h y (List.mem_cons_self ..)
    simp [this, Nat.add_mul]; omega
theorem OwnK.sl {w V : World} {bs : List (Nat × Nat × Array Value)} {e sz : Nat} {v : Value} {vs : List (Array Value)} (h : OwnK w V bs e sz v vs) : ∃ a c, v = .slice a vs.length c ∧ SlAt V sz a c vs := by
  rcases h.R.2 with ⟨h1, h2⟩ | ⟨g, cap, cur, h1, h2, h3, h4, h5, h6, h7⟩
  · refine ⟨none, 0, by rw [h1, h2], by omega, by omega, fun i hi => by omega⟩
  · refine ⟨_, cap, h1, h4, by unfold maxLen at h5; omega, fun i hi => ⟨g, 0, rfl, fun j hj => ?_⟩⟩
    rw [cell_of h3, Nat.zero_add]
    have hlt : i * sz + j < vs.length * sz := by
      have := Nat.mul_le_mul_right sz hi
      rw [Nat.succ_mul] at this
      omega
    have h8 : (cur.toList.take (vs.length * sz))[i * sz + j]? = cur[i * sz + j]? := by rw [List.getElem?_take_of_lt hlt]; simp
    rw [← h8, h7, flat_at vs h.Z i hi j hj]
/-- One thing more, which lies in a block made just now. -/
theorem app_one {w V : World} {bs : List (Nat × Nat × Array Value)} {e sz : Nat} {v : Value} {vs : List (Array Value)} (hL : OwnK w V bs e sz v vs) (t : TypeId) (cs : Array Value) (hcs : cs.size = sz) (h1 : cs.all (·.oneCell') = true)
    (z : Value) (by_ : Nat) (ht : Tryz.prog.underlying t = some (.slice e)) (hi : (Tryz.prog.info? e).map (fun i => (i.zero, i.size, i.bytes)) = some (some z, sz, by_)) (hz : z.cells.size = sz) (h0 : 0 < sz) (hn : vs.length ≤ 1000000) (hby : by_ ≤ 1000)
    {ops : Array Oper} {rest : List Oper} {o : Oper} {a : Act} {Q : Exit → Act → World → Prop} (hgd : o.guard = none) (d x : Operand)
    (ho : o.op = .call { callee := .builtin .append, args := #[d, x], argTypes := #[t, t] }) (hs : a.eval d = v) (hx : a.eval x = .slice (some ⟨V.heap.size, 0, none⟩) 1 1)
    (h : ∀ g cap w', OwnK w w' bs e sz (.slice (some ⟨g, 0, none⟩) (vs.length + 1) cap) (vs ++ [cs]) → wpList Tryz.prog ops Q rest (a.put o.dst (.slice (some ⟨g, 0, none⟩) (vs.length + 1) cap)) w') :
    wpList Tryz.prog ops Q (o :: rest) a (V.alloc (.cells cs e)) := by
  obtain ⟨i0, hi0, hz0, hz1, hz2⟩ := info_parts hi
  have hsz := size_alloc V (.cells cs e)
  have hA : OwnK w (V.alloc (.cells cs e)) bs e sz v vs := hL.on (below_new _ _)
  have hwV := hL.B.size
  have hby2 : (vs.length + 1) * by_ ≤ 140737488355328 := by
    have : (vs.length + 1) * by_ ≤ 1000001 * 1000 := Nat.mul_le_mul (by omega) hby
    omega
  refine wpList_append_lies _ hgd d x t ho w.heap.size e i0 z sz by_ ht hi0 hz0 hz1 hz2 hz h0 v vs.length _ hs hA.R ⟨V.heap.size, 0, none⟩ 1 1 cs.toList hx (by simp; exact hcs) (World.news_of_block (heap_new V _)) (fun u hu => (Array.all_eq_true_iff_forall_mem.1 h1) u (by simpa using hu)) (by decide) (by unfold maxLen; omega) hby2 (by omega) _ rfl ?_
  intro g cap w' h2 h3 h4 h5
  refine h g cap w' ⟨?_, ?_, ?_, ?_⟩
  · rw [List.length_append, List.length_singleton, List.map_append, List.flatten_append]
    simpa using h2
  · intro y hy
    rcases List.mem_append.1 hy with hy | hy
    · exact hL.Z y hy
    · rw [List.mem_singleton.1 hy]; exact hcs
  · exact hA.B.grown h3 (by omega) fun k hk => (hA.lt k hk).1
  · intro p hp
    obtain ⟨q1, q2, q3⟩ := hA.K p hp
    have hl := (Array.getElem?_eq_some_iff.1 q1).1
    refine ⟨(h3.block _ hl (fun e => q3 e.symm)).trans q1, q2, fun e => ?_⟩
    have hg : g = p.1 := by simpa [Value.ownBlock] using e
    rcases h4 with h4 | h4
    · exact q3 (by rw [h4, hg])
    · omega
/-- Many things more, which lie anywhere. -/
theorem app_many {w V : World} {bs : List (Nat × Nat × Array Value)} {e sz : Nat} {v : Value} {vs : List (Array Value)} (hL : OwnK w V bs e sz v vs) (t : TypeId) (us : List (Array Value)) (hus : ∀ x ∈ us, x.size = sz ∧ x.all (·.oneCell') = true) (ua : Option Addr) (uc : Nat) (hU : SlAt V sz ua uc us) (hnil : us = [] → ua = none ∧ uc = 0)
    (z : Value) (by_ : Nat) (ht : Tryz.prog.underlying t = some (.slice e)) (hi : (Tryz.prog.info? e).map (fun i => (i.zero, i.size, i.bytes)) = some (some z, sz, by_)) (hz : z.cells.size = sz) (h0 : 0 < sz) (hn : vs.length + us.length ≤ 1000000) (hby : by_ ≤ 1000)
    {ops : Array Oper} {rest : List Oper} {o : Oper} {a : Act} {Q : Exit → Act → World → Prop} (hgd : o.guard = none) (d x : Operand)
    (ho : o.op = .call { callee := .builtin .append, args := #[d, x], argTypes := #[t, t] }) (hs : a.eval d = v) (hx : a.eval x = .slice ua us.length uc)
    (h : ∀ v' w', OwnK w w' bs e sz v' (vs ++ us) → wpList Tryz.prog ops Q rest (a.put o.dst v') w') :
    wpList Tryz.prog ops Q (o :: rest) a V := by
  obtain ⟨i0, hi0, hz0, hz1, hz2⟩ := info_parts hi
  have hwV := hL.B.size
  by_cases he : us = []
  · obtain ⟨rfl, rfl⟩ := hnil he
    subst he
    refine wpList_append_own_none hgd d x t ho w.heap.size e i0 sz ht hi0 v vs.length _ hs hL.R (by simpa using hx) (h v V (by rw [List.append_nil]; exact hL))
  · have hpos : 0 < us.length := List.length_pos_iff.2 he
    obtain ⟨ub, uo, rfl, _⟩ := hU.2.2 0 hpos
    have hby2 : (vs.length + us.length) * by_ ≤ 140737488355328 := by
      have : (vs.length + us.length) * by_ ≤ 1000000 * 1000 := Nat.mul_le_mul hn hby
      omega
    have hlen := flat_len us fun x hx => (hus x hx).1
    refine wpList_append_lies _ hgd d x t ho w.heap.size e i0 z sz by_ ht hi0 hz0 hz1 hz2 hz h0 v vs.length _ hs hL.R ⟨ub, uo, none⟩ us.length uc (us.map Array.toList).flatten hx hlen ?_ ?_ hpos (by unfold maxLen; omega) hby2 (by omega) _ rfl ?_
    · intro j u hu
      have hj : j < us.length * sz := by rw [← hlen]; exact (List.getElem?_eq_some_iff.1 hu).1
      have hd : j / sz < us.length := Nat.div_lt_of_lt_mul (by rw [Nat.mul_comm]; exact hj)
      obtain ⟨b', o', e', hc⟩ := hU.2.2 (j / sz) hd
      obtain ⟨rfl, rfl⟩ : ub = b' ∧ uo = o' := by simpa using e'
      have hm := Nat.mod_lt j h0
      have hc' := hc (j % sz) hm
      have hjj : j / sz * sz + j % sz = j := by rw [Nat.mul_comm]; exact Nat.div_add_mod j sz
      rw [Addr.add_mid]
      rw [Nat.add_assoc, hjj] at hc'
      rw [hc', ← flat_at us (fun x hx => (hus x hx).1) (j / sz) hd (j % sz) hm, hjj]
      exact hu
    · intro u hu
      obtain ⟨l, hl, hul⟩ := List.mem_flatten.1 hu
      obtain ⟨y, hy, rfl⟩ := List.mem_map.1 hl
      exact (Array.all_eq_true_iff_forall_mem.1 (hus y hy).2) u (by simpa using hul)
    · intro g cap w' h2 h3 h4 h5
      refine h _ w' ⟨?_, ?_, ?_, ?_⟩
      · rw [List.length_append, List.map_append, List.flatten_append]
        exact h2
      · intro y hy
        rcases List.mem_append.1 hy with hy | hy
        · exact hL.Z y hy
        · exact (hus y hy).1
      · exact hL.B.grown h3 (by omega) fun k hk => (hL.lt k hk).1
      · intro p hp
        obtain ⟨q1, q2, q3⟩ := hL.K p hp
        have hl := (Array.getElem?_eq_some_iff.1 q1).1
        refine ⟨(h3.block _ hl (fun e => q3 e.symm)).trans q1, q2, fun e => ?_⟩
        have hg : g = p.1 := by simpa [Value.ownBlock] using e
        rcases h4 with h4 | h4
        · exact q3 (by rw [h4, hg])
        · omega
theorem inf65 : (Tryz.prog.info? 46).map (fun i => (i.zero, i.size, i.bytes)) = some (some (.agg #[.int .i64 0, .int .i64 0]), 2, 16) := by kernel_rfl
end Go.Proofs.YteedmmljahgpjabGreatDoor

/-
  The spans of a row.
-/
namespace Go.Proofs.YteedmmljahgpjabGreatDoor
open Go.RowKit
set_option linter.unusedVariables false
set_option linter.unusedSimpArgs false
theorem OwnK.sl2 {w V : World} {bs : List (Nat × Nat × Array Value)} {e sz : Nat} {v : Value} {vs : List (Array Value)} (h : OwnK w V bs e sz v vs) : ∃ a c, v = .slice a vs.length c ∧ SlAt V sz a c vs ∧ ∀ b o, a = some ⟨b, o, none⟩ → w.heap.size ≤ b ∧ b < V.heap.size := by
  obtain ⟨a, c, h1, h2⟩ := h.sl
  refine ⟨a, c, h1, h2, fun b o e => h.lt b ?_⟩
  rw [h1, e]; rfl
theorem OwnK.blk' {w V : World} {bs : List (Nat × Nat × Array Value)} {e sz : Nat} {v : Value} {vs : List (Array Value)} (h : OwnK w V bs e sz v vs) {g : Nat} (hg : v.ownBlock = some g) : ∃ cur, V.heap[g]? = some (.cells cur e (0, 0)) := by
  rcases h.R.2 with ⟨h1, h2⟩ | ⟨g', cap, cur, h1, h2, h3, h4⟩
  · rw [h1] at hg; cases hg
  · rw [h1] at hg
    have : g' = g := by simpa [Value.ownBlock] using hg
    subst this
    exact ⟨cur, h3⟩
def prts (p : P4) : List Bool := [p.a, p.b, p.c, p.d]
def spL (r : RowM) : List Sp := [r.sd, r.qt, r.pr, r.vl]
def hasI (r : RowM) (i : Nat) : List Sp := (((prts (partsN r.k r.o)).zip (spL r)).take i).filterMap (fun q => if q.1 then some q.2 else none)
def hasL (r : RowM) : List Sp := hasI r 4
def Z2 : Array Value := #[.int .i64 0, .int .i64 0]
theorem spV_ix (r : RowM) (i : Nat) (hi : i < 4) (w : World) : Sem.run Tryz.prog (Instr.index 152 (.agg (spV r)) (.int .i64 i)) w = .ok (.agg (((spL r).getD i ⟨0, 0⟩).vals)) w := by
  obtain rfl | rfl | rfl | rfl : i = 0 ∨ i = 1 ∨ i = 2 ∨ i = 3 := by omega
  · kernel_rfl
  · kernel_rfl
  · kernel_rfl
  · kernel_rfl
theorem p4_cell {w : World} {b : Nat} {p : P4} (h : w.heap[b]? = some (.cells p.vals 149 (0, 0))) (i : Nat) (hi : i < 4) : w.cell? ⟨b, i, none⟩ = some (.bool ((prts p).getD i false)) := by
  match i, hi with
  | 0, _ => exact cell_of h 0
  | 1, _ => exact cell_of h 1
  | 2, _ => exact cell_of h 2
  | 3, _ => exact cell_of h 3
theorem hasI_s (r : RowM) (i : Nat) (hi : i < 4) : hasI r (i + 1) = hasI r i ++ (if (prts (partsN r.k r.o)).getD i false then [(spL r).getD i ⟨0, 0⟩] else []) := by
  obtain ⟨p, ep⟩ : ∃ p, partsN r.k r.o = p := ⟨_, rfl⟩
  unfold hasI
  rw [ep]
  match i, hi with
  | 0, _ => cases h : p.a <;> simp [prts, spL, h]
  | 1, _ => cases h : p.a <;> cases h2 : p.b <;> simp [prts, spL, h, h2]
  | 2, _ => cases h : p.a <;> cases h2 : p.b <;> cases h3 : p.c <;> simp [prts, spL, h, h2, h3]
  | 3, _ => cases h : p.a <;> cases h2 : p.b <;> cases h3 : p.c <;> cases h4 : p.d <;> simp [prts, spL, h, h2, h3, h4]
theorem hasI_le (r : RowM) : ∀ i, i ≤ 4 → (hasI r i).length ≤ i := by
  intro i hi
  unfold hasI
  refine Nat.le_trans (List.length_filterMap_le _ _) ?_
  rw [List.length_take]; omega
set_option maxRecDepth 100000 in
set_option maxHeartbeats 4000000 in
theorem has_any (r : RowM) (w : World) : Calls Tryz.prog 64 #[.agg r.vals] w fun e w' => ∃ a c, e = .returned (.slice a (hasL r).length c) ∧ SlAt w' 2 a c ((hasL r).map Sp.vals) ∧ (hasL r = [] → a = none ∧ c = 0) ∧ (∀ b o, a = some ⟨b, o, none⟩ → w.heap.size ≤ b ∧ ∃ cur, w'.heap[b]? = some (.cells cur 46 (0, 0))) ∧ Below w.heap.size w w' := by
  have hb1 := below_new w (.cells r.vals 66)
  have hn1 := heap_new w (.cells r.vals 66)
  obtain ⟨W1, e1⟩ : ∃ W, w.alloc (.cells r.vals 66) = W := ⟨_, rfl⟩
  have E1 : Hid (w.alloc (.cells r.vals 66) = W1) := e1
  rw [e1] at hb1 hn1
  have HB1 : Hid (Below w.heap.size w W1) := hb1
  have c0 : W1.cell? ⟨w.heap.size, 0, none⟩ = some (.int .u8 r.k) := cell_of hn1 0
  have c1 : W1.cell? ⟨w.heap.size, 1, none⟩ = some (.int .u8 r.o) := cell_of hn1 1
  have HN1 : Hid (W1.heap[w.heap.size]? = some (.cells r.vals 66 (0, 0))) := hn1
  have HS1 : Hid (W1.heap.size = w.heap.size + 1) := by show _ = _; rw [← e1]; exact size_alloc _ _
  have cP := partsOf_any r.k r.o W1
  have hI := hasI_s r
  clear hb1 e1 hn1

  obtain ⟨p, ep⟩ : ∃ p, partsN r.k r.o = p := ⟨_, rfl⟩
  rw [ep] at cP hI
  have HI : Hid (∀ i (hi : i < 4), hasI r (i + 1) = hasI r i ++ (if (prts p).getD i false then [(spL r).getD i ⟨0, 0⟩] else [])) := hI
  clear hI ep
  go_enter Tryz.func64, Tryz.ntmps64
  go_upto_region 1 with fail
  rw [E1.out]
  clear E1
  go_wp2_with fail
  refine cP.mono ?_
  rintro e w2 ⟨rfl, hb2⟩
  have HZ : Hid ((w2.alloc (.cells #[.bool false, .bool false, .bool false, .bool false] 149)).heap[w2.heap.size]? = some (.cells #[.bool false, .bool false, .bool false, .bool false] 149 (0, 0))) := heap_new _ _
  have hbx : Below w2.heap.size w2 ((w2.alloc (.cells #[.bool false, .bool false, .bool false, .bool false] 149)).setRow w2.heap.size p.vals) := below_row (below_new _ _) (Nat.le_refl _) _
  have hnx : ((w2.alloc (.cells #[.bool false, .bool false, .bool false, .bool false] 149)).setRow w2.heap.size p.vals).heap[w2.heap.size]? = some (.cells p.vals 149 (0, 0)) := setRow_heap _ _ _ _ _ _ HZ.out
  have hsz : w.heap.size ≤ w2.heap.size := by have := hb2.size; rw [HS1.out] at this; omega
  have hlt : w.heap.size < w2.heap.size := by have := hb2.size; rw [HS1.out] at this; omega
  have HN2 : Hid (((w2.alloc (.cells #[.bool false, .bool false, .bool false, .bool false] 149)).setRow w2.heap.size p.vals).heap[w.heap.size]? = some (.cells r.vals 66 (0, 0))) := (hbx.block _ hlt).trans ((hb2.block _ (by rw [HS1.out]; omega)).trans HN1.out)
  have hO := ((OwnK.nil (below2 (below2 HB1.out hb2) hbx) 46 2).add _ _ _ hnx hsz (by simp [Value.ownBlock]))
  obtain ⟨b4, e4⟩ : ∃ b, w2.heap.size = b := ⟨_, rfl⟩
  have HO : Hid (OwnK w ((w2.alloc (.cells #[.bool false, .bool false, .bool false, .bool false] 149)).setRow w2.heap.size p.vals) [(b4, 149, p.vals)] 46 2 (.slice none 0 0) []) := by rw [← e4]; exact hO
  have H4 : Hid (w2.heap.size = b4) := e4
  clear hbx hnx hsz hlt hO hb2 cP c0 c1 HN1 HS1 HB1 e4
  go_upto_region 3 with (refine wpList_store_row rfl 149 (.tmp 4) (.tmp 11) rfl w2.heap.size p.vals rfl rfl 149 #[.bool false, .bool false, .bool false, .bool false] HZ.out size216' rfl (all4 _) ?_)
  rw [H4.out] at HO HN2 ⊢
  generalize World.setRow _ _ _ = W3 at HO HN2 ⊢
  clear HZ H4
  have cS := spansOf_any r W3
  go_wp2_with (refine wpList_load_row rfl 66 (.tmp 1) rfl w.heap.size rfl 66 r.vals (0, 0) _ HN2.out Tryz.underlying66 rfl size85' ?_)
  refine cS.mono ?_
  rintro e w5 ⟨rfl, hb5⟩
  have HO5 : Hid (OwnK w w5 [(b4, 149, p.vals)] 46 2 (.slice none 0 0) []) := HO.out.on hb5
  clear cS hb5 HO HN2
  go_wp2_with fail
  go_loopw [3, 14] (fun fv t wr => ∃ (v : Value) (i : Nat), i ≤ 4 ∧ fv = v ∧ t = .int .i64 i ∧ Hid (OwnK w wr [(b4, 149, p.vals)] 46 2 v ((hasI r i).map Sp.vals)) ∧ Hid (hasI r i = [] → v = .slice none 0 0)) (fun _ t _ => 4 - (intOf t).toNat)
  case atStart => exact ⟨_, 0, by omega, rfl, rfl, HO5, fun _ => rfl⟩
  case round =>
    obtain ⟨v, i, hi, rfl, rfl, HOR, HNR⟩ := hrel
    by_cases hlt : i < 4
    · have hlt' : (i : Int) < 4 := by omega
      have hmx : (i : Int) + 1 ≤ 9223372036854775807 := by omega
      have HIX : Hid (∀ w, Sem.run Tryz.prog (Instr.index 152 (.agg (spV r)) (.int .i64 i)) w = .ok (.agg (((spL r).getD i ⟨0, 0⟩).vals)) w) := spV_ix r i hlt
      have HII : Hid (hasI r (i + 1) = hasI r i ++ (if (prts p).getD i false then [(spL r).getD i ⟨0, 0⟩] else [])) := HI.out i hlt
      have HLE : Hid ((hasI r i).length ≤ i) := hasI_le r i hi
      obtain ⟨d, ed⟩ : ∃ d, (spL r).getD i ⟨0, 0⟩ = d := ⟨_, rfl⟩
      rw [ed] at HIX HII
      have HZ : Hid ((wr.alloc (.cells #[.int .i64 0, .int .i64 0] 46)).heap[wr.heap.size]? = some (.cells #[.int .i64 0, .int .i64 0] 46 (0, 0))) := heap_new _ _
      have HWX : Hid (Below wr.heap.size wr ((wr.alloc (.cells #[.int .i64 0, .int .i64 0] 46)).setRow wr.heap.size d.vals)) := below_row (below_new _ _) (Nat.le_refl _) _
      have HNX : Hid (((wr.alloc (.cells #[.int .i64 0, .int .i64 0] 46)).setRow wr.heap.size d.vals).heap[wr.heap.size]? = some (.cells d.vals 46 (0, 0))) := setRow_heap _ _ _ _ _ _ HZ.out
      clear ed
      go_upto_region 6 with (first | (refine wpList_index rfl 152 (.tmp 13) (.tmp 14) rfl _ (.int .i64 i) _ rfl rfl HIX.out ?_) | (refine wpList_store_row rfl 46 (.tmp 6) (.tmp 17) rfl wr.heap.size d.vals rfl rfl 46 #[.int .i64 0, .int .i64 0] HZ.out size65' rfl (allSp d) ?_))
      have HOX : Hid (OwnK w ((wr.alloc (.cells #[.int .i64 0, .int .i64 0] 46)).setRow wr.heap.size d.vals) [(b4, 149, p.vals)] 46 2 _ ((hasI r i).map Sp.vals)) := HOR.out.on HWX.out
      generalize World.setRow _ _ _ = WX at HOX HNX HWX ⊢
      clear HZ HOR HWX HIX
      have cb := p4_cell HOX.out.box i hlt
      cases hp : (prts p).getD i false with
      | true =>
        rw [hp] at cb HII
        have HIJ : Hid (hasI r (i + 1) = hasI r i ++ [d]) := by rw [HII.out]; rfl
        clear HII
        go_wp2_with (first | (refine wpList_load_row rfl 46 (.tmp 6) rfl wr.heap.size rfl 46 d.vals (0, 0) _ HNX.out Tryz.underlying46 rfl size65' ?_) | (refine wpList_slice1 rfl 89 46 (.tmp 22) rfl d.vals rfl 2 _ Tryz.underlying89 16 inf65 rfl rfl (by decide) (by decide) ?_) | (refine app_one HOX.out 89 d.vals rfl (allSp d) _ 16 Tryz.underlying89 inf65 rfl (by decide) (by rw [List.length_map]; have := HLE.out; omega) (by decide) rfl (.tmp 21) (.tmp 23) rfl rfl rfl ?_; intro g cap w8 HO8))
        exact ⟨⟨_, i + 1, hlt, rfl, rfl, by show OwnK _ _ _ _ _ _ _; rw [HIJ.out, List.map_append]; simpa using HO8, fun e => by rw [HIJ.out] at e; simp at e⟩, by simp only [intOf]; omega⟩
      | false =>
        rw [hp] at cb HII
        have HIJ : Hid (hasI r (i + 1) = hasI r i) := by show _ = _; rw [HII.out]; simp
        clear HII
        go_wp2_with fail
        exact ⟨⟨_, i + 1, hlt, rfl, rfl, by rw [HIJ.out]; exact HOX, by rw [HIJ.out]; exact HNR⟩, by simp only [intOf]; omega⟩
    · obtain rfl : i = 4 := by omega
      have hnot : ¬ ((4 : Nat) : Int) < 4 := by omega
      go_wp2_with fail
      go_ret
      obtain ⟨a, c, h1, h2, h3⟩ := HOR.out.sl2
      refine ⟨a, c, by rw [h1, List.length_map]; rfl, h2, fun e => ?_, fun b o e => ⟨(h3 b o e).1, (HOR.out.blk' (by rw [h1, e]; rfl))⟩, HOR.out.B⟩
      have := HNR.out e
      rw [h1] at this
      simp at this
      exact ⟨this.1, this.2.2⟩
end Go.Proofs.YteedmmljahgpjabGreatDoor

/-
  Is a row one that may be; are a guard's rows?
-/
namespace Go.Proofs.YteedmmljahgpjabGreatDoor
open Go.RowKit
set_option linter.unusedVariables false
set_option linter.unusedSimpArgs false
def noneB (x : Sp) : Bool := x.f == 0 && x.t == 0
def partB (b : Bool) (x : Sp) : Bool := b || noneB x
def rowPB (r : RowM) (i : Nat) : Bool := ((((prts (partsN r.k r.o)).zip (spL r)).take i)).all (fun q => partB q.1 q.2)
def rowB (sl : Int) (nr ns : Nat) (r : RowM) : Bool := orderB r && withinB (idxN sl nr ns r.k).1 r.i (idxN sl nr ns r.k).2 && rowPB r 4
theorem rowPB_s (r : RowM) (i : Nat) (hi : i < 4) : rowPB r (i + 1) = (rowPB r i && partB ((prts (partsN r.k r.o)).getD i false) ((spL r).getD i ⟨0, 0⟩)) := by
  unfold rowPB
  obtain rfl | rfl | rfl | rfl : i = 0 ∨ i = 1 ∨ i = 2 ∨ i = 3 := by omega
  · simp [prts, spL]
  · simp [prts, spL]
  · simp [prts, spL, Bool.and_assoc]
  · simp [prts, spL, Bool.and_assoc]
theorem rowPB_f (r : RowM) (i : Nat) (hi : i < 4) (h : partB ((prts (partsN r.k r.o)).getD i false) ((spL r).getD i ⟨0, 0⟩) = false) : rowPB r 4 = false := by
  have h0 := rowPB_s r 0 (by omega)
  have h1 := rowPB_s r 1 (by omega)
  have h2 := rowPB_s r 2 (by omega)
  have h3 := rowPB_s r 3 (by omega)
  obtain rfl | rfl | rfl | rfl : i = 0 ∨ i = 1 ∨ i = 2 ∨ i = 3 := by omega
  all_goals simp_all
set_option maxRecDepth 100000 in
set_option maxHeartbeats 4000000 in
theorem rowFits_any (t : TbM) (r : RowM) (w : World) (hl : TbL w t) : Calls Tryz.prog 67 #[.agg t.vals, .agg r.vals] w fun e w' => e = .returned (.bool (rowB t.sl t.rs.length t.ts.length r)) ∧ Below w.heap.size w w' := by
  have hb1 := below_new w (.cells t.vals 27)
  have hn1 := heap_new w (.cells t.vals 27)
  have hs1 := size_alloc w (.cells t.vals 27)
  obtain ⟨W1, e1⟩ : ∃ W, w.alloc (.cells t.vals 27) = W := ⟨_, rfl⟩
  have E1 : Hid (w.alloc (.cells t.vals 27) = W1) := e1
  rw [e1] at hb1 hn1 hs1
  have hb2 := below_new W1 (.cells r.vals 66)
  have hn2 := heap_new W1 (.cells r.vals 66)
  obtain ⟨W2, e2⟩ : ∃ W, W1.alloc (.cells r.vals 66) = W := ⟨_, rfl⟩
  have E2 : Hid (W1.alloc (.cells r.vals 66) = W2) := e2
  rw [e2] at hb2 hn2
  rw [hs1] at hn2
  have hk : W2.heap[w.heap.size]? = some (.cells t.vals 27 (0, 0)) := (hb2.block _ (by omega)).trans hn1
  have HT2 : Hid (W2.heap[w.heap.size]? = some (.cells t.vals 27 (0, 0))) := hk
  have HB2 : Hid (Below w.heap.size w W2) := below2 hb1 hb2
  obtain ⟨g3, e3⟩ : ∃ g, w.heap.size + 1 = g := ⟨_, rfl⟩
  rw [e3] at hn2
  have HN2 : Hid (W2.heap[g3]? = some (.cells r.vals 66 (0, 0))) := hn2
  have HG3 : Hid (w.heap.size + 1 = g3) := e3
  have c0 : W2.cell? ⟨g3, 0, none⟩ = some (.int .u8 r.k) := cell_of hn2 0
  have cI := indexes_any t r.k W2 (hl.on HB2.out)
  obtain ⟨LO, eLO⟩ : ∃ q, (idxN t.sl t.rs.length t.ts.length r.k).1 = q := ⟨_, rfl⟩
  obtain ⟨HI, eHI⟩ : ∃ q, (idxN t.sl t.rs.length t.ts.length r.k).2 = q := ⟨_, rfl⟩
  obtain ⟨ANS, eA⟩ : ∃ q, rowB t.sl t.rs.length t.ts.length r = q := ⟨_, rfl⟩
  have HA : Hid (ANS = (orderB r && withinB LO r.i HI && rowPB r 4)) := by show _ = _; rw [← eA, ← eLO, ← eHI]; rfl
  rw [eLO, eHI] at cI
  rw [eA]
  clear hb1 hn1 hs1 e1 hb2 hn2 e2 hk e3 hl eLO eHI eA
  go_enter Tryz.func67, Tryz.ntmps67
  go_upto_region 1 with fail
  rw [E1.out, E2.out, HG3.out]
  clear E1 E2
  go_wp2_with (refine wpList_load_row rfl 27 (.tmp 2) rfl w.heap.size rfl 27 t.vals (0, 0) _ HT2.out Tryz.underlying27 rfl size26' ?_)
  refine cI.mono ?_
  rintro e w3 ⟨rfl, hb3⟩
  have HB3 : Hid (Below w.heap.size w w3) := below2 HB2.out hb3
  have HN3 : Hid (w3.heap[g3]? = some (.cells r.vals 66 (0, 0))) := (hb3.block _ (Array.getElem?_eq_some_iff.1 HN2.out).1).trans HN2.out
  have cO := orderFits_any r w3
  clear cI hb3 HB2 HN2 HT2 c0
  go_wp2_with (refine wpList_load_row rfl 66 (.tmp 3) rfl g3 rfl 66 r.vals (0, 0) _ HN3.out Tryz.underlying66 rfl size85' ?_)
  refine cO.mono ?_
  rintro e w4 ⟨rfl, hb4⟩
  have HB4 : Hid (Below w.heap.size w w4) := below2 HB3.out hb4
  have HN4 : Hid (w4.heap[g3]? = some (.cells r.vals 66 (0, 0))) := (hb4.block _ (Array.getElem?_eq_some_iff.1 HN3.out).1).trans HN3.out
  have d0 : w4.cell? ⟨g3, 0, none⟩ = some (.int .u8 r.k) := cell_of HN4.out 0
  have d1 : w4.cell? ⟨g3, 1, none⟩ = some (.int .u8 r.o) := cell_of HN4.out 1
  have d2 : w4.cell? ⟨g3, 2, none⟩ = some (.int .i64 r.i) := cell_of HN4.out 2
  clear cO hb4 HB3 HN3
  cases ho : orderB r with
  | false =>
    have HF : Hid (ANS = false) := by show _ = _; rw [HA.out, ho]; rfl
    go_wp2_with fail
    go_ret
    exact ⟨by rw [HF.out]; rfl, HB4.out⟩
  | true =>
    have cW := within_any LO r.i HI w4
    cases hw : withinB LO r.i HI with
    | false =>
      rw [hw] at cW
      have HF : Hid (ANS = false) := by show _ = _; rw [HA.out, ho, hw]; rfl
      go_wp2_with fail
      refine cW.mono ?_
      rintro e w5 ⟨rfl, rfl⟩
      go_wp2_with fail
      go_ret
      exact ⟨by rw [HF.out]; rfl, HB4.out⟩
    | true =>
      rw [hw] at cW
      have HF : Hid (ANS = rowPB r 4) := by show _ = _; rw [HA.out, ho, hw]; rfl
      have cP := partsOf_any r.k r.o w4
      have hI := rowPB_s r
      have hf := rowPB_f r
      obtain ⟨p, ep⟩ : ∃ p, partsN r.k r.o = p := ⟨_, rfl⟩
      rw [ep] at cP hI hf
      have HII : Hid (∀ i (hi : i < 4), rowPB r (i + 1) = (rowPB r i && partB ((prts p).getD i false) ((spL r).getD i ⟨0, 0⟩))) := hI
      have HFF : Hid (∀ i (hi : i < 4), partB ((prts p).getD i false) ((spL r).getD i ⟨0, 0⟩) = false → rowPB r 4 = false) := hf
      clear hI hf ep HA ho hw
      go_wp2_with fail
      refine cW.mono ?_
      rintro e w5 ⟨rfl, rfl⟩
      clear cW
      go_wp2_with fail
      refine cP.mono ?_
      rintro e w2 ⟨rfl, hb2⟩
      have HZ : Hid ((w2.alloc (.cells #[.bool false, .bool false, .bool false, .bool false] 149)).heap[w2.heap.size]? = some (.cells #[.bool false, .bool false, .bool false, .bool false] 149 (0, 0))) := heap_new _ _
      have hbx : Below w2.heap.size w2 ((w2.alloc (.cells #[.bool false, .bool false, .bool false, .bool false] 149)).setRow w2.heap.size p.vals) := below_row (below_new _ _) (Nat.le_refl _) _
      have HNX : Hid (((w2.alloc (.cells #[.bool false, .bool false, .bool false, .bool false] 149)).setRow w2.heap.size p.vals).heap[w2.heap.size]? = some (.cells p.vals 149 (0, 0))) := setRow_heap _ _ _ _ _ _ HZ.out
      have HBX : Hid (Below w.heap.size w ((w2.alloc (.cells #[.bool false, .bool false, .bool false, .bool false] 149)).setRow w2.heap.size p.vals)) := below2 (below2 HB4.out hb2) hbx
      have hg4 := (Array.getElem?_eq_some_iff.1 HN4.out).1
      have HRX : Hid (((w2.alloc (.cells #[.bool false, .bool false, .bool false, .bool false] 149)).setRow w2.heap.size p.vals).heap[g3]? = some (.cells r.vals 66 (0, 0))) := (hbx.block _ (by have := hb2.size; omega)).trans ((hb2.block _ hg4).trans HN4.out)
      clear hbx hb2 cP d0 d1 d2 HB4 HN4 hg4
      go_upto_region 5 with (refine wpList_store_row rfl 149 (.tmp 7) (.tmp 32) rfl w2.heap.size p.vals rfl rfl 149 #[.bool false, .bool false, .bool false, .bool false] HZ.out size216' rfl (all4 _) ?_)
      obtain ⟨b4, e4⟩ : ∃ b, w2.heap.size = b := ⟨_, rfl⟩
      rw [e4] at HNX HBX HRX ⊢
      generalize World.setRow _ _ _ = W3 at HNX HBX HRX ⊢
      clear HZ e4
      have cS := spansOf_any r W3
      go_wp2_with (refine wpList_load_row rfl 66 (.tmp 3) rfl g3 rfl 66 r.vals (0, 0) _ HRX.out Tryz.underlying66 rfl size85' ?_)
      refine cS.mono ?_
      rintro e w5 ⟨rfl, hb5⟩
      have HB5 : Hid (Below w.heap.size w w5) := below2 HBX.out hb5
      have HP5 : Hid (w5.heap[b4]? = some (.cells p.vals 149 (0, 0))) := (hb5.block _ (Array.getElem?_eq_some_iff.1 HNX.out).1).trans HNX.out
      clear cS hb5 HBX HNX HRX
      go_wp2_with fail
      go_loopw [35] (fun t wr => ∃ (i : Nat), i ≤ 4 ∧ t = .int .i64 i ∧ Hid (Below w.heap.size w wr) ∧ Hid (wr.heap[b4]? = some (.cells p.vals 149 (0, 0))) ∧ Hid (rowPB r i = true)) (fun t _ => 4 - (intOf t).toNat)
      case atStart => exact ⟨0, by omega, rfl, HB5, HP5, rfl⟩
      case round =>
        obtain ⟨i, hi, rfl, HBR, HPR, HTR⟩ := hrel
        by_cases hlt : i < 4
        · have hlt' : (i : Int) < 4 := by omega
          have hmx : (i : Int) + 1 ≤ 9223372036854775807 := by omega
          have HIX : Hid (∀ w, Sem.run Tryz.prog (Instr.index 152 (.agg (spV r)) (.int .i64 i)) w = .ok (.agg (((spL r).getD i ⟨0, 0⟩).vals)) w) := spV_ix r i hlt
          have HI1 := HII.out i hlt
          have HI2 := HFF.out i hlt
          obtain ⟨d, ed⟩ : ∃ d, (spL r).getD i ⟨0, 0⟩ = d := ⟨_, rfl⟩
          rw [ed] at HIX HI1 HI2
          have HJ1 : Hid (rowPB r (i + 1) = partB ((prts p).getD i false) d) := by show _ = _; rw [HI1, HTR.out]; rfl
          have HJ2 : Hid (partB ((prts p).getD i false) d = false → rowPB r 4 = false) := HI2
          have HZ : Hid ((wr.alloc (.cells #[.int .i64 0, .int .i64 0] 46)).heap[wr.heap.size]? = some (.cells #[.int .i64 0, .int .i64 0] 46 (0, 0))) := heap_new _ _
          have HWX : Hid (Below wr.heap.size wr ((wr.alloc (.cells #[.int .i64 0, .int .i64 0] 46)).setRow wr.heap.size d.vals)) := below_row (below_new _ _) (Nat.le_refl _) _
          have HNX : Hid (((wr.alloc (.cells #[.int .i64 0, .int .i64 0] 46)).setRow wr.heap.size d.vals).heap[wr.heap.size]? = some (.cells d.vals 46 (0, 0))) := setRow_heap _ _ _ _ _ _ HZ.out
          clear ed HI1 HI2
          go_upto_region 8 with (first | (refine wpList_index rfl 152 (.tmp 34) (.tmp 35) rfl _ (.int .i64 i) _ rfl rfl HIX.out ?_) | (refine wpList_store_row rfl 46 (.tmp 9) (.tmp 38) rfl wr.heap.size d.vals rfl rfl 46 #[.int .i64 0, .int .i64 0] HZ.out size65' rfl (allSp d) ?_))
          generalize World.setRow _ _ _ = WX at HNX HWX ⊢
          have HBX : Hid (Below w.heap.size w WX) := below2 HBR.out HWX.out
          have HPX : Hid (WX.heap[b4]? = some (.cells p.vals 149 (0, 0))) := (HWX.out.block _ (Array.getElem?_eq_some_iff.1 HPR.out).1).trans HPR.out
          have cb := p4_cell HPX.out i hlt
          have x0 : WX.cell? ⟨wr.heap.size, 0, none⟩ = some (.int .i64 d.f) := cell_of HNX.out 0
          have x1 : WX.cell? ⟨wr.heap.size, 1, none⟩ = some (.int .i64 d.t) := cell_of HNX.out 1
          clear HZ HIX HBR HPR HNX
          cases hp : (prts p).getD i false with
          | true =>
            rw [hp] at cb HJ1
            have HT : Hid (rowPB r (i + 1) = true) := by show _ = _; rw [HJ1.out]; rfl
            go_wp2_with fail
            exact ⟨⟨i + 1, hlt, rfl, HBX, HPX, HT⟩, by simp only [intOf]; omega⟩
          | false =>
            rw [hp] at cb HJ1 HJ2
            cases h0 : (d.f == 0) with
            | false =>
              have HF2 : Hid (ANS = false) := by show _ = _; rw [HF.out]; exact HJ2.out (by simp [partB, noneB, h0])
              go_wp2_with fail
              go_ret
              exact ⟨by rw [HF2.out]; rfl, HBX.out⟩
            | true =>
              cases h1 : (d.t == 0) with
              | false =>
                have HF2 : Hid (ANS = false) := by show _ = _; rw [HF.out]; exact HJ2.out (by simp [partB, noneB, h0, h1])
                go_wp2_with fail
                go_ret
                exact ⟨by rw [HF2.out]; rfl, HBX.out⟩
              | true =>
                have HT : Hid (rowPB r (i + 1) = true) := by show _ = _; rw [HJ1.out]; simp [partB, noneB, h0, h1]
                go_wp2_with fail
                exact ⟨⟨i + 1, hlt, rfl, HBX, HPX, HT⟩, by simp only [intOf]; omega⟩
        · obtain rfl : i = 4 := by omega
          have hnot : ¬ ((4 : Nat) : Int) < 4 := by omega
          have HT : Hid (ANS = true) := by show _ = _; rw [HF.out]; exact HTR.out
          go_wp2_with fail
          go_ret
          exact ⟨by rw [HT.out]; rfl, HBR.out⟩
end Go.Proofs.YteedmmljahgpjabGreatDoor
