import Derived.Test.YtighocmdlifheaaDoorM11
import Derived.Maps.OwnIn
import Derived.DataShut
/-
  tree.Reads, of any expression.
-/
namespace Go.Proofs.YtighocmdlifheaaDoor
open Go.RowKit Go.Shelf Go.Maps
attribute [local go_sem] Oper.semAt_some
set_option linter.unusedVariables false

def nds (N : List Nd) (pr : List Nat) : List Nd := pr.map (nX N)
/-- Between two rounds: what has come so far. B1 the fields' box, B2 the names', B3 the map, B4 its box. -/
structure Ri (w : World) (N : List Nd) (C B1 B2 B3 B4 : Nat) (pr : List Nat) (W : World) : Prop where
  b1 : Boxed W B1 33 (.int .u16 (mkL (nds N pr)))
  b2 : ∃ lv, Boxed W B2 34 lv ∧ RowT W lv (nmL (nds N pr)) ∧ ∀ k, lv.ownBlock = some k → w.heap.size ≤ k
  b3 : Mp W B3 pr.length (ctL (nds N pr))
  b4 : Boxed W B4 80 (.map (some B3))
  m : Below w.heap.size w W
  lt : B3 < C
theorem boxed_gr {W W' : World} {B : Nat} {t : TypeId} {v : Value} {row : Option Nat} {C : Nat} (h : Boxed W B t v) (hg : W.grownBy W' row) (hr : ∀ r, row = some r → C ≤ r ∧ ∃ o : Obj, W.heap[r]? = some o ∧ o.isCells = false) : Boxed W' B t v := boxed_grown h hg hr
theorem ri_own (w : World) (N : List Nd) {C : Nat} (B1 B2 B3 B4 : Nat) (hC : w.heap.size ≤ C) : OwnFrom C (Ri w N C B1 B2 B3 B4) := by
  intro pr W W' row h hg hr
  obtain ⟨lv, h1, h2, h3⟩ := h.b2
  refine ⟨boxed_grown h.b1 hg hr, ⟨lv, boxed_grown h1 hg hr, h2.of_block (fun k hk => ?_), h3⟩, h.b3.blk (hg.block B3 h.b3.lt (fun e => ?_)), boxed_grown h.b4 hg hr, h.m.grown hg h.m.size (fun k e => Nat.le_trans hC (hr k e).1), h.lt⟩
  · obtain ⟨c, fz, hc⟩ := h2.kind k hk
    refine hg.block k (h2.lt k hk) (fun e => ?_)
    obtain ⟨_, o, ho, hcc⟩ := hr k e.symm
    rw [hc] at ho
    cases ho
    cases hcc
  · have := (hr B3 e.symm).1
    have := h.lt
    omega
theorem kd_mv {W W' : World} {F : Nat → Prop} {B : Nat} (m : Mv W W' F) (h : ∀ b cs t fr, F b → W.heap[b]? = some (.cells cs t fr) → B ≤ b ∧ t ≠ 28) : Kd B W W' :=
  ⟨m.size, fun b cs t fr hv hc => m.block b (Array.getElem?_eq_some_iff.1 hc).1 (fun hf => by
    have h1 := h b cs t fr hf hc
    rcases hv with h2 | h2
    · omega
    · exact h1.2 h2)⟩
theorem keeps_at {W W' : World} {F : Nat → Prop} {C : Nat} (m : Mv W W' F) (h : ∀ k o, F k → C ≤ k → W.heap[k]? = some o → o.isCells = true) : KeepsFrom C W W' :=
  ⟨m.size, fun k o hk ho hc => (m.block k (Array.getElem?_eq_some_iff.1 ho).1 (fun e => by rw [h k o e hk ho] at hc; cases hc)).trans ho⟩
theorem nmF_other {T : Nd} (h : T.h.k ≠ 2) (L : List ByteArray) : nmF L T = L := by unfold nmF; rw [if_neg (fun e => h e.1)]
theorem mkF_other {T : Nd} (h : ¬ (T.h.k = 3 ∨ T.h.k = 4)) (a : Int) : mkF a T = a := by unfold mkF; rw [if_neg h]
theorem ct_other {N : List Nd} {T : Nd} (h : T.h.k ≠ 2) : ctL (N ++ [T]) = ctL N := by funext y; rw [ctL_snoc, if_neg (fun e => h e.1)]; rfl
theorem ct_reg {N : List Nd} {T : Nd} (h : T.h.k = 2) : ctL (N ++ [T]) = fun y => ctL N y + if T.h.x = y then 1 else 0 := by
  funext y
  rw [ctL_snoc]
  by_cases e : T.h.x = y
  · rw [if_pos ⟨h, e⟩, if_pos e]
  · rw [if_neg (fun q => e q.2), if_neg e]
/-- A round that changes nothing but the fields. -/
theorem Ri.fld {w W : World} {N : List Nd} {C B1 B2 B3 B4 : Nat} {pr : List Nat} {x : Nat} {T : Nd} {V : Int} (h : Ri w N C B1 B2 B3 B4 pr W) (hE : nds N (pr ++ [x]) = nds N pr ++ [T]) (h2 : T.h.k ≠ 2) (hV : mkF (mkL (nds N pr)) T = V) (hw : w.heap.size ≤ B1) (n1 : B1 ≠ B2) (n4 : B1 ≠ B4) :
    Ri w N C B1 B2 B3 B4 (pr ++ [x]) (W.setCell ⟨B1, 0, none⟩ (.int .u16 V)) ∧ Mv W (W.setCell ⟨B1, 0, none⟩ (.int .u16 V)) (fun b => b = B1) := by
  have m : Mv W (W.setCell ⟨B1, 0, none⟩ (.int .u16 V)) (fun b => b = B1) := (Mv.refl W (fun b => b = B1)).setCell (.inl rfl) _
  obtain ⟨lv, k1, k2, k3⟩ := h.b2
  refine ⟨⟨?_, ⟨lv, (m.block _ k1.lt (fun e => n1 e.symm)).trans k1, ?_, k3⟩, ?_, (m.block _ h.b4.lt (fun e => n4 e.symm)).trans h.b4, h.m.setCell hw _, h.lt⟩, m⟩
  · rw [hE, mkL_snoc, hV]; exact h.b1.set _
  · rw [hE, nmL_snoc, nmF_other h2]
    refine k2.of_block (fun k hk => m.block k (k2.lt k hk) (fun e => ?_))
    obtain ⟨c, fz, hc⟩ := k2.kind k hk
    rw [e, show W.heap[B1]? = _ from h.b1] at hc
    cases hc
  · rw [hE, ct_other h2]
    refine (h.b3.blk (m.block _ h.b3.lt (fun e => ?_))).mono (by simp)
    exact h.b3.notCells _ _ _ (by rw [e]; exact h.b1)
theorem Ri.idle {w W : World} {N : List Nd} {C B1 B2 B3 B4 : Nat} {pr : List Nat} {x : Nat} {T : Nd} (h : Ri w N C B1 B2 B3 B4 pr W) (hE : nds N (pr ++ [x]) = nds N pr ++ [T]) (h2 : T.h.k ≠ 2) (h3 : ¬ (T.h.k = 3 ∨ T.h.k = 4)) : Ri w N C B1 B2 B3 B4 (pr ++ [x]) W := by
  obtain ⟨lv, k1, k2, k3⟩ := h.b2
  refine ⟨?_, ⟨lv, k1, ?_, k3⟩, ?_, h.b4, h.m, h.lt⟩
  · rw [hE, mkL_snoc, mkF_other h3]; exact h.b1
  · rw [hE, nmL_snoc, nmF_other h2]; exact k2
  · rw [hE, ct_other h2]; exact h.b3.mono (by simp)
theorem lit_inj {q : IntKind} {a b : Int} (h : (DataW.lit (Lit.int q a) : DataW Unit) = .lit (.int q b)) : a = b := by injection h with h; injection h
theorem zero3 (w : World) : (zeroValue 3).run Tryd.prog w = .ok (.int .i64 0) w := by kernel_rfl
theorem Mv.ofGrown {W W' : World} {b : Nat} (h : W.grownBy W' (some b)) : Mv W W' (fun k => k = b) := ⟨h.os, h.tape, h.output, h.size, fun k hk hn => h.block k hk (fun e => hn (by injection e))⟩
theorem Ri.reg0 {w W W1 : World} {N : List Nd} {C B1 B2 B3 B4 : Nat} {pr : List Nat} {x : Nat} {T : Nd} (h : Ri w N C B1 B2 B3 B4 pr W) (hE : nds N (pr ++ [x]) = nds N pr ++ [T]) (hg : W.grownBy W1 (some B3)) (hM : Mp W1 B3 (pr.length + 1) (ctL (nds N pr ++ [T])))
    (hn : nmL (nds N pr ++ [T]) = nmL (nds N pr)) (hk : mkL (nds N pr ++ [T]) = mkL (nds N pr)) (hw : w.heap.size ≤ B3) :
    Ri w N C B1 B2 B3 B4 (pr ++ [x]) W1 ∧ KeepsFrom C W W1 ∧ Kd w.heap.size W W1 := by
  have m := Mv.ofGrown hg
  have nc := h.b3.notCells
  have ne : ∀ {b cs t fr}, W.heap[b]? = some (.cells cs t fr) → b ≠ B3 := fun hb e => nc _ _ _ (by rw [← e]; exact hb)
  obtain ⟨lv, k1, k2, k3⟩ := h.b2
  refine ⟨⟨?_, ⟨lv, (m.block _ k1.lt (ne k1)).trans k1, ?_, k3⟩, ?_, (m.block _ h.b4.lt (ne h.b4)).trans h.b4, h.m.grown hg h.m.size (fun k e => by cases e; exact hw), h.lt⟩, keeps_at m (fun k o e hC _ => by have := h.lt; omega), kd_mv m (fun b cs t fr e hc => absurd e (ne hc))⟩
  · rw [hE, hk]; exact (m.block _ h.b1.lt (ne h.b1)).trans h.b1
  · rw [hE, hn]
    exact k2.of_block (fun k hk => by obtain ⟨c, fz, hc⟩ := k2.kind k hk; exact m.block k (k2.lt k hk) (ne hc))
  · rw [hE, List.length_append]; exact hM
theorem Ri.reg1 {w W W1 W2 : World} {N : List Nd} {C B1 B2 B3 B4 : Nat} {pr : List Nat} {x : Nat} {T : Nd} {lv v' : Value} {o : Obj} (h : Ri w N C B1 B2 B3 B4 (pr ++ [x]) W1 ∨ True) (hR : Ri w N C B1 B2 B3 B4 pr W) (hE : nds N (pr ++ [x]) = nds N pr ++ [T]) (hg : W.grownBy W1 (some B3)) (hM : Mp W1 B3 (pr.length + 1) (ctL (nds N pr ++ [T])))
    (hn : nmL (nds N pr ++ [T]) = nmL (nds N pr) ++ [T.h.x]) (hk : mkL (nds N pr ++ [T]) = mkL (nds N pr)) (hw : w.heap.size ≤ B3) (hw2 : w.heap.size ≤ B2) (n12 : B1 ≠ B2) (n24 : B4 ≠ B2)
    (hb2 : Boxed W B2 34 lv) (hrow : RowT W lv (nmL (nds N pr))) (hnb : ∀ k, lv.ownBlock = some k → w.heap.size ≤ k) (hC : w.heap.size ≤ C)
    (hown : W2.ownsRow 0 9 1 v' ((nmL (nds N pr)).length + 1) ((List.range ((nmL (nds N pr)).length * 1)).map (txF (nmL (nds N pr))) ++ [.string T.h.x])) (hg2 : (W1.alloc o).grownBy W2 lv.ownBlock) (hl : v'.ownBlock = lv.ownBlock ∨ v'.ownBlock = some (W1.alloc o).heap.size) :
    Ri w N C B1 B2 B3 B4 (pr ++ [x]) (W2.setCell ⟨B2, 0, none⟩ v') ∧ KeepsFrom C W (W2.setCell ⟨B2, 0, none⟩ v') ∧ Kd w.heap.size W (W2.setCell ⟨B2, 0, none⟩ v') := by
  have m1 := Mv.ofGrown hg
  have nc := hR.b3.notCells
  have ne : ∀ {b cs t fr}, W.heap[b]? = some (.cells cs t fr) → b ≠ B3 := fun hb e => nc _ _ _ (by rw [← e]; exact hb)
  have m2 : Mv W W2 (fun k => k = B3 ∨ lv.ownBlock = some k) := ((m1.mono (F' := fun k => k = B3 ∨ lv.ownBlock = some k) (fun _ e => .inl e)).alloc o).grown hg2 (fun k e => .inl (.inr e))
  have m3 : Mv W (W2.setCell ⟨B2, 0, none⟩ v') (fun k => k = B3 ∨ lv.ownBlock = some k ∨ k = B2) := (m2.mono (fun k e => e.elim .inl (fun e => .inr (.inl e)))).setCell (.inl (.inr (.inr rfl))) _
  have nl : ∀ {b cs t fr}, W.heap[b]? = some (.cells cs t fr) → t ≠ 9 → lv.ownBlock ≠ some b := by
    intro b cs t fr hb ht e
    obtain ⟨c, fz, hc⟩ := hrow.kind b e
    rw [hb] at hc
    injection hc with hc
    injection hc with _ h2
    exact ht h2
  have hs : W.heap.size ≤ W2.heap.size := m2.size
  have hB2 : Boxed W2 B2 34 lv := (m2.block _ hb2.lt (fun e => e.elim (ne hb2) (nl hb2 (by decide)))).trans hb2
  have hr2 : RowT W2 v' (nmL (nds N pr) ++ [T.h.x]) := by
    have hr := Row.snoc (x := fun _ => .string T.h.x) hown rfl (fun j hj => by obtain rfl : j = 0 := (by omega); rfl)
    unfold RowT
    rw [List.length_append, List.length_singleton]
    refine hr.congr (fun j hj => ?_)
    unfold txF
    by_cases e : j < (nmL (nds N pr)).length * 1
    · rw [if_pos e]
      simp [List.getD, List.getElem?_append_left (show j < (nmL (nds N pr)).length by omega)]
    · rw [if_neg e]
      obtain rfl : j = (nmL (nds N pr)).length := by omega
      simp [List.getD]
  have hv2 : ∀ k, v'.ownBlock = some k → k ≠ B2 := by
    intro k hk e
    obtain ⟨c, fz, hc⟩ := hr2.kind k hk
    rw [e, show W2.heap[B2]? = _ from hB2] at hc
    injection hc with hc
    injection hc with _ h2
    exact absurd h2 (by decide)
  refine ⟨⟨?_, ⟨v', hB2.set v', ?_, ?_⟩, ?_, ?_, ?_, hR.lt⟩, keeps_at m3 (fun k o e hC' ho => ?_), kd_mv m3 (fun b cs t fr e hc => ?_)⟩
  · rw [hE, hk]
    exact (m3.block _ hR.b1.lt (fun e => e.elim (ne hR.b1) (fun e => e.elim (nl hR.b1 (by decide)) n12))).trans hR.b1
  · rw [hE, hn]
    exact hr2.of_block (fun k hk => Below.heap_setCell _ _ _ _ (fun e => hv2 k hk e))
  · intro k hk
    rcases hl with e | e
    · exact hnb k (by rw [← e]; exact hk)
    · rw [hk] at e
      injection e with e
      rw [e, size_alloc]
      have := hR.m.size
      have := m1.size
      omega
  · rw [hE, List.length_append]
    have hb3 : (W2.setCell ⟨B2, 0, none⟩ v').heap[B3]? = W1.heap[B3]? := by
      rw [Below.heap_setCell _ _ _ _ (fun e => ne hb2 e.symm), hg2.block B3 (by rw [size_alloc]; have := hM.lt; omega) (fun e => ?_), Below.heap_alloc _ _ _ hM.lt]
      obtain ⟨c, fz, hc⟩ := hrow.kind B3 e.symm
      exact nc _ _ _ hc
    exact hM.blk hb3
  · exact (m3.block _ hR.b4.lt (fun e => e.elim (ne hR.b4) (fun e => e.elim (nl hR.b4 (by decide)) n24))).trans hR.b4
  · have hb : Below w.heap.size W (W2.setCell ⟨B2, 0, none⟩ v') := m3.below hR.m.size (fun b e => by
      rcases e with e | e | e
      · rw [e]; exact hw
      · exact hnb b e
      · rw [e]; exact hw2)
    exact hR.m.trans hb
  · rcases e with e | e | e
    · have := hR.lt; omega
    · obtain ⟨c, fz, hc⟩ := hrow.kind k e
      rw [hc] at ho
      cases ho
      rfl
    · rw [e, show W.heap[B2]? = _ from hb2] at ho
      cases ho
      rfl
  · rcases e with e | e | e
    · exact absurd e (ne hc)
    · obtain ⟨c, fz, h1⟩ := hrow.kind b e
      rw [hc] at h1
      injection h1 with h1
      injection h1 with _ h2
      exact ⟨hnb b e, by rw [h2]; decide⟩
    · rw [e, show W.heap[B2]? = _ from hb2] at hc
      injection hc with hc
      injection hc with _ h2
      exact ⟨by rw [e]; exact hw2, by rw [← h2]; decide⟩
theorem one_s (x : ByteArray) : ∀ j, j < 1 → [Value.string x][j]? = some (.string x) := fun j hj => by obtain rfl : j = 0 := (by omega); rfl
theorem box_ne {W : World} {B : Nat} {lv : Value} {L : List ByteArray} (h : Boxed W B 34 lv) (hr : RowT W lv L) : lv.ownBlock ≠ some B := by
  intro e
  obtain ⟨c, fz, hc⟩ := hr.kind B e
  rw [show W.heap[B]? = _ from h] at hc
  injection hc with hc
  injection hc with _ h2
  exact absurd h2 (by decide)
theorem nds_all (N : List Nd) : nds N (List.range N.length) = N.map cutN := by
  unfold nds
  apply List.ext_getElem?
  intro i
  rw [List.getElem?_map, List.getElem?_map]
  by_cases h : i < N.length
  · rw [List.getElem?_range h, List.getElem?_eq_getElem h]
    show some (nX N i) = some (cutN N[i])
    rw [nX_at h]
    unfold ldF
    rw [List.getD_eq_getElem?_getD, List.getElem?_eq_getElem h]
    rfl
  · rw [List.getElem?_eq_none (by simpa using h), List.getElem?_eq_none (by simpa using h)]
    rfl
theorem cutN_h (x : Nd) : (cutN x).h = x.h := by cases x; rfl
theorem mkL_cut (N : List Nd) : mkL (N.map cutN) = mkL N := by
  refine list_snoc_ind (P := fun N => mkL (N.map cutN) = mkL N) rfl ?_ N
  intro T x ih
  rw [List.map_append, List.map_singleton, mkL_snoc, mkL_snoc, ih]
  unfold mkF
  rw [cutN_h]
theorem nmL_cut (N : List Nd) : nmL (N.map cutN) = nmL N := by
  refine list_snoc_ind (P := fun N => nmL (N.map cutN) = nmL N) rfl ?_ N
  intro T x ih
  rw [List.map_append, List.map_singleton, nmL_snoc, nmL_snoc, ih]
  unfold nmF
  rw [cutN_h]
end Go.Proofs.YtighocmdlifheaaDoor

/-
  tree.Reads, of any expression: the walk.
-/
namespace Go.Proofs.YtighocmdlifheaaDoor
open Go.RowKit Go.Shelf Go.Maps
attribute [local go_sem] Oper.semAt_some
set_option linter.unusedVariables false

theorem ndy_own {C : Nat} (a' : Act) (A : Nat → Value → Value → Value → Act) (T : Nd) : OwnFrom C (fun (_ : Unit) W => ∃ Bt u8 u9 u10, a' = A Bt u8 u9 u10 ∧ NdH W Bt T) := by
  intro _ W W' row hs hg hr
  obtain ⟨Bt, u8, u9, u10, e, h⟩ := hs
  exact ⟨Bt, u8, u9, u10, e, ndh_grown h hg hr⟩
theorem inf9 : (Tryd.prog.info? 9).map (fun i => (i.zero, i.size, i.bytes)) = some (some (.string ⟨#[]⟩), 1, 16) := by kernel_rfl
theorem nX_size {N : List Nd} (h : ∀ k ∈ N, k.h.x.size ≤ 2000000000) (x : Nat) : (nX N x).h.x.size ≤ 2000000000 := by
  by_cases hx : x < N.length
  · have hm : N[x] ∈ N := List.getElem_mem hx
    have := h _ hm
    unfold nX
    rw [List.getD_eq_getElem?_getD, List.getElem?_eq_getElem hx, Option.getD_some]
    generalize N[x] = q at this ⊢
    cases q
    exact this
  · unfold nX
    rw [List.getD_eq_getElem?_getD, List.getElem?_eq_none (by omega), Option.getD_none]
    exact Nat.zero_le _
set_option maxRecDepth 1000000 in
set_option maxHeartbeats 8000000 in
theorem reads_any (m : Nd) (w : World) (hl : Lies w m) (hz : size m ≤ 1000000000) (hx : ∀ k ∈ pre m, k.h.x.size ≤ 2000000000) :
    Calls Tryd.prog 10 #[.agg m.vals] w fun e w' => ∃ lv, e = .returned (.tuple #[.int .u16 (mkL (pre m)), lv]) ∧ RowT w' lv (nmL (pre m)) ∧ (∀ k, lv.ownBlock = some k → w.heap.size ≤ k) ∧ Below w.heap.size w w' := by
  have hmm := @run_makeMap Tryd.prog
  refine (callsIn_wide (n := 3)).1 (callsIn_of_wp_marks Tryd.func10 rfl trivial ?_ rfl)
  refine wpIn_wide.2 ?_
  simp only [Tryd.ntmps10, List.size_toArray, List.length_cons, List.length_nil, Nat.reduceAdd, Nat.reduceSub, Array.replicate_succ, Array.replicate_zero, List.push_toArray, List.append_toArray, List.nil_append, List.cons_append]
  obtain ⟨B0, hB0⟩ : ∃ x, w.heap.size = x := ⟨_, rfl⟩
  obtain ⟨U, eU⟩ : ∃ U, ((((w.alloc (.cells m.vals 28)).alloc (.cells #[.int .u16 0] 33)).alloc (.cells #[.slice none 0 0] 34)).alloc (.map #[] 0)).alloc (.cells #[.map (some (B0 + 1 + 1 + 1))] 80) = U := ⟨_, rfl⟩
  have sU : U.heap.size = B0 + 1 + 1 + 1 + 1 + 1 := by rw [← eU]; simp [hB0]
  have hU : Below w.heap.size w U := by rw [← eU]; exact ((((below_new w _).alloc (by simp) _).alloc (by simp <;> omega) _).alloc (by simp <;> omega) _).alloc (by simp <;> omega) _
  have u1 : Boxed U (B0 + 1) 33 (.int .u16 0) := by
    have := (((Boxed.new (w.alloc (.cells m.vals 28)) 33 (.int .u16 0)).alloc (.cells #[.slice none 0 0] 34)).alloc (.map #[] 0)).alloc (.cells #[.map (some (B0 + 1 + 1 + 1))] 80)
    rw [World.size_alloc, hB0] at this
    rw [← eU]; exact this
  have u2 : Boxed U (B0 + 1 + 1) 34 (.slice none 0 0) := by
    have := ((Boxed.new ((w.alloc (.cells m.vals 28)).alloc (.cells #[.int .u16 0] 33)) 34 (.slice none 0 0)).alloc (.map #[] 0)).alloc (.cells #[.map (some (B0 + 1 + 1 + 1))] 80)
    rw [World.size_alloc, World.size_alloc, hB0] at this
    rw [← eU]; exact this
  have u3 : Mp U (B0 + 1 + 1 + 1) 0 (fun _ => 0) := by
    have := Mp.made (((w.alloc (.cells m.vals 28)).alloc (.cells #[.int .u16 0] 33)).alloc (.cells #[.slice none 0 0] 34))
    rw [size_alloc, size_alloc, size_alloc, hB0] at this
    rw [← eU]
    exact this.blk (Below.heap_alloc _ _ _ this.lt)
  have u4 : Boxed U (B0 + 1 + 1 + 1 + 1) 80 (.map (some (B0 + 1 + 1 + 1))) := by
    have := Boxed.new ((((w.alloc (.cells m.vals 28)).alloc (.cells #[.int .u16 0] 33)).alloc (.cells #[.slice none 0 0] 34)).alloc (.map #[] 0)) 80 (.map (some (B0 + 1 + 1 + 1)))
    rw [World.size_alloc, World.size_alloc, World.size_alloc, World.size_alloc, hB0] at this
    rw [← eU]; exact this
  have hN : NdH U B0 m := by rw [← eU, ← hB0]; exact heap_old (heap_old (heap_old (heap_old (heap_new w _) (by simp)) (by simp <;> omega)) (by simp <;> omega)) (by simp <;> omega)
  have y0 : U.cell? ⟨B0, 0, none⟩ = some (.int .u8 m.h.k) := cell_of hN 0
  have y1 : U.cell? ⟨B0, 1, none⟩ = some (.int .u8 m.h.o) := cell_of hN 1
  have y2 : U.cell? ⟨B0, 2, none⟩ = some (.int .u8 m.h.t) := cell_of hN 2
  have y3 : U.cell? ⟨B0, 3, none⟩ = some (.int .i64 m.h.n) := cell_of hN 3
  have y4 : U.cell? ⟨B0, 4, none⟩ = some (.int .u8 m.h.f) := cell_of hN 4
  have y5 : U.cell? ⟨B0, 5, none⟩ = some (.string m.h.x) := cell_of hN 5
  have y6 : U.cell? ⟨B0, 6, none⟩ = some (.slice m.a m.ks.length m.c) := cell_of hN 6
  have y7 : U.cell? ⟨B0, 7, none⟩ = some (.int .i64 m.h.p) := cell_of hN 7
  have cL := all_any m U
  rw [sU] at cL
  obtain ⟨W1, eW1⟩ : ∃ W1, U.alloc (.cells m.vals 28) = W1 := ⟨_, rfl⟩
  have hbl : Below w.heap.size w W1 := by rw [← eW1]; exact hU.alloc hU.size _
  have s0 : W1.heap.size = B0 + 1 + 1 + 1 + 1 + 1 + 1 := by rw [← eW1, size_alloc, sU]
  have z1 : Boxed W1 (B0 + 1) 33 (.int .u16 0) := by rw [← eW1]; exact u1.alloc _
  have z2 : Boxed W1 (B0 + 1 + 1) 34 (.slice none 0 0) := by rw [← eW1]; exact u2.alloc _
  have z3 : Mp W1 (B0 + 1 + 1 + 1) 0 (fun _ => 0) := by rw [← eW1]; exact u3.blk (Below.heap_alloc _ _ _ u3.lt)
  have z4 : Boxed W1 (B0 + 1 + 1 + 1 + 1) 80 (.map (some (B0 + 1 + 1 + 1))) := by rw [← eW1]; exact u4.alloc _
  have z5 : NdH W1 (B0 + 1 + 1 + 1 + 1 + 1) m := by rw [← eW1, ← sU]; exact heap_new _ _
  rw [eW1] at cL
  have HB0 : Hid (w.heap.size = B0) := hB0
  have Hbl : Hid (Below w.heap.size w W1) := hbl
  have Hs0 : Hid (W1.heap.size = B0 + 1 + 1 + 1 + 1 + 1 + 1) := s0
  have Hz1 : Hid (Boxed W1 (B0 + 1) 33 (.int .u16 0)) := z1
  have Hz2 : Hid (Boxed W1 (B0 + 1 + 1) 34 (.slice none 0 0)) := z2
  have Hz3 : Hid (Mp W1 (B0 + 1 + 1 + 1) 0 (fun _ => 0)) := z3
  have Hz4 : Hid (Boxed W1 (B0 + 1 + 1 + 1 + 1) 80 (.map (some (B0 + 1 + 1 + 1)))) := z4
  have Hz5 : Hid (NdH W1 (B0 + 1 + 1 + 1 + 1 + 1) m) := z5
  have Hl : Hid (Lies w m) := hl
  have Hx : Hid (∀ k ∈ pre m, k.h.x.size ≤ 2000000000) := hx
  have Hz : Hid (size m ≤ 1000000000) := hz
  clear eW1 sU hU u1 u2 u3 u4 hN hbl s0 z1 z2 z3 z4 z5 hl hx hz
  unfold Nd.vals hdA at cL eU ⊢
  go_wp2_with fail
  clear eU
  refine cL.mono ?_
  rintro e W2 ⟨rfl, e1⟩
  obtain rfl := e1
  go_wp2_with fail
  refine (wpIn_wide (n := 12)).1 ?_
  refine wpIn_rangeFunc_ownH rfl (by omega) (gf := 43) (lb := #[.pointer (some ⟨B0 + 1 + 1 + 1 + 1 + 1, 0, none⟩)]) rfl trivial (enters_of Tryd.func43 (by kernel_rfl) rfl)
    (all_stops2 11 m (B0 + 1 + 1 + 1 + 1 + 1) w W2 Hl.out Hbl.out Hz5.out)
    (fun h k => h.trans k) ?hKb (Below.refl _ _) (fun _ => rfl)
    (Ri w (pre m) W2.heap.size (B0 + 1) (B0 + 1 + 1) (B0 + 1 + 1 + 1) (B0 + 1 + 1 + 1 + 1))
    (fun _ pre _ => False)
    (ri_own w (pre m) (B0 + 1) (B0 + 1 + 1) (B0 + 1 + 1 + 1) (B0 + 1 + 1 + 1 + 1) Hbl.out.size) (fun c => ownFrom_pure _ _) ⟨Hz1.out, ⟨_, Hz2.out, Row.nil _ _ _ _, fun k hk => by cases hk⟩, Hz3.out, Hz4.out, Hbl.out, by rw [Hs0.out]; omega⟩
    (fun x a' W => ∃ Bt u8 u9 u10, a' = { tmps := #[.agg #[.int .u8 m.h.k, .int .u8 m.h.o, .int .u8 m.h.t, .int .i64 m.h.n, .int .u8 m.h.f, .string m.h.x, .slice m.a m.ks.length m.c, .int .i64 m.h.p], .pointer (some ⟨B0, 0, none⟩), .int .u16 0, .slice none 0 0, .pointer (some ⟨B0 + 1, 0, none⟩), .pointer (some ⟨B0 + 1 + 1, 0, none⟩), .pointer (some ⟨B0 + 1 + 1 + 1 + 1, 0, none⟩), .pointer (some ⟨Bt, 0, none⟩), u8, u9, u10, .agg (nX (pre m) x).vals, undef, undef, undef, undef, undef, undef, undef, undef, undef, undef, undef, undef, undef, undef, undef, undef, undef, undef, undef, undef, undef, undef, undef, undef, undef, undef, undef, undef, undef], defers := [] } ∧ NdH W Bt (nX (pre m) x))
    ?hAx ?assign ?body ?done ?stop
  case hKb => exact fun W l o o' h1 h2 h3 h4 => Kd.bound (w := W2) W l o o' h1 h2 h3 h4
  case hAx => exact fun x a' => ndy_own a' _ _
  case assign =>
    rintro lo pr x Y K hi hK
    rw [enc_nX]
    obtain ⟨T, eT⟩ : ∃ T, nX (pre m) x = T := ⟨_, rfl⟩
    rw [eT] at hK ⊢
    have HK : Hid (∀ a', (∃ Bt u8 u9 u10, a' = _ ∧ NdH (Y.alloc (.cells T.vals 28)) Bt T) → K a' (Y.alloc (.cells T.vals 28))) := fun a' hA => hK a' _ ⟨by simp, fun k o _ hk _ => (Below.heap_alloc _ _ _ (Array.getElem?_eq_some_iff.1 hk).1).trans hk⟩ (Kd.of_below (below_new _ _)) ((ri_own w (pre m) _ _ _ _ Hbl.out.size).alloc _ hi) hA
    clear hK hi eT
    unfold Nd.vals hdA at HK ⊢
    gi_wp2
    exact HK.out _ ⟨Y.heap.size, _, _, _, rfl, heap_new _ _⟩
  case body =>
    rintro lo pr x a' Y hlo hlr hR ⟨Bt, u8, u9, u10, rfl, hT⟩ hlen
    obtain ⟨T, eT⟩ : ∃ T, nX (pre m) x = T := ⟨_, rfl⟩
    have HE : Hid (nds (pre m) (pr ++ [x]) = nds (pre m) pr ++ [T]) := by show _ = _; unfold nds; rw [List.map_append, List.map_singleton, eT]
    have hRg : Rg T.h := by rw [← eT]; exact (liesX Hl.out x).rg
    have hTx : T.h.x.size ≤ 2000000000 := by rw [← eT]; exact nX_size Hx.out x
    rw [eT] at hT ⊢
    obtain ⟨lv, hb2, hrow, hnb⟩ := hR.b2
    have HR : Hid (Ri w (pre m) W2.heap.size (B0 + 1) (B0 + 1 + 1) (B0 + 1 + 1 + 1) (B0 + 1 + 1 + 1 + 1) pr Y) := hR
    have c1 := hR.b1.cell
    have f1 := hR.b1.frozen
    have y0 : Y.cell? ⟨Bt, 0, none⟩ = some (.int .u8 T.h.k) := cell_of hT 0
    have y4 : Y.cell? ⟨Bt, 4, none⟩ = some (.int .u8 T.h.f) := cell_of hT 4
    have y5 : Y.cell? ⟨Bt, 5, none⟩ = some (.string T.h.x) := cell_of hT 5
    obtain ⟨hk0, hk1, _, _, _, _, _, _, hf0, hf1, _, _⟩ := hRg
    have HT : Hid (NdH Y Bt T) := hT
    clear hT hlr hR eT
    by_cases k3 : T.h.k = 3
    · rw [k3] at y0
      obtain ⟨V, eV⟩ : ∃ V, mkL (nds (pre m) pr) = V := ⟨_, rfl⟩
      rw [eV] at c1
      have HV : Hid (mkF (mkL (nds (pre m) pr)) T = bits BinOp.or IntKind.u16 V (IntKind.u16.wrap (2 ^ min T.h.f.toNat 16))) := by show _ = _; rw [eV]; unfold mkF; rw [if_pos (by rw [k3]; decide)]; rfl
      have H2 : Hid (T.h.k ≠ 2) := (by rw [k3]; decide : T.h.k ≠ 2)
      clear eV k3 hb2 hrow hnb y5 hlen
      unfold Nd.vals hdA
      gi_wp2
      obtain ⟨r1, r2⟩ := HR.out.fld HE.out H2.out HV.out (by rw [HB0.out]; omega) (by omega) (by omega)
      exact ⟨keeps_box r2 HR.out.b1 _, kd_mv r2 (fun b cs t fr e hc => by rw [e, show Y.heap[B0 + 1]? = _ from HR.out.b1] at hc; cases hc; exact ⟨by rw [HB0.out, e]; omega, by decide⟩), r1⟩
    by_cases k4 : T.h.k = 4
    · rw [k4] at y0
      obtain ⟨V, eV⟩ : ∃ V, mkL (nds (pre m) pr) = V := ⟨_, rfl⟩
      rw [eV] at c1
      have HV : Hid (mkF (mkL (nds (pre m) pr)) T = bits BinOp.or IntKind.u16 V (IntKind.u16.wrap (2 ^ min T.h.f.toNat 16))) := by show _ = _; rw [eV]; unfold mkF; rw [if_pos (by rw [k4]; decide)]; rfl
      have H2 : Hid (T.h.k ≠ 2) := (by rw [k4]; decide : T.h.k ≠ 2)
      clear eV k4 hb2 hrow hnb y5 hlen
      unfold Nd.vals hdA
      gi_wp2
      obtain ⟨r1, r2⟩ := HR.out.fld HE.out H2.out HV.out (by rw [HB0.out]; omega) (by omega) (by omega)
      exact ⟨keeps_box r2 HR.out.b1 _, kd_mv r2 (fun b cs t fr e hc => by rw [e, show Y.heap[B0 + 1]? = _ from HR.out.b1] at hc; cases hc; exact ⟨by rw [HB0.out, e]; omega, by decide⟩), r1⟩
    by_cases k2 : T.h.k = 2
    · rw [k2] at y0
      obtain ⟨D, hown, hL⟩ := HR.out.b3
      have hat0 := hL T.h.x (by unfold maxLen; omega)
      have hkey := WideMaps.keyOf_string_mk (P := Tryd.prog) Tryd.underlying9 (show T.h.x.size ≤ maxLen by unfold maxLen; omega)
      have hct : ctL (nds (pre m) pr) T.h.x ≤ pr.length := by have := ctL_len (nds (pre m) pr) T.h.x; unfold nds at this ⊢; rwa [List.length_map] at this
      have hpl : pr.length < 1000000000 := by rw [size_pre] at hlen; have := Hz.out; omega
      have hmem := mem_nmL (nds (pre m) pr) T.h.x
      have HMp : Hid (∀ w1 : World, w1.ownsMap Tryd.prog 9 (plainElem Tryd.prog 3) (B0 + 1 + 1 + 1) (pr.length + 1) (D.put (.string T.h.x.data.toList) (.lit (.int .i64 ((ctL (nds (pre m) pr) T.h.x : Int) + 1)))) → Mp w1 (B0 + 1 + 1 + 1) (pr.length + 1) (ctL (nds (pre m) pr ++ [T]))) := fun w1 h1 => by
        rw [ct_reg k2]; exact Mp.put hown hL h1
      have HNM : Hid (nmL (nds (pre m) pr ++ [T]) = if ctL (nds (pre m) pr) T.h.x = 0 then nmL (nds (pre m) pr) ++ [T.h.x] else nmL (nds (pre m) pr)) := by
        show _ = _
        rw [nmL_snoc]
        unfold nmF
        by_cases e : ctL (nds (pre m) pr) T.h.x = 0
        · rw [if_pos e, if_pos ⟨k2, hasT_not.2 (fun h => by have := hmem.1 h; omega)⟩]
        · rw [if_neg e, if_neg (fun h => hasT_not.1 h.2 (hmem.2 (by omega)))]
      have HMK : Hid (mkL (nds (pre m) pr ++ [T]) = mkL (nds (pre m) pr)) := by show _ = _; rw [mkL_snoc, mkF_other (by rw [k2]; decide)]
      generalize ctL (nds (pre m) pr) T.h.x = ct at hat0 hct HMp HNM hmem
      have hwf : (Lit.int .i64 ((ct : Int) + 1)).wf = true := (Lit.wf_int_iff _ _).2 ⟨by show (-9223372036854775808 : Int) ≤ _; omega, by show _ ≤ (9223372036854775807 : Int); omega⟩
      have hc1 : (ct : Int) + 1 ≤ 9223372036854775807 := by omega
      have hn : pr.length < maxLen := by unfold maxLen; omega
      have c4 := HR.out.b4.cell
      have hat1 : (D.put (.string T.h.x.data.toList) (.lit (.int .i64 ((ct : Int) + 1)))).atKey (.string T.h.x.data.toList) (.lit (.int .i64 0)) = .lit (.int .i64 ((ct : Int) + 1)) := put_at hown _ _
      have HG : Hid (∀ w1 : World, Y.grownBy w1 (some (B0 + 1 + 1 + 1)) → w1.cell? ⟨B0 + 1 + 1 + 1 + 1, 0, none⟩ = some (.map (some (B0 + 1 + 1 + 1))) ∧ w1.cell? ⟨Bt, 5, none⟩ = some (.string T.h.x) ∧ Boxed w1 (B0 + 1 + 1) 34 lv ∧ RowT w1 lv (nmL (nds (pre m) pr))) := by
        intro w1 hg
        have nc := HR.out.b3.notCells
        have ne : ∀ {b cs t fr}, Y.heap[b]? = some (.cells cs t fr) → some b ≠ some (B0 + 1 + 1 + 1) := fun hb e => nc _ _ _ (by rw [← Option.some.inj e]; exact hb)
        refine ⟨Boxed.cell (t := 80) ((hg.block _ HR.out.b4.lt (ne HR.out.b4)).trans HR.out.b4), (World.cell?_of_block (hg.block Bt HT.out.lt (ne HT.out))).trans y5, (hg.block _ hb2.lt (ne hb2)).trans hb2, hrow.of_block (fun k hk => by obtain ⟨c, fz, hc⟩ := hrow.kind k hk; exact hg.block k (hrow.lt k hk) (ne hc))⟩
      have HB2 : Hid (Boxed Y (B0 + 1 + 1) 34 lv) := hb2
      have HRW : Hid (RowT Y lv (nmL (nds (pre m) pr))) := hrow
      have HNB : Hid (∀ k, lv.ownBlock = some k → w.heap.size ≤ k) := hnb
      have hLN : (nmL (nds (pre m) pr)).length < 1000000000 := by have := nmL_len (nds (pre m) pr); unfold nds at this ⊢; rw [List.length_map] at this; omega
      obtain ⟨i0, h0, hz0, hz1, hz2⟩ := info_parts inf9
      clear hL hmem c1 f1 y4 k2 k3 k4 hct hb2 hrow hnb
      by_cases hc0 : ct = 0
      · subst hc0
        have HNM2 : Hid (nmL (nds (pre m) pr ++ [T]) = nmL (nds (pre m) pr) ++ [T.h.x]) := HNM.out.trans (if_pos rfl)
        unfold Nd.vals hdA
        gi_wp2_with (first
          | (refine wpListIn_lookup_own_int _ rfl _ _ 80 rfl 9 3 .i64 law9 Tryd.underlying80 Tryd.underlying3 (zero3 _) (B0 + 1 + 1 + 1) pr.length D rfl hown _ _ rfl hkey ?_; intro cc hat hwc; obtain rfl : cc = ((0 : Nat) : Int) := lit_inj (hat.symm.trans hat0); clear hat hwc)
          | (refine wpListIn_mapUpdate_own _ rfl _ _ _ 80 rfl 9 3 law9 Tryd.underlying80 _ (B0 + 1 + 1 + 1) pr.length D rfl hown hn _ _ _ rfl rfl hkey _ [] (plainElem_int Tryd.underlying3 hwf) ?_; intro w1 hown1 hg1; obtain ⟨c4', y5', b2', r2'⟩ := HG.out w1 hg1; have c2' := b2'.cell; have H2B : Hid (Boxed w1 (B0 + 1 + 1) 34 lv) := b2'; have H2R : Hid (RowT w1 lv (nmL (nds (pre m) pr))) := r2'; have H2G : Hid (Y.grownBy w1 (some (B0 + 1 + 1 + 1))) := hg1; clear b2' r2' hg1 c4 y5)
          | (refine wpListIn_lookup_own_int _ rfl _ _ 80 rfl 9 3 .i64 law9 Tryd.underlying80 Tryd.underlying3 (zero3 _) (B0 + 1 + 1 + 1) (pr.length + 1) _ rfl hown1 _ _ rfl hkey ?_; intro cc hat hwc; obtain rfl : cc = ((0 : Nat) : Int) + 1 := lit_inj (hat.symm.trans hat1); clear hat hwc)
          | (refine wpListIn_append_own_at _ rfl (.tmp 34) (.tmp 37) 34 rfl 0 9 i0 _ 1 16 Tryd.underlying34 h0 hz0 hz1 hz2 rfl (by decide) lv (nmL (nds (pre m) pr)).length _ rfl (H2R.out.alloc _) ⟨w1.heap.size, 0, none⟩ 1 1 [.string T.h.x] rfl rfl (World.news_of_block (heap_new w1 _)) (by intro u hu; simp at hu; rw [hu]; rfl) (by unfold maxLen; omega) (by omega) (Nat.zero_le _) ?_; intro v' w2 r1 r2 _ r4; have hrow2 := Row.snoc (x := fun _ => .string T.h.x) r1 rfl (one_s T.h.x); obtain ⟨al, cl, el, _, _⟩ := hrow2.form; subst el; have hb9 : Boxed w2 (B0 + 1 + 1) 34 lv := ((r2.block (B0 + 1 + 1) (by rw [size_alloc]; have := H2B.out.lt; omega) (fun e => box_ne H2B.out H2R.out e.symm)).trans (Below.heap_alloc _ _ _ H2B.out.lt)).trans H2B.out; have c9 := hb9.cell; have f9 := hb9.frozen; have HR1 : Hid (_) := r1; have HR2 : Hid (_) := r2; have HR4 : Hid (_) := r4; clear r1 r2 r4 hrow2 hb9))
        obtain ⟨q1, q2, q3⟩ := Ri.reg1 (.inr trivial) HR.out HE.out H2G.out (HMp.out w1 hown1) HNM2.out HMK.out (by rw [HB0.out]; omega) (by rw [HB0.out]; omega) (by omega) (by omega) HB2.out HRW.out HNB.out Hbl.out.size HR1.out HR2.out HR4.out
        exact ⟨q2, (by first | exact q3 | (rw [HB0.out] at q3; exact q3)), q1⟩
      · have HC0 : Hid (¬ ct = 0) := hc0
        have hcp : 1 ≤ (ct : Int) := by omega
        generalize (ct : Int) = ci at hat0 hat1 hwf hc1 HMp hcp
        have hcn : (ci + 1 == 1) = false := beq_false_of_ne (by omega)
        have hcn2 : ¬ ci + 1 = 1 := by omega
        clear hc0
        unfold Nd.vals hdA
        gi_wp2_with (first
          | (refine wpListIn_lookup_own_int _ rfl _ _ 80 rfl 9 3 .i64 law9 Tryd.underlying80 Tryd.underlying3 (zero3 _) (B0 + 1 + 1 + 1) pr.length D rfl hown _ _ rfl hkey ?_; intro cc hat hwc; obtain rfl : ci = cc := (lit_inj (hat.symm.trans hat0)).symm; clear hat hwc)
          | (refine wpListIn_mapUpdate_own _ rfl _ _ _ 80 rfl 9 3 law9 Tryd.underlying80 _ (B0 + 1 + 1 + 1) pr.length D rfl hown hn _ _ _ rfl rfl hkey _ [] (plainElem_int Tryd.underlying3 hwf) ?_; intro w1 hown1 hg1; obtain ⟨c4', y5', b2', r2'⟩ := HG.out w1 hg1; have H2G : Hid (Y.grownBy w1 (some (B0 + 1 + 1 + 1))) := hg1; clear b2' r2' hg1 c4 y5)
          | (refine wpListIn_lookup_own_int _ rfl _ _ 80 rfl 9 3 .i64 law9 Tryd.underlying80 Tryd.underlying3 (zero3 _) (B0 + 1 + 1 + 1) (pr.length + 1) _ rfl hown1 _ _ rfl hkey ?_; intro cc hat hwc; obtain rfl : cc = ci + 1 := lit_inj (hat.symm.trans hat1); clear hat hwc))
        obtain ⟨q1, q2, q3⟩ := HR.out.reg0 HE.out H2G.out (HMp.out w1 hown1) (HNM.out.trans (if_neg HC0.out)) HMK.out (by rw [HB0.out]; omega)
        exact ⟨q2, (by first | exact q3 | (rw [HB0.out] at q3; exact q3)), q1⟩
    have H2 : Hid (T.h.k ≠ 2) := k2
    have H3 : Hid (¬ (T.h.k = 3 ∨ T.h.k = 4)) := fun h => h.elim k3 k4
    clear hb2 hrow hnb y5 hlen c1 f1 y4
    unfold Nd.vals hdA
    gi_wp2
    exact ⟨⟨Nat.le_refl _, fun _ _ _ h _ => h⟩, Kd.refl _ _, HR.out.idle HE.out H2.out H3.out⟩
  case done =>
    rintro D xs W hD rfl hR hK
    obtain ⟨lv, hb2, hrow, hnb⟩ := hR.b2
    have hb1 := hR.b1
    rw [nds_all, mkL_cut] at hb1
    rw [nds_all, nmL_cut] at hrow
    have c1 := hb1.cell
    have c2 := hb2.cell
    have HD : Hid (W.heap[D]? = some (.deferred (some []))) := hK
    have HM : Hid (Below w.heap.size w W) := hR.m
    have HRW : Hid (RowT W lv (nmL (pre m))) := hrow
    have HNB : Hid (∀ k, lv.ownBlock = some k → w.heap.size ≤ k) := hnb
    obtain ⟨al, cl, el, _, _⟩ := hrow.form
    clear hK hR hb1 hb2 hrow hnb
    subst el
    go_upto_region 14 with fail
    go_quiet (fail)
    have HM2 : Hid (Below w.heap.size w (W.drewN nq)) := below_drew HM.out nq
    have HD2 : Hid ((W.drewN nq).heap[D]? = some (.deferred (some []))) := HD.out
    go_wp2_with fail
    refine leaves_marks (v := .tuple #[.int .u16 (mkL (pre m)), .slice al (nmL (pre m)).length cl]) [D] (W.drewN nq) (by simp) (fun D' hD' => by simp at hD'; rw [hD']; exact HD2.out) (fun W' mv => ⟨results_t23 rfl _ _, _, rfl, ?_, HNB.out, ?_⟩)
    · refine Row.of_block HRW.out (fun k hk => mv.block k (HRW.out.lt k hk) (fun e => ?_))
      simp at e
      obtain ⟨c, fz, hc⟩ := HRW.out.kind k hk
      rw [e, HD.out] at hc
      cases hc
    · exact ((Mv.ofBelow HM2.out).trans mv (fun b e => .inr (by simp at e; rw [e]; have := Hbl.out.size; omega))).toBelow
  case stop =>
    intro D c pre W _ h1 h2 _
    exact absurd h2 (by simp)
end Go.Proofs.YtighocmdlifheaaDoor
