/-
  slices.Collect of a text's tokens: all that All goes through, as a list.
-/
import Derived.Test.YtkfabnchhjfjjabGreatDoorAi
import Derived.Test.YtkfabnchhjfjjabGreatDoorRl1
import Derived.Test.YtkfabnchhjfjjabGreatDoorLx2
import Derived.Laws.EntriesVeiled
namespace Go.Proofs.YtkfabnchhjfjjabGreatDoor
open Go.RowKit Go.Shelf
set_option linter.unusedVariables false
attribute [local go_sem] Oper.semAt_some
theorem Mv.toBelow {w w' : World} (h : Mv w w' (fun _ => False)) : Below w.heap.size w w' := h.below (Nat.le_refl _) (fun _ e => e.elim)
/-- The marks that loops over functions have left. -/
def dmark (D : Nat) : Deferred := { target := .collected D, args := #[] }
theorem leaves_marks {fn : Func} {tmps : Array Value} {R : Ending → World → Prop} {v : Value} (Ds : List Nat) : ∀ (W : World), Ds.Nodup → (∀ D, D ∈ Ds → W.heap[D]? = some (.deferred (some []))) →
    (∀ W', Mv W W' (fun k => k ∈ Ds) → (results fn tmps).run Tryz.prog W' = .ok v W' ∧ R (.returned v) W') → LeavesInM Fence.wide 3 Tryz.prog fn tmps R (Ds.map dmark) .returning W := by
  induction Ds with
  | nil => intro W _ _ h; exact ⟨v, (h W (Mv.refl _ _)).1, (h W (Mv.refl _ _)).2⟩
  | cons D Ds ih =>
    intro W hnd hD h
    rw [List.nodup_cons] at hnd
    have h0 := hD D (by simp)
    refine ⟨by simp, .inl ⟨D, _, rfl, run_takeDeferred h0, ?_⟩⟩
    have hput : Mv W (W.putObj D (.deferred none)) (fun k => k = D) := ⟨rfl, rfl, rfl, by simp, fun k _ hk => World.putObj_heap_other (fun e => hk e)⟩
    refine ih _ hnd.2 (fun D' hD' => ?_) (fun W' m => h W' ?_)
    · rw [World.putObj_heap_other (fun e => hnd.1 (by rw [← e]; exact hD'))]
      exact hD D' (by simp [hD'])
    · exact (hput.mono (F' := fun k => k ∈ D :: Ds) (fun b e => by rw [e]; simp)).trans m (fun b e => .inl (by simp [e]))
theorem append_tokenIn {F : Fence} {n : Nat} {W w0 : World} {ops : Array Oper} {rest : List Oper} {o : Oper} {a : Act} {Q : Exit → Act → World → Prop} (hgd : o.guard = none) (d x : Operand)
    (ho : o.op = .call { callee := .builtin .append, args := #[d, x], argTypes := #[24, 24] }) (y : Tk) {v : Value} {L : List Tk} (hR : RL W w0 v L) (hs : a.eval d = v) (hx : a.eval x = .slice (some ⟨w0.heap.size, 0, none⟩) 1 1) (hlen : L.length ≤ 1000000000)
    (h : ∀ v' w', RL W w' v' (L ++ [y]) → w0.heap.size ≤ w'.heap.size → (∀ b, b < w0.heap.size → v.ownBlock ≠ some b → w'.heap[b]? = w0.heap[b]?) → wpListIn F n Tryz.prog ops Q rest (a.put o.dst v') w') :
    wpListIn F n Tryz.prog ops Q (o :: rest) a (w0.alloc (.cells (tkA y) 33)) := by
  obtain ⟨i0, hi, hz0, hz1, hz2⟩ := info_parts Tryz.info33
  refine wpListIn_plain hgd fun K hK => ?_
  obtain ⟨g, cap, w', hr, h2, h3, h4, h5⟩ := run_append_lies (P := Tryz.prog) (w0.alloc (.cells (tkA y) 33)) 24 o.type 0 33 i0 _ 5 48 Tryz.underlying24 hi hz0 hz1 hz2 rfl (by decide) v L.length _ (hR.row.alloc _) ⟨w0.heap.size, 0, none⟩ 1 1 (tkA y).toList rfl (news_core w0 y) (one_core y) (by decide) (by unfold maxLen; omega) (by omega) (Nat.zero_le _) _ rfl
  obtain ⟨q1, q2, q3⟩ := app_core hR h2 h3 h4
  unfold Oper.wpIn
  refine ⟨?_, ?_⟩
  · simp [Oper.about, ho, resolve, Target.leads, Sem.run_pure]
  · rw [Oper.semAt_plain F _ _ (by rw [ho]; intro c hc'; cases hc')]
    simp [execOp, ho, resolve, invoke, builtin, hs, hx, hr, Result.andThen]
    exact hK _ _ (h _ w' q1 q2 q3)
theorem RL.sl {W w : World} {v : Value} {L : List Tk} (h : RL W w v L) : ∃ ao cap, v = .slice ao L.length cap := by
  obtain ⟨ao, c, e, _, _⟩ := Row.form h.row
  exact ⟨ao, c, e⟩
theorem RL.own {w W W' : World} {v : Value} {M : List Tk} {row : Option Nat} (h : RL w W v M) (hg : W.grownBy W' row) (hr : ∀ r, row = some r → w.heap.size ≤ r ∧ ∃ o : Obj, W.heap[r]? = some o ∧ o.isCells = false) : RL w W' v M := by
  refine ⟨h.row.kept hg ?_, h.nb, h.B.grown hg h.B.size (fun k hk => (hr k hk).1)⟩
  cases hv : v.ownBlock with
  | none => exact .inl rfl
  | some k =>
    right
    intro e
    obtain ⟨_, o, ho, hc⟩ := hr k e.symm
    obtain ⟨c, fz, hk⟩ := h.row.kind k hv
    rw [hk] at ho
    cases ho
    cases hc
theorem rl_set {w W : World} {v u : Value} {M : List Tk} {B : Nat} (h : RL w W v M) (hb : some B ≠ v.ownBlock) (hB : w.heap.size ≤ B) : RL w (W.setCell ⟨B, 0, none⟩ u) v M :=
  ⟨h.row.of_block (fun k hk => Below.heap_setCell _ _ _ _ (fun e => hb (by rw [hk]; exact congrArg some e.symm))), h.nb, ((Mv.ofBelow h.B).setCell (a := ⟨B, 0, none⟩) (.inr hB) u).toBelow⟩
theorem results_t1 {P : Program} {fn : Func} {p : Tmp} (h : fn.results = #[.tmp p]) (tmps : Array Value) (w : World) : (results fn tmps).run P w = .ok (tmps.getD p undef) w := by
  simp [results, h]
/-- What holds between two rounds. -/
def Sm (w : World) (B0 : Nat) (L : List Tk) (pre : List Nat) (W : World) : Prop := ∃ v, Boxed W B0 24 v ∧ RL w W v (pre.map (lsF L))
theorem sm_own (w : World) (B0 : Nat) (L : List Tk) {B : Nat} (hB : w.heap.size ≤ B) : OwnFrom B (Sm w B0 L) := by
  intro pre W W' row h hg hr
  obtain ⟨v, hv, hl⟩ := h
  exact ⟨v, boxed_own _ _ (fun (_ : Unit) => _) () W W' row hv hg (fun x e => (hr x e).2), hl.own hg (fun r e => ⟨Nat.le_trans hB (hr r e).1, (hr r e).2⟩)⟩
theorem tkh_own {β : Type} (B : Nat) (b : Nat) (T : Tk) (p : Prop) : OwnFrom B (fun (_ : β) W => p ∧ TkH W b T) := by
  intro _ W W' row h hg hr
  refine ⟨h.1, (hg.block b h.2.lt (fun e => ?_)).trans h.2⟩
  obtain ⟨_, o, ho, hc⟩ := hr b e.symm
  rw [show W.heap[b]? = _ from h.2] at ho
  cases ho
  cases hc
theorem keeps_kps {W W' : World} {K : Nat → Prop} (m : Kps K W W') (B : Nat) (hF : ∀ k, ¬ K k → ∀ o, W.heap[k]? = some o → o.isCells = true) : KeepsFrom B W W' :=
  ⟨m.size, fun k o _ hk ho => (m.block k (Classical.byContradiction fun e => by rw [hF k e o hk] at ho; cases ho)).trans hk⟩
theorem map_range_lsF (L : List Tk) : (List.range L.length).map (lsF L) = L := by
  refine List.ext_getElem (by simp) (fun i h1 h2 => ?_)
  simp [lsF, h2]
set_option maxRecDepth 1000000 in
set_option maxHeartbeats 8000000 in
theorem seq_any (s : ByteArray) (hs : s.size ≤ 4194304) (L : List Tk) (hL : L = allL s) (Bs : Nat) (w : World) (ht : Tab w) (hBs : Boxed w Bs 9 (.string s)) :
    Calls Tryz.prog 72 #[.slice none 0 0, .func (.func 73) #[] #[.pointer (some ⟨Bs, 0, none⟩)]] w fun e w' => ∃ v, e = .returned v ∧ RL w w' v L := by
  have hll : L.length ≤ s.size := by rw [hL]; exact allL_len s
  have HL : Hid (L = allL s) := hL
  clear hL
  refine (callsIn_wide (n := 3)).1 (callsIn_of_wp_marks Tryz.func72 rfl trivial ?_ rfl)
  refine wpIn_wide.2 ?_
  simp only [Tryz.ntmps72, List.size_toArray, List.length_cons, List.length_nil, Nat.reduceAdd, Nat.reduceSub, Array.replicate_succ, Array.replicate_zero, List.push_toArray, List.append_toArray, List.nil_append, List.cons_append]
  obtain ⟨B0, hB0⟩ : ∃ x, w.heap.size = x := ⟨_, rfl⟩
  obtain ⟨W0, hW0⟩ : ∃ V, w.alloc (.cells #[.slice none 0 0] 24) = V := ⟨_, rfl⟩
  have s0 : W0.heap.size = B0 + 1 := by rw [← hW0]; simp [hB0]
  have hbl : Below w.heap.size w W0 := by rw [← hW0]; exact below_new _ _
  have z1 : Boxed W0 B0 24 (.slice none 0 0) := by rw [← hW0, ← hB0]; exact Boxed.new w 24 _
  have lBs : Bs < B0 := by rw [← hB0]; exact hBs.lt
  have z2 : Boxed W0 Bs 9 (.string s) := (hbl.block _ hBs.lt).trans hBs
  have hT0 : Tab W0 := ht.on hbl
  have hpos : 1 < B0 := by rw [← hB0]; exact ht.pos
  have HW0 : Hid (w.alloc (.cells #[.slice none 0 0] 24) = W0) := hW0
  clear hW0
  go_wp2_with fail
  rw [HW0.out]
  have hKK : ∀ k, (k = 1 ∨ k = Bs) → k < B0 := fun k hk => by omega
  refine (wpIn_wide (n := 12)).1 ?_
  refine wpIn_rangeFunc_ownH rfl (by omega) (gf := 73) (lb := #[.pointer (some ⟨Bs, 0, none⟩)]) rfl trivial (enters_of Tryz.func73 (by kernel_rfl) rfl)
    (all_stops 11 (by omega) Bs s L HL.out W0 z2.cell hT0)
    (fun h k => h.trans k) ?hKb (Below.refl _ _) (fun _ => rfl)
    (Sm w B0 L)
    (fun _ pre _ => False)
    (sm_own w B0 L hbl.size) (fun c => ownFrom_pure _ _) ⟨_, z1, Row.nil _ _ _ _, fun k h => by simp [Value.ownBlock] at h, hbl⟩
    (fun x a' W => ∃ Bt, a' = { tmps := #[.slice none 0 0, .func (.func 73) #[] #[.pointer (some ⟨Bs, 0, none⟩)], .pointer (some ⟨B0, 0, none⟩), undef, .slice none 0 0, .pointer (some ⟨Bt, 0, none⟩), .func (.func 73) #[] #[.pointer (some ⟨Bs, 0, none⟩)], .agg (tkA (lsF L x)), undef, undef, undef, undef, undef], defers := [] } ∧ TkH W Bt (lsF L x))
    ?hAx ?assign ?body ?done ?stop
  case hKb =>
    intro W b o o' hb _ _ _
    exact ⟨by simp, fun k hk => World.putObj_heap_other (by have := hKK k hk; omega)⟩
  case hAx =>
    intro x a' u W W' row hs hg hr
    obtain ⟨Bt, e⟩ := hs
    exact ⟨Bt, tkh_own _ _ _ _ u W W' row e hg hr⟩
  case assign =>
    rintro lo pre x W K hi hK
    unfold encT
    obtain ⟨T, eT⟩ : ∃ T, lsF L x = T := ⟨_, rfl⟩
    rw [eT] at hK ⊢
    have hWs : B0 < W.heap.size := by obtain ⟨v, hv, _⟩ := hi; exact hv.lt
    have HK : Hid (∀ a', (∃ Bt, a' = _ ∧ TkH (W.alloc (.cells (tkA T) 33)) Bt T) → K a' (W.alloc (.cells (tkA T) 33))) := fun a' hA => hK a' _ (keeps_kps (K := fun k => k < W.heap.size) ⟨by simp, fun k hk => Below.heap_alloc _ _ _ hk⟩ _ (fun k hk o ho => absurd (Array.getElem?_eq_some_iff.1 ho).1 hk)) ⟨by simp, fun k hk => Below.heap_alloc _ _ _ (by have := hKK k hk; omega)⟩ ((sm_own w B0 L hbl.size).alloc _ hi) hA
    clear hK hi
    unfold tkA
    gi_wp2
    exact HK.out _ ⟨W.heap.size, rfl, heap_new _ _⟩
  case body =>
    rintro lo pre x a' W hl _ ⟨v, b1, hr⟩ ⟨Bt, rfl, hTk⟩ hlen
    obtain ⟨T, eT⟩ : ∃ T, lsF L x = T := ⟨_, rfl⟩
    rw [eT] at hTk ⊢
    obtain ⟨M, hM⟩ : ∃ M, pre.map (lsF L) = M := ⟨_, rfl⟩
    have hMl : M.length = pre.length := by rw [← hM]; simp
    rw [hM] at hr
    obtain ⟨ao, cap, rfl⟩ := hr.sl
    obtain ⟨y0, y1, y2, y3, y4⟩ := hTk.cells
    have c1 := b1.cell
    have f1 := b1.frozen
    have HR := hr.hid
    have HB1 : Hid (Boxed W B0 24 (.slice ao M.length cap)) := b1
    have HN : Hid (some B0 ≠ (Value.slice ao M.length cap).ownBlock) := b1.not_row (by decide) hr.row
    have HM : Hid ((pre ++ [x]).map (lsF L) = M ++ [T]) := by show _ = _; rw [List.map_append, hM, List.map_singleton, eT]
    have hMlt : M.length < L.length := by omega
    clear hr b1 hTk hM hMl hlen
    gi_wp2_with (gi_at_builtin; refine append_tokenIn rfl (.tmp 8) (.tmp 10) rfl T HR.out rfl rfl (by omega) ?_; intro v1 w1 hr1 hs1 hk1; obtain ⟨ao1, cap1, ev1⟩ := hr1.sl; rw [List.length_append, List.length_singleton] at ev1; subst ev1; have X1 : Boxed w1 B0 24 (.slice ao M.length cap) := (hk1 _ HB1.out.lt (fun e => HN.out e.symm)).trans HB1.out; have g1 := X1.cell; have k1 := X1.frozen; have HX1 : Hid (Boxed w1 B0 24 (.slice ao M.length cap)) := X1; have HR1 := hr1.hid; have HS1 : Hid (W.heap.size ≤ w1.heap.size) := hs1; have HK1 : Hid (∀ b, b < W.heap.size → (Value.slice ao M.length cap).ownBlock ≠ some b → w1.heap[b]? = W.heap[b]?) := hk1; clear hr1 hs1 hk1 X1)
    have HXN := HX1.out.not_row (by decide) HR1.out.row
    have hF : Kps (fun k => k < W.heap.size ∧ k ≠ B0 ∧ (Value.slice ao M.length cap).ownBlock ≠ some k) W (w1.setCell ⟨B0, 0, none⟩ (.slice ao1 (M.length + 1) cap1)) := ⟨by have := HS1.out; simpa [World.setCell] using this, fun k hk => (Below.heap_setCell _ _ _ _ hk.2.1).trans (HK1.out k hk.1 hk.2.2)⟩
    refine ⟨keeps_kps hF _ (fun k hk o ho => ?_), ⟨hF.size, fun k hk => hF.block k ⟨?_, by have := hKK k hk; omega, fun e => ?_⟩⟩, .slice ao1 (M.length + 1) cap1, ?_, ?_⟩
    · by_cases e1 : k = B0
      · rw [e1, show W.heap[B0]? = _ from HB1.out] at ho; cases ho; rfl
      · by_cases e2 : (Value.slice ao M.length cap).ownBlock = some k
        · obtain ⟨c, fz, hk⟩ := HR.out.row.kind k e2
          rw [hk] at ho; cases ho; rfl
        · exact absurd ⟨(Array.getElem?_eq_some_iff.1 ho).1, e1, e2⟩ hk
    · have := hKK k hk; have := HB1.out.lt; omega
    · have := HR.out.nb _ e; have := hKK k hk; omega
    · exact HX1.out.set _
    · rw [HM.out]; exact rl_set HR1.out HXN (by omega)
  case done =>
    rintro D xs W hD rfl ⟨v, b1, hr⟩ hK
    rw [map_range_lsF] at hr
    have c1 := b1.cell
    obtain ⟨ao, cap, rfl⟩ := hr.sl
    have HR := hr.hid
    have HD : Hid (W.heap[D]? = some (.deferred (some []))) := hK
    clear hK hr
    go_wp2_with fail
    refine leaves_marks (v := .slice ao L.length cap) [D] W (by simp) (fun D' hD' => by simp at hD'; rw [hD']; exact HD.out) (fun W' m => ⟨results_t1 (p := 4) rfl _ _, _, rfl, ?_⟩)
    have hDl := (Array.getElem?_eq_some_iff.1 HD.out).1
    refine ⟨m.row HR.out.row (fun k hk e => ?_), HR.out.nb, ((Mv.ofBelow HR.out.B).trans m (fun b e => .inr (by simp at e; have := hbl.size; omega))).toBelow⟩
    simp at e
    obtain ⟨c, fz, hk'⟩ := HR.out.row.kind k hk
    rw [e, HD.out] at hk'
    cases hk'
  case stop =>
    intro D c pre W _ h1 h2 _
    exact absurd h2 (by simp)
set_option maxRecDepth 100000 in
theorem collect_any (s : ByteArray) (hs : s.size ≤ 4194304) (Bs : Nat) (w : World) (ht : Tab w) (hBs : Boxed w Bs 9 (.string s)) :
    Calls Tryz.prog 51 #[.func (.func 73) #[] #[.pointer (some ⟨Bs, 0, none⟩)]] w fun e w' => ∃ v, e = .returned v ∧ RL w w' v (allL s) := by
  have c := seq_any s hs _ rfl Bs w ht hBs
  go_enter Tryz.func51, Tryz.ntmps51
  go_wp2_with fail
  refine c.mono ?_
  rintro e w1 ⟨v, rfl, hr⟩
  go_wp2_with fail
  go_ret
  exact ⟨_, rfl, hr⟩
end Go.Proofs.YtkfabnchhjfjjabGreatDoor
