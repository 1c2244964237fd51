/-
  A node gets one kid more.
-/
import Derived.Test.YtighocmdlifheaaDoorTx
namespace Go.Proofs.YtighocmdlifheaaDoor
open Go.RowKit
theorem liesN0 (w : World) : Lies w nd0 := .mk _ _ _ _ ⟨by decide, by decide, by decide, by decide, by decide, by decide, by decide, by decide, by decide, by decide, by decide, by decide, by decide⟩ (Nat.le_refl _) (by decide) (fun i hi => by simp at hi) (fun k hk => by cases hk)
theorem len_ne {m k : Nd} (h : m.ks.length ≠ k.ks.length) : sameB m k = false := by
  cases m with
  | mk g a c js =>
    have h' : js.length ≠ k.ks.length := h
    simp only [sameB]
    rw [decide_eq_false h']
    simp
theorem Hole.more {w0 W Z : World} {n : Nd} {Bx b o : Nat} {q nq : Nd} {P : Nat → Prop} (h : Hole w0 W n Bx b o q nq P) (v' : Value) (hrow : RowN Z v' (q.ks ++ [nd0])) (hs : W.heap.size ≤ Z.heap.size)
    (hk : ∀ c, c < W.heap.size → c ≠ b → (Value.slice q.a q.ks.length q.c).ownBlock ≠ some c → Z.heap[c]? = W.heap[c]?) (hc : ∀ i, i ≠ o + 6 → Z.cell? ⟨b, i, none⟩ = W.cell? ⟨b, i, none⟩) (h6 : Z.cell? ⟨b, o + 6, none⟩ = some v') (hB : Below w0.heap.size w0 Z) : ∃ x, Trd w0 Z n Bx x := by
  obtain ⟨hat, hli, how, hsp, hnb, htw, hfz, hlo, hlp, hB0, hwn, hcl⟩ := h
  cases hsp with
  | mk hh a c ks _ Q ha hss hd hQ =>
  cases htw with
  | mk _ a1 _ c1 _ js _ hjs htk =>
  have hrow' : RowN Z v' (ks ++ [nd0]) := hrow
  rcases hrow'.lies with ⟨_, e2⟩ | ⟨g, cap, rfl, hc1, hc2, hkat⟩
  · exact absurd e2 (by simp)
  have own : ∀ d, P d ∨ d = b ∨ (Value.slice a ks.length c).ownBlock ≠ some d := fun d => by
    cases a with
    | none => right; right; simp [Value.ownBlock]
    | some x =>
      by_cases e : x.block = d
      · left; rw [← e]; exact (ha x rfl).1
      · right; right; simp [Value.ownBlock]; exact e
  obtain ⟨x', g1, g2, g3, g4⟩ := hcl Z (.mk hh (some ⟨g, 0, none⟩) cap (ks ++ [nd0])) ⟨hs, fun d h1 h2 h3 => by
      rcases own d with e | e | e
      · exact absurd e h3
      · exact absurd e h2
      · exact hk d h1 h2 e, fun i hi => hc i (fun e => hi ⟨by omega, by omega⟩)⟩
    ⟨(hc _ (by omega)).trans hat.c0, (hc _ (by omega)).trans hat.c1, (hc _ (by omega)).trans hat.c2, (hc _ (by omega)).trans hat.c3, (hc _ (by omega)).trans hat.c4, (hc _ (by omega)).trans hat.c5, h6, (hc _ (by omega)).trans hat.c7⟩
    (by
      cases hli with
      | mk _ _ _ _ hr hcc hm hkk hsub =>
      refine .mk _ _ _ _ hr hc1 hc2 (fun i hi => ⟨g, 0, rfl, ?_⟩) (fun z hz => ?_)
      · rw [← ldF_get hi]; exact hkat i hi
      · rcases List.mem_append.1 hz with hz | hz
        · obtain ⟨i, hi, rfl⟩ := List.getElem_of_mem hz
          refine (hsub _ hz).bk (P := Q i) (fun d h1 h2 => ?_) (hss i hi).bk
          have hdb : d ≠ b := fun e => hnb (by rw [← e]; exact hQ i d h2)
          refine hk d h1 hdb ?_
          show (Value.slice a ks.length c).ownBlock ≠ some d
          cases a with
          | none => simp [Value.ownBlock]
          | some x =>
            intro e
            have e' : x.block = d := by simpa [Value.ownBlock] using e
            exact (ha x rfl).2.2.2 i (by rw [e']; exact h2)
        · rw [List.mem_singleton.1 hz]; exact liesN0 Z)
  exact ⟨x', g1, g2, hB, g3 (len_ne (by show js.length ≠ (ks ++ [nd0]).length; simp; omega)), g4 (len_ne (by show (ks ++ [nd0]).length ≠ js.length; simp; omega))⟩
theorem Row.keep {w : World} {e : TypeId} {s n cap g j : Nat} {f : Nat → Value} (h : Row w e s (.slice (some ⟨g, 0, none⟩) n cap) n f) (u : Value) (hu : f j = u) : Row (w.setCell ⟨g, j, none⟩ u) e s (.slice (some ⟨g, 0, none⟩) n cap) n f :=
  (h.set j u).congr (fun i _ => by
    by_cases e : i = j
    · rw [if_pos e, e, hu]
    · rw [if_neg e])
theorem ndF_new (L : List Nd) (i : Nat) (hi : i < 8) : ndF (ldF (L ++ [nd0])) (L.length * 8 + i) = nd0.vals.getD i undef := by
  rw [ndF_at _ _ _ hi, ldF_at]
theorem step_node {W w0 : World} {ops : Array Oper} {o : Oper} {a : Act} {K : Act → World → Prop} {Q : Exit → Act → World → Prop} {E : Prop} (hgd : o.guard = none) (d x : Operand)
    (ho : o.op = .call { callee := .builtin .append, args := #[d, x], argTypes := #[26, 26] }) (y : Nd) {v : Value} {L : List Nd} (hR : RN W w0 v L) (hs : a.eval d = v) (hx : a.eval x = .slice (some ⟨w0.heap.size, 0, none⟩) 1 1) (hlen : L.length ≤ 1000000000)
    (h : ∀ g cap w', RN W w' (.slice (some ⟨g, 0, none⟩) (L.length + 1) cap) (L ++ [y]) → w0.heap.size ≤ w'.heap.size → (∀ b, b < w0.heap.size → v.ownBlock ≠ some b → w'.heap[b]? = w0.heap[b]?) → (v.ownBlock = some g ∨ g = w0.heap.size + 1) → K (a.put o.dst (.slice (some ⟨g, 0, none⟩) (L.length + 1) cap)) w') :
    if Region.wanted o (yielded ops a.tmps) = true then Oper.wp Tryd.prog o a (w0.alloc (.cells (y.vals) 28)) K Q else E := by
  obtain ⟨i0, hi, hz0, hz1, hz2⟩ := info_parts Tryd.info28
  refine step_append_lies _ hgd d x 26 ho 0 28 i0 _ 8 72 Tryd.underlying26 hi hz0 hz1 hz2 rfl (by decide) v L.length _ hs (hR.row.alloc _) ⟨w0.heap.size, 0, none⟩ 1 1 (y.vals).toList hx rfl (newsn_core w0 y) (onen_core y) (by decide) (by unfold maxLen; omega) (by omega) (Nat.zero_le _) _ rfl ?_
  intro g cap w' h2 h3 h4 h5
  obtain ⟨q1, q2, q3⟩ := appn_core hR h2 h3 h4
  refine h _ _ w' q1 q2 q3 ?_
  rw [size_alloc] at h4
  exact h4
theorem new_cells {W w' : World} {g cap : Nat} {L : List Nd} (h : RN W w' (.slice (some ⟨g, 0, none⟩) (L.length + 1) cap) (L ++ [nd0])) :
    (w'.cell? ⟨g, L.length * 8, none⟩ = some (.int .u8 0) ∧ w'.cell? ⟨g, L.length * 8 + 1, none⟩ = some (.int .u8 0) ∧ w'.cell? ⟨g, L.length * 8 + 2, none⟩ = some (.int .u8 0) ∧ w'.cell? ⟨g, L.length * 8 + 3, none⟩ = some (.int .i64 0) ∧ w'.cell? ⟨g, L.length * 8 + 4, none⟩ = some (.int .u8 0) ∧ w'.cell? ⟨g, L.length * 8 + 5, none⟩ = some (.string ⟨#[]⟩) ∧ w'.cell? ⟨g, L.length * 8 + 6, none⟩ = some (.slice none 0 0) ∧ w'.cell? ⟨g, L.length * 8 + 7, none⟩ = some (.int .i64 0)) ∧ (w'.frozen? ⟨g, L.length * 8, none⟩ = false ∧ w'.frozen? ⟨g, L.length * 8 + 1, none⟩ = false ∧ w'.frozen? ⟨g, L.length * 8 + 2, none⟩ = false ∧ w'.frozen? ⟨g, L.length * 8 + 3, none⟩ = false ∧ w'.frozen? ⟨g, L.length * 8 + 4, none⟩ = false ∧ w'.frozen? ⟨g, L.length * 8 + 5, none⟩ = false ∧ w'.frozen? ⟨g, L.length * 8 + 6, none⟩ = false ∧ w'.frozen? ⟨g, L.length * 8 + 7, none⟩ = false) := by
  have hr : Row w' 28 8 (.slice (some ⟨g, 0, none⟩) (L ++ [nd0]).length cap) (L ++ [nd0]).length (ndF (ldF (L ++ [nd0]))) := by
    have := h.row
    unfold RowN at this
    rw [show (L.length + 1) = (L ++ [nd0]).length by simp] at this
    exact this
  have c : ∀ i, i < 8 → w'.cell? ⟨g, L.length * 8 + i, none⟩ = some (nd0.vals.getD i undef) := fun i hi => by
    rw [Row.cell hr (by simp; omega), ndF_new L i hi]
  exact ⟨⟨c 0 (by decide), c 1 (by decide), c 2 (by decide), c 3 (by decide), c 4 (by decide), c 5 (by decide), c 6 (by decide), c 7 (by decide)⟩, Row.frozen hr _, Row.frozen hr _, Row.frozen hr _, Row.frozen hr _, Row.frozen hr _, Row.frozen hr _, Row.frozen hr _, Row.frozen hr _⟩
/-- A node of noughts is laid into a row. -/
@[reducible] def S8 (w : World) (g k : Nat) : World := ((((((((w.setCell ⟨g, k, none⟩ (.int .u8 0)).setCell ⟨g, k + 1, none⟩ (.int .u8 0)).setCell ⟨g, k + 2, none⟩ (.int .u8 0)).setCell ⟨g, k + 3, none⟩ (.int .i64 0)).setCell ⟨g, k + 4, none⟩ (.int .u8 0)).setCell ⟨g, k + 5, none⟩ (.string ⟨#[]⟩)).setCell ⟨g, k + 6, none⟩ (.slice none 0 0)).setCell ⟨g, k + 7, none⟩ (.int .i64 0))
theorem S8_row {w : World} {g cap : Nat} {L : List Nd} (h : Row w 28 8 (.slice (some ⟨g, 0, none⟩) (L.length + 1) cap) (L.length + 1) (ndF (ldF (L ++ [nd0])))) : Row (S8 w g (L.length * 8)) 28 8 (.slice (some ⟨g, 0, none⟩) (L.length + 1) cap) (L.length + 1) (ndF (ldF (L ++ [nd0]))) :=
  (Row.keep (j := L.length * 8 + 7) (Row.keep (j := L.length * 8 + 6) (Row.keep (j := L.length * 8 + 5) (Row.keep (j := L.length * 8 + 4) (Row.keep (j := L.length * 8 + 3) (Row.keep (j := L.length * 8 + 2) (Row.keep (j := L.length * 8 + 1) (Row.keep (j := L.length * 8 + 0) h (.int .u8 0) ((ndF_new L 0 (by decide)).trans rfl)) (.int .u8 0) ((ndF_new L 1 (by decide)).trans rfl)) (.int .u8 0) ((ndF_new L 2 (by decide)).trans rfl)) (.int .i64 0) ((ndF_new L 3 (by decide)).trans rfl)) (.int .u8 0) ((ndF_new L 4 (by decide)).trans rfl)) (.string ⟨#[]⟩) ((ndF_new L 5 (by decide)).trans rfl)) (.slice none 0 0) ((ndF_new L 6 (by decide)).trans rfl)) (.int .i64 0) ((ndF_new L 7 (by decide)).trans rfl))
theorem S8_size (w : World) (g k : Nat) : (S8 w g k).heap.size = w.heap.size := by simp [S8, World.setCell]
theorem S8_other (w : World) (g k : Nat) {c : Nat} (h : c ≠ g) : (S8 w g k).heap[c]? = w.heap[c]? := by
  unfold S8
  iterate 8 (refine (Below.heap_setCell _ _ _ _ (show c ≠ g from h)).trans ?_)
  rfl
theorem S8_below {B : Nat} {w0 w : World} {g : Nat} (k : Nat) (h : Below B w0 w) (hg : B ≤ g) : Below B w0 (S8 w g k) :=
  (((((((h.setCell (p := ⟨g, k, none⟩) hg _).setCell (p := ⟨g, k + 1, none⟩) hg _).setCell (p := ⟨g, k + 2, none⟩) hg _).setCell (p := ⟨g, k + 3, none⟩) hg _).setCell (p := ⟨g, k + 4, none⟩) hg _).setCell (p := ⟨g, k + 5, none⟩) hg _).setCell (p := ⟨g, k + 6, none⟩) hg _).setCell (p := ⟨g, k + 7, none⟩) hg _
theorem Hole.app {w0 W w' : World} {n : Nd} {Bx b o : Nat} {q nq : Nd} {P : Nat → Prop} (h : Hole w0 W n Bx b o q nq P) {g cap : Nat} (hr : RN w0 w' (.slice (some ⟨g, 0, none⟩) (q.ks.length + 1) cap) (q.ks ++ [nd0])) (hs : W.heap.size ≤ w'.heap.size)
    (hk : ∀ b, b < W.heap.size → (Value.slice q.a q.ks.length q.c).ownBlock ≠ some b → w'.heap[b]? = W.heap[b]?) (hbg : b ≠ g) (hob : (Value.slice q.a q.ks.length q.c).ownBlock ≠ some b) (hg : (Value.slice q.a q.ks.length q.c).ownBlock = some g ∨ g = W.heap.size + 1) :
    (∃ x, Trd w0 ((S8 w' g (q.ks.length * 8)).setCell ⟨b, o + 6, none⟩ (.slice (some ⟨g, 0, none⟩) (q.ks.length + 1) cap)) n Bx x) ∧ (∃ x, Trd w0 (S8 (w'.setCell ⟨b, o + 6, none⟩ (.slice (some ⟨g, 0, none⟩) (q.ks.length + 1) cap)) g (q.ks.length * 8)) n Bx x) := by
  have hgb : g ≠ b := fun e => hbg e.symm
  have hrow : Row w' 28 8 (.slice (some ⟨g, 0, none⟩) (q.ks.length + 1) cap) (q.ks.length + 1) (ndF (ldF (q.ks ++ [nd0]))) := by
    have := hr.row
    unfold RowN at this
    rw [show (q.ks ++ [nd0]).length = q.ks.length + 1 by simp] at this
    exact this
  have hbw : b < W.heap.size := h.at'.lt
  have ebw := hk b hbw hob
  have hlg : w0.heap.size ≤ g := hr.nb g rfl
  have hcg : ∀ c, c < W.heap.size → (Value.slice q.a q.ks.length q.c).ownBlock ≠ some c → c ≠ g := fun c h1 h2 e => by
    rcases hg with e1 | e1
    · exact h2 (by rw [e1, e])
    · omega
  have c6 : w'.cell? ⟨b, o + 6, none⟩ = some (.slice q.a q.ks.length q.c) := (World.cell?_of_block ebw).trans h.at'.c6
  refine ⟨?_, ?_⟩
  · refine h.more (.slice (some ⟨g, 0, none⟩) (q.ks.length + 1) cap) ?_ ?_ ?_ ?_ ?_ ?_
    · unfold RowN
      rw [show (q.ks ++ [nd0]).length = q.ks.length + 1 by simp]
      exact Row.of_block (S8_row hrow) (fun k hk => by
        have e : g = k := by simpa [Value.ownBlock] using hk
        subst e
        exact Below.heap_setCell _ _ _ _ hgb)
    · show _ ≤ (World.setCell _ _ _).heap.size
      have : (World.setCell (S8 w' g (q.ks.length * 8)) ⟨b, o + 6, none⟩ (.slice (some ⟨g, 0, none⟩) (q.ks.length + 1) cap)).heap.size = (S8 w' g (q.ks.length * 8)).heap.size := by simp [World.setCell]
      rw [this, S8_size]; exact hs
    · intro c h1 h2 h3
      exact (Below.heap_setCell _ _ _ _ h2).trans ((S8_other _ _ _ (hcg c h1 h3)).trans (hk c h1 h3))
    · intro i hi
      refine (World.cell?_setCell_other _ _ _ _ (fun e => ?_)).trans ((World.cell?_of_block (S8_other _ _ _ hbg)).trans (World.cell?_of_block ebw))
      have := congrArg Addr.off e
      simp at this
      omega
    · exact World.cell?_setCell_same _ _ _ ((World.cell?_of_block (S8_other _ _ _ hbg)).trans c6)
    · exact (S8_below _ hr.B hlg).setCell (p := ⟨b, o + 6, none⟩) h.lo _
  · refine h.more (.slice (some ⟨g, 0, none⟩) (q.ks.length + 1) cap) ?_ ?_ ?_ ?_ ?_ ?_
    · unfold RowN
      rw [show (q.ks ++ [nd0]).length = q.ks.length + 1 by simp]
      exact S8_row (Row.of_block hrow (fun k hk => by
        have e : g = k := by simpa [Value.ownBlock] using hk
        subst e
        exact Below.heap_setCell _ _ _ _ hgb))
    · rw [S8_size]
      have : (World.setCell w' ⟨b, o + 6, none⟩ (.slice (some ⟨g, 0, none⟩) (q.ks.length + 1) cap)).heap.size = w'.heap.size := by simp [World.setCell]
      rw [this]; exact hs
    · intro c h1 h2 h3
      exact (S8_other _ _ _ (hcg c h1 h3)).trans ((Below.heap_setCell _ _ _ _ h2).trans (hk c h1 h3))
    · intro i hi
      refine (World.cell?_of_block (S8_other _ _ _ hbg)).trans ((World.cell?_setCell_other _ _ _ _ (fun e => ?_)).trans (World.cell?_of_block ebw))
      have := congrArg Addr.off e
      simp at this
      omega
    · exact (World.cell?_of_block (S8_other _ _ _ hbg)).trans (World.cell?_setCell_same _ _ _ c6)
    · exact S8_below _ (hr.B.setCell (p := ⟨b, o + 6, none⟩) h.lo _) hlg
end Go.Proofs.YtighocmdlifheaaDoor
