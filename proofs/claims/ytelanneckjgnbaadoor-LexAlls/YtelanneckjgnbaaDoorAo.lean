/-
  Plain: the tokens that All goes through are told apart by their places; the marks that loops over functions leave.
-/
import Derived.Test.YtelanneckjgnbaaDoorAi
import Derived.Laws.EntriesVeiled
namespace Go.Proofs.YtelanneckjgnbaaDoor
open Go.RowKit Go.Shelf
set_option linter.unusedVariables false
attribute [local go_sem] Oper.semAt_some

theorem beg_rise {s : ByteArray} : ∀ (d f : Nat), s.size - f ≤ d → f ≤ s.size → (∀ t ∈ (begO s f).1, (f : Int) ≤ t.p) ∧ (begO s f).1.Pairwise (fun a b => a.p < b.p) := by
  have base : ∀ f, f ≤ s.size → oneE s f = 0 → (f : Int) ≤ (oneT s f).p := fun f hf hE => by
    have := one_fine s f hf hE
    rw [this.1]; omega
  intro d
  induction d with
  | zero =>
    intro f hd hf
    by_cases hE : oneE s f = 0
    · by_cases hk : (oneT s f).k = 0
      · rw [beg_end hE hk]; exact ⟨fun t ht => by rw [List.mem_singleton] at ht; rw [ht]; exact base f hf hE, List.pairwise_singleton _ _⟩
      · have := beg_more hf hE hk; omega
    · rw [beg_bad hE]; exact ⟨fun t ht => by simp at ht, List.Pairwise.nil⟩
  | succ d ih =>
    intro f hd hf
    by_cases hE : oneE s f = 0
    · by_cases hk : (oneT s f).k = 0
      · rw [beg_end hE hk]; exact ⟨fun t ht => by rw [List.mem_singleton] at ht; rw [ht]; exact base f hf hE, List.pairwise_singleton _ _⟩
      · obtain ⟨b1, b2, b3, b4⟩ := beg_more hf hE hk
        obtain ⟨i1, i2⟩ := ih (oneQ s f) (by omega) b2
        rw [b4]
        have hb := base f hf hE
        have hx := (one_fine s f hf hE).2.2.2 hk
        refine ⟨fun t ht => ?_, ?_⟩
        · rw [List.mem_cons] at ht
          rcases ht with rfl | ht
          · exact hb
          · have := i1 t ht; omega
        · exact List.Pairwise.cons (fun t ht => by have := i1 t ht; omega) i2
    · rw [beg_bad hE]; exact ⟨fun t ht => by simp at ht, List.Pairwise.nil⟩
theorem allL_sub (s : ByteArray) : (allL s).Pairwise (fun a b => a.p < b.p) ∧ ∀ t ∈ allL s, t.k ≠ 0 := by
  unfold allL
  split
  · exact ⟨List.Pairwise.nil, fun t ht => by simp at ht⟩
  · have hr := (beg_rise (s := s) s.size 0 (by omega) (by omega)).2
    by_cases e : (begO s 0).2.1 = 0
    · unfold allF
      rw [if_pos e]
      refine ⟨hr.sublist (List.dropLast_sublist _), ?_⟩
      have hc := (beg_chain (s := s) s.size 0 (by omega) (by omega) e).1
      have hall : ∀ (f : Nat) (L : List Tk), Chain s f L → ∀ t ∈ L.dropLast, t.k ≠ 0 := by
        intro f L hc
        induction hc with
        | fin f h1 h2 => intro t ht; simp at ht
        | more f p t L hg hp h1 h2 h3 h4 h5 ih =>
          intro u hu
          rw [List.dropLast_cons_of_ne_nil (List.length_pos_iff.1 h5.len), List.mem_cons] at hu
          rcases hu with rfl | hu
          · exact hg.kk
          · exact ih u hu
      exact hall _ _ hc
    · unfold allF
      rw [if_neg e]
      exact ⟨hr, beg_kinds _ 0 (Nat.le_refl _) (by omega) e⟩
/-- Two tokens of the list, or one of it and one beyond, are told apart. -/
theorem tok_ne {s : ByteArray} {L : List Tk} (hL : L = allL s) {x k : Nat} (hk : k < L.length) (hx : x ≠ k) : ((lsF L x).k == (lsF L k).k) = false ∨ ((lsF L x).p == (lsF L k).p) = false := by
  obtain ⟨h1, h2⟩ := allL_sub s
  rw [← hL] at h1 h2
  have gk : lsF L k = L[k] := by unfold lsF; rw [List.getD_eq_getElem?_getD, List.getElem?_eq_getElem hk]; rfl
  by_cases hxl : x < L.length
  · right
    have gx : lsF L x = L[x] := by unfold lsF; rw [List.getD_eq_getElem?_getD, List.getElem?_eq_getElem hxl]; rfl
    rw [gk, gx]
    rw [List.pairwise_iff_getElem] at h1
    by_cases hlt : x < k
    · have := h1 x k hxl hk hlt
      exact beq_false_of_ne (by omega)
    · have := h1 k x hk hxl (by omega)
      exact beq_false_of_ne (by omega)
  · left
    have gx : lsF L x = tk0 := by unfold lsF; rw [List.getD_eq_getElem?_getD, List.getElem?_eq_none (by omega)]; rfl
    rw [gx]
    have := h2 _ (lsF_mem hk)
    exact beq_false_of_ne (fun e => this (by rw [← e]; rfl))
/-- The marks that loops over functions have left. -/
def dmark (D : Nat) : Deferred := { target := .collected D, args := #[] }
theorem leaves_marks {fn : Func} {tmps : Array Value} {R : Ending → World → Prop} {v : Value} (Ds : List Nat) : ∀ (W : World), Ds.Nodup → (∀ D, D ∈ Ds → W.heap[D]? = some (.deferred (some []))) →
    (∀ W', Mv W W' (fun k => k ∈ Ds) → (results fn tmps).run Tryd.prog W' = .ok v W' ∧ R (.returned v) W') → LeavesInM Fence.wide 3 Tryd.prog fn tmps R (Ds.map dmark) .returning W := by
  induction Ds with
  | nil => intro W _ _ h; exact ⟨v, (h W (Mv.refl _ _)).1, (h W (Mv.refl _ _)).2⟩
  | cons D Ds ih =>
    intro W hnd hD h
    rw [List.nodup_cons] at hnd
    have h0 := hD D (by simp)
    refine ⟨by simp, .inl ⟨D, _, rfl, run_takeDeferred h0, ?_⟩⟩
    have hput : Mv W (W.putObj D (.deferred none)) (fun k => k = D) := ⟨rfl, rfl, rfl, by simp, fun k _ hk => World.putObj_heap_other (fun e => hk e)⟩
    refine ih _ hnd.2 (fun D' hD' => ?_) (fun W' m => h W' ?_)
    · rw [World.putObj_heap_other (fun e => hnd.1 (by rw [← e]; exact hD'))]
      exact hD D' (by simp [hD'])
    · exact (hput.mono (F' := fun k => k ∈ D :: Ds) (fun b e => by rw [e]; simp)).trans m (fun b e => .inl (by simp [e]))
theorem not_prefix {pre : List Nat} {x m : Nat} (hx : x ≠ pre.length) : ¬ (pre ++ [x]) <+: List.range m := by
  rintro ⟨r, hr⟩
  have h1 : (List.range m)[pre.length]? = some x := by rw [← hr]; simp
  by_cases h : pre.length < m
  · rw [List.getElem?_range h] at h1
    exact hx (Option.some.inj h1).symm
  · rw [List.getElem?_eq_none (by simpa using Nat.le_of_not_lt h)] at h1
    cases h1
theorem keeps_mv {W W' : World} {F : Nat → Prop} (m : Mv W W' F) (B : Nat) (hF : ∀ k, F k → ∀ o, W.heap[k]? = some o → o.isCells = true) : KeepsFrom B W W' :=
  ⟨m.size, fun k o _ hk ho => (m.block k (Array.getElem?_eq_some_iff.1 hk).1 (fun e => by rw [hF k e o hk] at ho; cases ho)).trans hk⟩
theorem range_next {pre : List Nat} {k : Nat} (h : pre = List.range k) : pre ++ [k] = List.range (pre ++ [k]).length ∧ (pre ++ [k]).length = k + 1 := by
  have e2 : pre.length = k := by rw [h]; simp
  refine ⟨?_, by simp [e2]⟩
  rw [List.length_append, e2, List.length_singleton, List.range_succ, ← h]
end Go.Proofs.YtelanneckjgnbaaDoor
