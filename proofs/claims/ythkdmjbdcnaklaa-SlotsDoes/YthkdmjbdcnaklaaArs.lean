/-
  Stores into an arena, and how an arena moves on.
-/
import Derived.Test.YthkdmjbdcnaklaaDown
namespace Go.Proofs.Ythkdmjbdcnaklaa
open Go.RowKit

def upd {X : Type} (f : Nat → X) (n : Nat) (x : X) (k : Nat) : X := if k = n then x else f k
theorem upd_same {X : Type} (f : Nat → X) (n : Nat) (x : X) : upd f n x n = x := by simp [upd]
theorem upd_other {X : Type} (f : Nat → X) {n k : Nat} (x : X) (h : k ≠ n) : upd f n x k = f k := by simp [upd, h]

variable {X : Type} {tA tC : TypeId} {enc : X → Value} {w : World} {p : Pl} {s : St X}

/-- The types of the blocks part them. -/
structure Tys (tA tC : TypeId) : Prop where
  a1 : tA ≠ 61
  a2 : tA ≠ tC
  a3 : tA ≠ 3
  c1 : tC ≠ 61
  c3 : tC ≠ 3

theorem Ar.ltA (h : Ar tA tC enc w p s) : p.A < w.heap.size := (Array.getElem?_eq_some_iff.1 h.own).1
theorem Ar.ltR (h : Ar tA tC enc w p s) : p.R < w.heap.size := h.rows.lt p.R rfl
theorem Ar.kindA (h : Ar tA tC enc w p s) {e : TypeId} {c : Array Value} {fz : Nat × Nat} (hk : w.heap[p.A]? = some (.cells c e fz)) : tA = e := by
  rw [h.own] at hk; simp at hk; exact hk.2.1
theorem Ar.AR (h : Ar tA tC enc w p s) (t : Tys tA tC) : p.A ≠ p.R := by
  intro e
  obtain ⟨c, fz, hk⟩ := h.rows.kind p.R rfl
  rw [← e] at hk
  exact t.a1 (h.kindA hk)
theorem Ar.gA (h : Ar tA tC enc w p s) (t : Tys tA tC) {g : Nat} (hg : p.ca = some ⟨g, 0, none⟩) : g ≠ p.A := by
  intro e
  have hc := h.cells
  rw [hg] at hc
  obtain ⟨c, fz, hk⟩ := hc.kind g rfl
  rw [e] at hk
  exact t.a2 (h.kindA hk)
theorem Ar.gR (h : Ar tA tC enc w p s) (t : Tys tA tC) {g : Nat} (hg : p.ca = some ⟨g, 0, none⟩) : g ≠ p.R := by
  intro e
  have hc := h.cells
  rw [hg] at hc
  exact hc.apart h.rows t.c1 g rfl (by rw [e]; rfl)
theorem ownB (ao : Option Addr) (n c : Nat) : (Value.slice ao n c).ownBlock = ao.map (·.block) := by cases ao <;> rfl

theorem Ar.drew (h : Ar tA tC enc w p s) : Ar tA tC enc w.drew p s := ⟨h.own, h.rows, h.cells, h.freed⟩
theorem Ar.drewN (h : Ar tA tC enc w p s) (n : Nat) : Ar tA tC enc (w.drewN n) p s := ⟨h.own, h.rows, h.cells, h.freed⟩

/-- A store into the row of the rows' ends. -/
theorem Ar.storeR (h : Ar tA tC enc w p s) (t : Tys tA tC) {s' : St X} (j : Nat) (u : Value) (e : s' = { s with fi := s'.fi, la := s'.la, co := s'.co })
    (hf : ∀ i, i < s.nr * 3 → (if i = j then u else rowF s i) = rowF s' i) : Ar tA tC enc (w.setCell ⟨p.R, j, none⟩ u) p s' := by
  have hb : ∀ k, k ≠ p.R → (w.setCell ⟨p.R, j, none⟩ u).heap[k]? = w.heap[k]? := fun k hk => Below.heap_setCell _ _ _ _ hk
  have e1 : s'.nr = s.nr := by rw [e]
  have e2 : s'.room = s.room := by rw [e]
  have e3 : s'.nc = s.nc := by rw [e]
  have e4 : s'.nf = s.nf := by rw [e]
  have e5 : cellF enc s' = cellF enc s := by funext i; unfold cellF; rw [e]
  have e6 : freeF s' = freeF s := by funext i; unfold freeF; rw [e]
  refine ⟨?_, ?_, ?_, ?_⟩
  · rw [hb _ (h.AR t), e1, e2, e3, e4]; exact h.own
  · rw [e1]; exact (h.rows.set j u).congr hf
  · rw [e3, e5]
    refine h.cells.of_block (fun k hk => hb k ?_)
    rintro rfl
    exact h.cells.apart h.rows t.c1 _ hk rfl
  · rw [e4, e6]
    refine h.freed.of_block (fun k hk => hb k ?_)
    rintro rfl
    exact h.freed.apart h.rows (by decide) _ hk rfl

/-- A store into the row of the cells. -/
theorem Ar.storeC (h : Ar tA tC enc w p s) (t : Tys tA tC) {g : Nat} (hg : p.ca = some ⟨g, 0, none⟩) {s' : St X} (j : Nat) (u : Value) (e : s' = { s with th := s'.th, rw := s'.rw, bk := s'.bk, nx := s'.nx })
    (hf : ∀ i, i < s.nc * 4 → (if i = j then u else cellF enc s i) = cellF enc s' i) : Ar tA tC enc (w.setCell ⟨g, j, none⟩ u) p s' := by
  have hb : ∀ k, k ≠ g → (w.setCell ⟨g, j, none⟩ u).heap[k]? = w.heap[k]? := fun k hk => Below.heap_setCell _ _ _ _ hk
  have e1 : s'.nr = s.nr := by rw [e]
  have e2 : s'.room = s.room := by rw [e]
  have e3 : s'.nc = s.nc := by rw [e]
  have e4 : s'.nf = s.nf := by rw [e]
  have e5 : rowF s' = rowF s := by funext i; unfold rowF; rw [e]
  have e6 : freeF s' = freeF s := by funext i; unfold freeF; rw [e]
  have hc := h.cells
  rw [hg] at hc
  refine ⟨?_, ?_, ?_, ?_⟩
  · rw [hb _ (fun e => h.gA t hg e.symm), e1, e2, e3, e4]; exact h.own
  · rw [e1, e5]
    refine h.rows.of_block (fun k hk => hb k ?_)
    rintro rfl
    exact hc.apart h.rows t.c1 _ rfl hk
  · rw [e3, hg]; exact (hc.set j u).congr hf
  · rw [e4, e6]
    refine h.freed.of_block (fun k hk => hb k ?_)
    rintro rfl
    exact hc.apart h.freed t.c3 _ rfl hk

theorem Ar.setFi (h : Ar tA tC enc w p s) (t : Tys tA tC) (i : Nat) (x : Int) : Ar tA tC enc (w.setCell ⟨p.R, i * 3, none⟩ (.int .i64 x)) p { s with fi := upd s.fi i x } := by
  refine h.storeR t _ _ rfl (fun j _ => ?_)
  unfold rowF upd
  dsimp only
  by_cases h0 : j = i * 3
  · rw [if_pos h0, if_pos (by omega), if_pos (by omega)]
  · rw [if_neg h0]
    by_cases h1 : j % 3 = 0
    · rw [if_pos h1, if_pos h1, if_neg (by omega)]
    · rw [if_neg h1, if_neg h1]
theorem Ar.setLa (h : Ar tA tC enc w p s) (t : Tys tA tC) (i : Nat) (x : Int) : Ar tA tC enc (w.setCell ⟨p.R, i * 3 + 1, none⟩ (.int .i64 x)) p { s with la := upd s.la i x } := by
  refine h.storeR t _ _ rfl (fun j _ => ?_)
  unfold rowF upd
  dsimp only
  by_cases h0 : j = i * 3 + 1
  · rw [if_pos h0, if_neg (by omega), if_pos (by omega), if_pos (by omega)]
  · rw [if_neg h0]
    by_cases h1 : j % 3 = 0
    · rw [if_pos h1, if_pos h1]
    · rw [if_neg h1, if_neg h1]
      by_cases h2 : j % 3 = 1
      · rw [if_pos h2, if_pos h2, if_neg (by omega)]
      · rw [if_neg h2, if_neg h2]
theorem Ar.setCo (h : Ar tA tC enc w p s) (t : Tys tA tC) (i : Nat) (x : Int) : Ar tA tC enc (w.setCell ⟨p.R, i * 3 + 2, none⟩ (.int .i64 x)) p { s with co := upd s.co i x } := by
  refine h.storeR t _ _ rfl (fun j _ => ?_)
  unfold rowF upd
  dsimp only
  by_cases h0 : j = i * 3 + 2
  · rw [if_pos h0, if_neg (by omega), if_neg (by omega), if_pos (by omega)]
  · rw [if_neg h0]
    by_cases h1 : j % 3 = 0
    · rw [if_pos h1, if_pos h1]
    · rw [if_neg h1, if_neg h1]
      by_cases h2 : j % 3 = 1
      · rw [if_pos h2, if_pos h2]
      · rw [if_neg h2, if_neg h2, if_neg (by omega)]

theorem Ar.setTh (h : Ar tA tC enc w p s) (t : Tys tA tC) {g : Nat} (hg : p.ca = some ⟨g, 0, none⟩) (i : Nat) (x : X) : Ar tA tC enc (w.setCell ⟨g, i * 4, none⟩ (enc x)) p { s with th := upd s.th i x } := by
  refine h.storeC t hg _ _ rfl (fun j _ => ?_)
  unfold cellF upd
  dsimp only
  by_cases h0 : j = i * 4
  · rw [if_pos h0, if_pos (by omega), if_pos (by omega)]
  · rw [if_neg h0]
    by_cases h1 : j % 4 = 0
    · rw [if_pos h1, if_pos h1, if_neg (by omega)]
    · rw [if_neg h1, if_neg h1]
theorem Ar.setRw (h : Ar tA tC enc w p s) (t : Tys tA tC) {g : Nat} (hg : p.ca = some ⟨g, 0, none⟩) (i : Nat) (x : Int) : Ar tA tC enc (w.setCell ⟨g, i * 4 + 1, none⟩ (.int .i64 x)) p { s with rw := upd s.rw i x } := by
  refine h.storeC t hg _ _ rfl (fun j _ => ?_)
  unfold cellF upd
  dsimp only
  by_cases h0 : j = i * 4 + 1
  · rw [if_pos h0, if_neg (by omega), if_pos (by omega), if_pos (by omega)]
  · rw [if_neg h0]
    by_cases h1 : j % 4 = 0
    · rw [if_pos h1, if_pos h1]
    · rw [if_neg h1, if_neg h1]
      by_cases h2 : j % 4 = 1
      · rw [if_pos h2, if_pos h2, if_neg (by omega)]
      · rw [if_neg h2, if_neg h2]
theorem Ar.setBk (h : Ar tA tC enc w p s) (t : Tys tA tC) {g : Nat} (hg : p.ca = some ⟨g, 0, none⟩) (i : Nat) (x : Int) : Ar tA tC enc (w.setCell ⟨g, i * 4 + 2, none⟩ (.int .i64 x)) p { s with bk := upd s.bk i x } := by
  refine h.storeC t hg _ _ rfl (fun j _ => ?_)
  unfold cellF upd
  dsimp only
  by_cases h0 : j = i * 4 + 2
  · rw [if_pos h0, if_neg (by omega), if_neg (by omega), if_pos (by omega), if_pos (by omega)]
  · rw [if_neg h0]
    by_cases h1 : j % 4 = 0
    · rw [if_pos h1, if_pos h1]
    · rw [if_neg h1, if_neg h1]
      by_cases h2 : j % 4 = 1
      · rw [if_pos h2, if_pos h2]
      · rw [if_neg h2, if_neg h2]
        by_cases h3 : j % 4 = 2
        · rw [if_pos h3, if_pos h3, if_neg (by omega)]
        · rw [if_neg h3, if_neg h3]
theorem Ar.setNx (h : Ar tA tC enc w p s) (t : Tys tA tC) {g : Nat} (hg : p.ca = some ⟨g, 0, none⟩) (i : Nat) (x : Int) : Ar tA tC enc (w.setCell ⟨g, i * 4 + 3, none⟩ (.int .i64 x)) p { s with nx := upd s.nx i x } := by
  refine h.storeC t hg _ _ rfl (fun j _ => ?_)
  unfold cellF upd
  dsimp only
  by_cases h0 : j = i * 4 + 3
  · rw [if_pos h0, if_neg (by omega), if_neg (by omega), if_neg (by omega), if_pos (by omega)]
  · rw [if_neg h0]
    by_cases h1 : j % 4 = 0
    · rw [if_pos h1, if_pos h1]
    · rw [if_neg h1, if_neg h1]
      by_cases h2 : j % 4 = 1
      · rw [if_pos h2, if_pos h2]
      · rw [if_neg h2, if_neg h2]
        by_cases h3 : j % 4 = 2
        · rw [if_pos h3, if_pos h3]
        · rw [if_neg h3, if_neg h3, if_neg (by omega)]

/-- The blocks of an arena. -/
def Foot (p : Pl) (k : Nat) : Prop := k = p.A ∨ k = p.R ∨ p.ca.map (·.block) = some k ∨ p.fa.map (·.block) = some k
/-- An arena has moved on: what is not its own lies as it lay; what is its own now was so, or is new. -/
structure Stp (w : World) (p : Pl) (w' : World) (p' : Pl) : Prop where
  A : p'.A = p.A
  mv : Mv w w' (Foot p)
  foot : ∀ k, Foot p' k → Foot p k ∨ w.heap.size ≤ k
theorem Stp.refl (w : World) (p : Pl) : Stp w p w p := ⟨rfl, Mv.refl _ _, fun _ h => .inl h⟩
theorem Stp.trans {w w' w'' : World} {p p' p'' : Pl} (h : Stp w p w' p') (k : Stp w' p' w'' p'') : Stp w p w'' p'' :=
  ⟨k.A.trans h.A, h.mv.trans k.mv h.foot, fun b hb => (k.foot b hb).elim (h.foot b) (fun e => .inr (Nat.le_trans h.mv.size e))⟩
theorem Stp.quiet {w w' : World} (p : Pl) (h : Mv w w' (fun _ => False)) : Stp w p w' p := ⟨rfl, h.mono (fun _ e => e.elim), fun _ h => .inl h⟩
theorem Stp.setCell {w w' : World} {p p' : Pl} (h : Stp w p w' p') {a : Addr} (ha : Foot p' a.block) (u : Value) : Stp w p (w'.setCell a u) p' := ⟨h.A, h.mv.setCell (h.foot _ ha) u, h.foot⟩
theorem Stp.drew {w w' : World} {p p' : Pl} (h : Stp w p w' p') : Stp w p w'.drew p' := ⟨h.A, h.mv.drew, h.foot⟩
theorem Stp.drewN {w w' : World} {p p' : Pl} (h : Stp w p w' p') (n : Nat) : Stp w p (w'.drewN n) p' := ⟨h.A, ⟨h.mv.os, h.mv.tape, h.mv.output, h.mv.size, h.mv.block⟩, h.foot⟩

theorem Ar.mv {w' : World} {F : Nat → Prop} (h : Ar tA tC enc w p s) (m : Mv w w' F) (hF : ∀ k, Foot p k → ¬ F k) : Ar tA tC enc w' p s :=
  ⟨(m.block _ h.ltA (hF _ (.inl rfl))).trans h.own, m.row h.rows (fun k hk => hF k (.inr (.inl (by simp [Value.ownBlock] at hk; exact hk.symm)))), m.row h.cells (fun k hk => hF k (.inr (.inr (.inl (by rwa [ownB] at hk))))),
    m.row h.freed (fun k hk => hF k (.inr (.inr (.inr (by rwa [ownB] at hk)))))⟩
theorem Ar.quiet {w' : World} (h : Ar tA tC enc w p s) (m : Mv w w' (fun _ => False)) : Ar tA tC enc w' p s := h.mv m (fun _ _ e => e)
theorem Ar.lt (h : Ar tA tC enc w p s) : ∀ k, Foot p k → k < w.heap.size := by
  rintro k (rfl | rfl | hk | hk)
  · exact h.ltA
  · exact h.ltR
  · exact h.cells.lt k (by rw [ownB]; exact hk)
  · exact h.freed.lt k (by rw [ownB]; exact hk)

/-- The freed numbers of an arena, by themselves; and back. -/
theorem Ar.fd (h : Ar tA tC enc w p s) (t : Tys tA tC) : Fd w p.A tA (.slice (some ⟨p.R, 0, none⟩) s.nr s.nr) (.int .i64 s.room) (.slice p.ca s.nc p.cc) p.fa p.fc s.nf s.fr := ⟨h.own, h.freed, t.a3⟩
theorem Ar.of_fd {w' : World} {fa' : Option Addr} {fc' nf' : Nat} {f' : Nat → Int} (h : Ar tA tC enc w p s) (t : Tys tA tC) (m : Mv w w' (Ft p.A p.fa))
    (k : Fd w' p.A tA (.slice (some ⟨p.R, 0, none⟩) s.nr s.nr) (.int .i64 s.room) (.slice p.ca s.nc p.cc) fa' fc' nf' f') : Ar tA tC enc w' { p with fa := fa', fc := fc' } { s with nf := nf', fr := f' } := by
  refine ⟨k.own, m.row h.rows ?_, m.row h.cells ?_, k.row⟩
  · intro b hb
    have hR : b = p.R := by simp [Value.ownBlock] at hb; exact hb.symm
    subst hR
    rintro (e | e)
    · exact h.AR t e.symm
    · exact h.freed.apart h.rows (by decide) p.R (by rw [ownB]; exact e) rfl
  · intro b hb
    rintro (e | e)
    · subst e
      obtain ⟨c, fz, hk⟩ := h.cells.kind p.A hb
      exact t.a2 (h.kindA hk)
    · exact h.cells.apart h.freed t.c3 b hb (by rw [ownB]; exact e)
theorem stp_of_fd {w' : World} {fa' : Option Addr} {fc' : Nat} (m : Mv w w' (Ft p.A p.fa)) (hf : ∀ k, fa'.map (·.block) = some k → p.fa.map (·.block) = some k ∨ w.heap.size ≤ k) : Stp w p w' { p with fa := fa', fc := fc' } :=
  ⟨rfl, m.mono (fun b e => e.elim .inl (fun e => .inr (.inr (.inr e)))), fun k hk => by
    rcases hk with e | e | e | e
    · exact .inl (.inl e)
    · exact .inl (.inr (.inl e))
    · exact .inl (.inr (.inr (.inl e)))
    · exact (hf k e).elim (fun e => .inl (.inr (.inr (.inr e)))) .inr⟩

end Go.Proofs.Ythkdmjbdcnaklaa
