/-
  An arena that is given one cell more.
-/
import Derived.Test.YthkdmjbdcnaklaaArs
import Derived.Deep.AppendLies
namespace Go.Proofs.Ythkdmjbdcnaklaa
open Go.RowKit

def growS {X : Type} (s : St X) (x0 : X) : St X := { s with nc := s.nc + 1, th := upd s.th s.nc x0, rw := upd s.rw s.nc 0, bk := upd s.bk s.nc 0, nx := upd s.nx s.nc 0 }
def zcells {X : Type} (enc : X → Value) (x0 : X) : List Value := [enc x0, .int .i64 0, .int .i64 0, .int .i64 0]

variable {X : Type} {tA tC : TypeId} {enc : X → Value} {w : World} {p : Pl} {s : St X}

theorem cells_after (h : Ar tA tC enc w p s) (t : Tys tA tC) {x0 : X} {g' cc' : Nat} {w' : World} {o : Obj}
    (hown : w'.ownsRow 0 tC 4 (.slice (some ⟨g', 0, none⟩) (s.nc + 1) cc') (s.nc + 1) ((List.range (s.nc * 4)).map (cellF enc s) ++ zcells enc x0))
    (hgr : (w.alloc o).grownBy w' (Value.slice p.ca s.nc p.cc).ownBlock) (hlies : (Value.slice p.ca s.nc p.cc).ownBlock = some g' ∨ g' = w.heap.size + 1) :
      w'.cell? ⟨p.A, 2, none⟩ = some (.slice p.ca s.nc p.cc) ∧ w'.frozen? ⟨p.A, 2, none⟩ = false ∧
      Ar tA tC enc (w'.setCell ⟨p.A, 2, none⟩ (.slice (some ⟨g', 0, none⟩) (s.nc + 1) cc')) { p with ca := some ⟨g', 0, none⟩, cc := cc' } (growS s x0) ∧
      Stp w p (w'.setCell ⟨p.A, 2, none⟩ (.slice (some ⟨g', 0, none⟩) (s.nc + 1) cc')) { p with ca := some ⟨g', 0, none⟩, cc := cc' } := by
  have hrow : Row w' tC 4 (.slice (some ⟨g', 0, none⟩) (s.nc + 1) cc') (s.nc + 1) (cellF enc (growS s x0)) := by
    refine (Row.snoc (x := fun j => if j = 0 then enc x0 else .int .i64 0) hown rfl (by
      intro j hj
      match j, hj with
      | 0, _ => rfl
      | 1, _ => rfl
      | 2, _ => rfl
      | 3, _ => rfl)).congr (fun j hj => ?_)
    unfold cellF growS upd
    dsimp only
    by_cases hlt : j < s.nc * 4
    · rw [if_pos hlt]
      have hne : ¬ j / 4 = s.nc := by omega
      rw [if_neg hne, if_neg hne, if_neg hne, if_neg hne]
    · rw [if_neg hlt]
      have he : j / 4 = s.nc := by omega
      rw [if_pos he, if_pos he, if_pos he, if_pos he]
      by_cases h0 : j % 4 = 0
      · rw [if_pos h0, if_pos (by omega)]
      · rw [if_neg h0, if_neg (by omega)]
        split
        · rfl
        · split <;> rfl
  have hblk : ∀ k, k < w.heap.size → p.ca.map (·.block) ≠ some k → w'.heap[k]? = w.heap[k]? := fun k hk hne =>
    (hgr.block k (by simp; omega) (fun e => hne (by rw [← ownB p.ca s.nc p.cc, ← e]))).trans (Below.heap_alloc w o k hk)
  have hneA : ∀ k, p.ca.map (·.block) = some k → k ≠ p.A := by
    intro k hk e
    subst e
    obtain ⟨c, fz, h1⟩ := h.cells.kind p.A (by rw [ownB]; exact hk)
    exact t.a2 (h.kindA h1)
  have hA' : w'.heap[p.A]? = some (.cells #[.slice (some ⟨p.R, 0, none⟩) s.nr s.nr, .int .i64 s.room, .slice p.ca s.nc p.cc, .slice p.fa s.nf p.fc] tA (0, 0)) :=
    (hblk _ h.ltA (fun e => hneA _ e rfl)).trans h.own
  have hgA : g' ≠ p.A := by
    rintro rfl
    obtain ⟨c, fz, h1⟩ := hrow.kind _ rfl
    rw [hA'] at h1
    simp at h1
    exact t.a2 h1.2.1
  have hset : ∀ k, k ≠ p.A → (w'.setCell ⟨p.A, 2, none⟩ (.slice (some ⟨g', 0, none⟩) (s.nc + 1) cc')).heap[k]? = w'.heap[k]? := fun k hk => Below.heap_setCell _ _ _ _ hk
  have hgf : p.ca.map (·.block) = some g' ∨ w.heap.size ≤ g' := by
    rcases hlies with hl | hl
    · left; rwa [ownB] at hl
    · right; omega
  refine ⟨(own_cell hA').1, (own_cell hA').2, ⟨?_, ?_, ?_, ?_⟩, rfl, ?_, ?_⟩
  · show (w'.setCell ⟨p.A, 2, none⟩ _).heap[p.A]? = _
    rw [heap_setCell_same w' p.A 2 _ tA _ hA']; rfl
  · refine h.rows.of_block (fun k hk => ?_)
    have hk' : k = p.R := by simp [Value.ownBlock] at hk; exact hk.symm
    rw [hset k (by rw [hk']; exact fun e => h.AR t e.symm), hblk k (by rw [hk']; exact h.ltR) (fun e => h.cells.apart h.rows t.c1 k (by rw [ownB]; exact e) hk)]
  · exact hrow.of_block (fun k hk => hset k (by simp [Value.ownBlock] at hk; subst hk; exact hgA))
  · refine h.freed.of_block (fun k hk => ?_)
    have hkA : k ≠ p.A := by
      rintro rfl
      obtain ⟨c, fz, h1⟩ := h.freed.kind p.A hk
      exact t.a3 (h.kindA h1)
    rw [hset k hkA, hblk k (h.freed.lt k hk) (fun e => h.cells.apart h.freed t.c3 k (by rw [ownB]; exact e) hk)]
  · have hm : Mv w w' (Foot p) := ((Mv.refl w (Foot p)).alloc o).grown hgr (fun k hk => .inl (.inr (.inr (.inl (by rw [ownB] at hk; exact hk)))))
    exact hm.setCell (a := ⟨p.A, 2, none⟩) (.inl (.inl rfl)) _
  · rintro k (e | e | e | e)
    · exact .inl (.inl e)
    · exact .inl (.inr (.inl e))
    · have : g' = k := by simpa using e
      subst this
      exact hgf.elim (fun e => .inl (.inr (.inr (.inl e)))) .inr
    · exact .inl (.inr (.inr (.inr e)))

end Go.Proofs.Ythkdmjbdcnaklaa
