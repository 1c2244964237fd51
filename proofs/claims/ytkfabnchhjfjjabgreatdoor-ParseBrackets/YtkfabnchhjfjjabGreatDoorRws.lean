/-
  errnoIn, placeIn, Wrong.
-/
import Derived.Test.YtkfabnchhjfjjabGreatDoorRwr
namespace Go.Proofs.YtkfabnchhjfjjabGreatDoor
open Go.RowKit Go.Extern.Stop Go.Stop Go.Extern
set_option maxRecDepth 100000 in
theorem errnoIn_any {w : World} {v : Value} {n p : Int} (h : Er w v n p) (hg : Ety w) :
    Calls Tryz.prog 17 #[v] w fun e w' => e = .returned (.int .i64 n) ∧ Below w.heap.size w w' := by
  have b1 := below_new w (.cells #[.int .i64 0] 25)
  have n1 := heap_new w (.cells #[.int .i64 0] 25)
  have HB1 : Hid (Below w.heap.size w (w.alloc (.cells #[.int .i64 0] 25))) := b1
  have s1 := size_alloc w (.cells #[.int .i64 0] 25)
  have cA := as49E_any (h.on b1) (hg.on b1) ⟨w.heap.size, 0, none⟩ _ (cell_of n1 0) (frozen_of n1 0)
  have HN : Hid ((w.alloc (.cells #[.int .i64 0] 25)).heap[w.heap.size]? = some (.cells #[.int .i64 0] 25) ∧ (w.alloc (.cells #[.int .i64 0] 25)).heap.size = w.heap.size + 1) := ⟨n1, s1⟩
  obtain ⟨T, x, rfl⟩ := h.face
  clear b1 n1 s1 h hg
  go_enter Tryz.func17, Tryz.ntmps17
  go_wp2_with fail
  refine cA.mono ?_
  rintro e w1 ⟨b, rfl, hh⟩
  clear cA
  rcases hh with ⟨rfl, V, hV, eV⟩ | ⟨rfl, hn, hV⟩
  · have hv : V.heap[w.heap.size]? = some (.cells #[.int .i64 0] 25 (0, 0)) := (hV.block _ (by rw [HN.out.2]; omega)).trans HN.out.1
    have c1 : w1.cell? ⟨w.heap.size, 0, none⟩ = some (.int .i64 n) := by
      rw [eV]; exact cell_of (heap_set (j := 0) (.int .i64 n) hv) 0
    have HB : Hid (Below w.heap.size w w1) := by
      show Below _ _ _
      rw [eV]
      exact ((Mv.ofBelow (below2 HB1.out hV)).setCell (F := fun _ => False) (a := ⟨w.heap.size, 0, none⟩) (.inr (Nat.le_refl _)) _).toBelow
    clear hv hV eV HN HB1
    go_wp2_with fail
    go_ret
    exact ⟨rfl, HB.out⟩
  · have HB : Hid (Below w.heap.size w w1) := below2 HB1.out hV
    subst hn
    clear hV HN HB1
    go_wp2_with fail
    go_ret
    exact ⟨rfl, HB.out⟩
set_option maxRecDepth 100000 in
theorem placeIn_any {w : World} {v : Value} {n p : Int} (h : Er w v n p) (hg : Ety w) :
    Calls Tryz.prog 18 #[v] w fun e w' => e = .returned (.int .i64 p) ∧ Below w.heap.size w w' := by
  have b1 := below_new w (.cells #[.pointer none] 75)
  have n1 := heap_new w (.cells #[.pointer none] 75)
  have HB1 : Hid (Below w.heap.size w (w.alloc (.cells #[.pointer none] 75))) := b1
  have s1 := size_alloc w (.cells #[.pointer none] 75)
  have cA := asF1_any (h.on b1) (hg.on b1) ⟨w.heap.size, 0, none⟩ _ (cell_of n1 0) (frozen_of n1 0)
  have HN : Hid ((w.alloc (.cells #[.pointer none] 75)).heap[w.heap.size]? = some (.cells #[.pointer none] 75) ∧ (w.alloc (.cells #[.pointer none] 75)).heap.size = w.heap.size + 1) := ⟨n1, s1⟩
  obtain ⟨T, x, rfl⟩ := h.face
  clear b1 n1 s1 h hg
  go_enter Tryz.func18, Tryz.ntmps18
  go_wp2_with fail
  refine cA.mono ?_
  rintro e w1 ⟨b, rfl, hh⟩
  clear cA
  rcases hh with ⟨rfl, F, c, er, hF, V, hV, eV⟩ | ⟨rfl, hn, hV⟩
  · have hv : V.heap[w.heap.size]? = some (.cells #[.pointer none] 75 (0, 0)) := (hV.block _ (by rw [HN.out.2]; omega)).trans HN.out.1
    have c1 : w1.cell? ⟨w.heap.size, 0, none⟩ = some (.pointer (some ⟨F, 0, none⟩)) := by
      rw [eV]; exact cell_of (heap_set (j := 0) (.pointer (some ⟨F, 0, none⟩)) hv) 0
    have hF' : V.heap[F]? = some (.cells #[.string c, .int .i64 p, er] 77 (0, 0)) := (hV.block _ (Array.getElem?_eq_some_iff.1 hF).1).trans hF
    have c2 : w1.cell? ⟨F, 1, none⟩ = some (.int .i64 p) := by
      rw [eV]
      refine cell_of ((Below.heap_setCell V ⟨w.heap.size, 0, none⟩ (.pointer (some ⟨F, 0, none⟩)) F ?_).trans hF') 1
      intro e
      have e' : F = w.heap.size := e
      rw [e', hv] at hF'
      cases hF'
    have HB : Hid (Below w.heap.size w w1) := by
      show Below _ _ _
      rw [eV]
      exact ((Mv.ofBelow (below2 HB1.out hV)).setCell (F := fun _ => False) (a := ⟨w.heap.size, 0, none⟩) (.inr (Nat.le_refl _)) _).toBelow
    clear hv hV eV HN HB1 hF hF'
    go_wp2_with fail
    go_ret
    exact ⟨rfl, HB.out⟩
  · have HB : Hid (Below w.heap.size w w1) := below2 HB1.out hV
    subst hn
    clear hV HN HB1
    go_wp2_with fail
    go_ret
    exact ⟨rfl, HB.out⟩
set_option maxRecDepth 100000 in
theorem wrong_any {w : World} {v : Value} {n p : Int} (h : Er w v n p) (hg : Ety w) :
    Calls Tryz.prog 9 #[v] w fun e w' => e = .returned (.tuple #[.int .i64 n, .int .i64 p]) ∧ Below w.heap.size w w' := by
  have cE := errnoIn_any h hg
  have HE : Hid (Er w v n p ∧ Ety w) := ⟨h, hg⟩
  obtain ⟨T, x, rfl⟩ := h.face
  clear h hg
  go_enter Tryz.func9, Tryz.ntmps9
  go_wp2_with fail
  refine cE.mono ?_
  rintro e w1 ⟨rfl, hb⟩
  have HB : Hid (Below w.heap.size w w1) := hb
  have cP := placeIn_any (HE.out.1.on hb) (HE.out.2.on hb)
  clear cE hb
  go_wp2_with fail
  refine cP.mono ?_
  rintro e w2 ⟨rfl, hb⟩
  have HB2 : Hid (Below w.heap.size w w2) := below2 HB.out hb
  clear cP hb
  go_wp2_with fail
  exact bodyPost_ret (results_t2 (p := 2) (u := 3) rfl _ _) rfl ⟨rfl, HB2.out⟩
set_option maxRecDepth 100000 in
theorem wrong_nil (w : World) :
    Calls Tryz.prog 9 #[.nilIface] w fun e w' => e = .returned (.tuple #[.int .i64 0, .int .i64 0]) ∧ w' = w := by
  go_enter Tryz.func9, Tryz.ntmps9
  go_wp2_with fail
  exact bodyPost_ret (results_t2 (p := 2) (u := 3) rfl _ _) rfl ⟨rfl, rfl⟩
end Go.Proofs.YtkfabnchhjfjjabGreatDoor
