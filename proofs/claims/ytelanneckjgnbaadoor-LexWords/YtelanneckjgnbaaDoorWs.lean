/-
  The walk of lex.Words.
-/
import Derived.Test.YtelanneckjgnbaaDoorPa
import Derived.Test.YtelanneckjgnbaaDoorMem
import Derived.Deep.OwnRows
namespace Go.Proofs.YtelanneckjgnbaaDoor
open Go.RowKit

theorem Tryd.info9 : (Tryd.prog.info? 9).map (fun i => (i.zero, i.size, i.bytes)) = some (some (.string ⟨#[]⟩), 1, 16) := by kernel_rfl
theorem row_of_heap {W : World} {b n : Nat} {t : TypeId} {z : Value} (h : W.heap[b]? = some (.cells (madeCells #[z] n) t (0, 0))) (hn : n ≤ 65536) : Row W t 1 (.slice (some ⟨b, 0, none⟩) n n) n (fun _ => z) := by
  refine ⟨by simp, .inr ⟨b, n, _, rfl, Nat.zero_le _, h, Nat.le_refl _, by simp only [maxLen]; omega, by rw [size_madeCells, Nat.mul_one], ?_⟩⟩
  rw [toList_madeCells_one, Nat.mul_one]
  apply List.ext_getElem?
  intro j
  by_cases hj : j < n
  · simp [hj]
  · simp [hj]
set_option maxRecDepth 100000 in
set_option maxHeartbeats 2000000 in
theorem wordsP_any (w : World) (ht : Tab w) : Calls Tryd.prog 23 #[] w fun e w' => e = .returned (.slice (some ⟨w.heap.size, 0, none⟩) 41 41) ∧ Row w' 9 1 (.slice (some ⟨w.heap.size, 0, none⟩) 41 41) 41 (fun j => .string (wd j)) ∧ Below w.heap.size w w' := by
  have hmk : ∀ W : World, (Instr.makeSlice 38 (.int .i64 41) (.int .i64 41)).run Tryd.prog W = .ok (.slice (some ⟨W.heap.size, 0, none⟩) 41 41) (W.alloc (.cells (madeCells #[.string ⟨#[]⟩] 41) 9)) := fun W => run_make_row' (P := Tryd.prog) 38 9 (.string ⟨#[]⟩) 16 Tryd.underlying38 Tryd.info9 rfl .i64 .i64 41 (by omega) (by omega) W
  have HR0 : Hid (Row (w.alloc (.cells (madeCells #[.string ⟨#[]⟩] 41) 9)) 9 1 (.slice (some ⟨w.heap.size, 0, none⟩) 41 41) 41 (fun j => if j < 0 then .string (wd j) else .string ⟨#[]⟩)) := (row_of_heap (heap_new w _) (by omega)).congr (fun j _ => by simp)
  have HB0 : Hid (Below w.heap.size w (w.alloc (.cells (madeCells #[.string ⟨#[]⟩] 41) 9))) := below_new w _
  have HT := ht.hid
  have h0 : 0 < w.heap.size := World.block_lt_of_cell? w ⟨0, 0, none⟩ (ht.cell 0 (by decide))
  clear ht
  obtain ⟨W, eW⟩ : ∃ W, w.alloc (.cells (madeCells #[.string ⟨#[]⟩] 41) 9) = W := ⟨_, rfl⟩
  rw [eW] at HR0 HB0
  go_enter Tryd.func23, Tryd.ntmps23
  go_wp2_with fail
  clear eW hmk
  go_loopw [4] (fun x wr => ∃ i : Nat, i ≤ 41 ∧ x = .int .i64 i ∧ Below w.heap.size w wr ∧ Row wr 9 1 (.slice (some ⟨w.heap.size, 0, none⟩) 41 41) 41 (fun j => if j < i then .string (wd j) else .string ⟨#[]⟩)) (fun x _ => 41 - (intOf x).toNat)
  case atStart => exact ⟨0, by omega, rfl, HB0.out, HR0.out⟩
  case round =>
    obtain ⟨i, hi, rfl, hb, hr⟩ := hrel
    clear HR0 HB0
    have HB : Hid (Below w.heap.size w wr) := hb
    have HR : Hid (Row wr 9 1 (.slice (some ⟨w.heap.size, 0, none⟩) 41 41) 41 (fun j => if j < i then .string (wd j) else .string ⟨#[]⟩)) := hr
    by_cases hlt : i < 41
    · have hlt' : (i : Int) < 41 := by omega
      have hc := (HT.out.on hb).cell i hlt
      have hz := hr.cell (j := i) (by omega)
      rw [if_neg (by omega)] at hz
      have hf := hr.frozen i
      obtain ⟨x, ex⟩ : ∃ x, wd i = x := ⟨_, rfl⟩
      rw [ex] at hc
      have HX : Hid (wd i = x) := ex
      clear hb hr ex
      go_wp2_with fail
      refine ⟨⟨i + 1, by omega, by go_num, HB.out.setCell (p := ⟨w.heap.size, i, none⟩) (Nat.le_refl _) _, (HR.out.set i (.string x)).congr (fun j _ => ?_)⟩, by simp only [intOf]; omega⟩
      by_cases e : j = i
      · subst e; rw [if_pos rfl, if_pos (by omega), HX.out]
      · rw [if_neg e]
        by_cases e2 : j < i
        · rw [if_pos e2, if_pos (by omega)]
        · rw [if_neg e2, if_neg (by omega)]
    · obtain rfl : i = 41 := by omega
      clear hb hr
      go_wp2_with fail
      go_ret
      exact ⟨rfl, HR.out.congr (fun j hj => by rw [if_pos (by omega)]), HB.out⟩
end Go.Proofs.YtelanneckjgnbaaDoor
