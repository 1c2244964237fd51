/-
  The walk of slots.New.
-/
import Derived.Test.YthkdmjbdcnaklaaPutS
import Derived.Test.YthkdmjbdcnaklaaNewI
import Derived.Laws.MakeOwn
namespace Go.Proofs.Ythkdmjbdcnaklaa
open Go.RowKit







theorem newBadS (rows room : Int) (h : newOk rows room = false) (w : World) :
    Calls Try.prog 9 #[.int .i64 rows, .int .i64 room] w fun e w' => e = .returned (.tuple #[.pointer none, .int .i64 1]) ∧ w' = w := by
  have hh : ¬ (1 ≤ rows ∧ rows ≤ 65536 ∧ 0 ≤ room ∧ room ≤ 65536) := by rw [← newOk_iff, h]; simp
  by_cases a : rows < 1
  · go_enter Try.func9, Try.ntmps9
    go_wp2_with fail
    go_ret2
    exact ⟨rfl, rfl⟩
  · by_cases b : 65536 < rows
    · go_enter Try.func9, Try.ntmps9
      go_wp2_with fail
      go_ret2
      exact ⟨rfl, rfl⟩
    · by_cases c : room < 0
      · go_enter Try.func9, Try.ntmps9
        go_wp2_with fail
        go_ret2
        exact ⟨rfl, rfl⟩
      · have d : 65536 < room := by omega
        go_enter Try.func9, Try.ntmps9
        go_wp2_with fail
        go_ret2
        exact ⟨rfl, rfl⟩





theorem new_startS (w : World) (n : Nat) (room : Int) (hn : n ≤ 65536) :
    ArS ((w.alloc (.cells (madeCells #[.int .i64 0, .int .i64 0, .int .i64 0] (n * 3)) 61)).alloc (.cells #[.slice (some ⟨w.heap.size, 0, none⟩) n n, .int .i64 room, .slice none 0 0, .slice none 0 0] 67)) (newP w) (partS n room (⟨#[]⟩ : ByteArray) 0) := by
  refine ⟨?_, ?_, Row.nil _ _ _ _, Row.nil _ _ _ _⟩
  · have := heap_alloc_new (w.alloc (.cells (madeCells #[.int .i64 0, .int .i64 0, .int .i64 0] (n * 3)) 61)) (.cells #[.slice (some ⟨w.heap.size, 0, none⟩) n n, .int .i64 room, .slice none 0 0, .slice none 0 0] 67)
    rw [World.size_alloc] at this
    exact this
  · have := World.ownsRow_lit (base := 0) (e := 61) (size := 3) w (madeCells #[.int .i64 0, .int .i64 0, .int .i64 0] (n * 3)) n (Nat.zero_le _) (by simp only [maxLen]; omega) (size_madeCells _ _)
    rw [made_three] at this
    exact (World.ownsRow.alloc this _ : Row _ 61 3 _ n (rowF (partS n 0 (0 : Int) 0)))

set_option maxRecDepth 100000 in
set_option maxHeartbeats 1000000 in
theorem newGoS (n : Nat) (room : Int) (hn : 1 ≤ n) (hn2 : n ≤ 65536) (h0 : 0 ≤ room) (h1 : room ≤ 65536) (w : World) :
    Calls Try.prog 9 #[.int .i64 n, .int .i64 room] w fun e w' => e = .returned (.tuple #[.pointer (some ⟨w.heap.size + 1, 0, none⟩), .int .i64 0]) ∧ ArS w' (newP w) (newS n room (⟨#[]⟩ : ByteArray)) ∧ Mv w w' (fun _ => False) := by
  obtain ⟨i0, hi, hz0, hz1, hz2⟩ := info_parts Try.info61
  have hmk : ∀ W : World, (Instr.makeSlice 55 (.int .i64 (n : Int)) (.int .i64 (n : Int))).run Try.prog W = .ok (.slice (some ⟨W.heap.size, 0, none⟩) n n) (W.alloc (.cells (madeCells #[.int .i64 0, .int .i64 0, .int .i64 0] (n * 3)) 61)) := by
    intro W
    have := run_make (P := Try.prog) W 55 61 i0 _ Try.underlying55 hi hz0 .i64 .i64 (n : Int) (n : Int) (by omega) (Int.le_refl _) (by rw [hz2]; omega) (by omega)
    rw [this, hz1]
    rfl
  have hst := new_startS w n room hn2
  obtain ⟨w0, hw0⟩ : ∃ W, ((w.alloc (.cells (madeCells #[.int .i64 0, .int .i64 0, .int .i64 0] (n * 3)) 61)).alloc (.cells #[.slice (some ⟨w.heap.size, 0, none⟩) n n, .int .i64 room, .slice none 0 0, .slice none 0 0] 67)) = W := ⟨_, rfl⟩
  rw [hw0] at hst
  have hm0 : Mv w w0 (fun _ => False) := by rw [← hw0]; exact ((Mv.refl w _).alloc _).alloc _
  have hc0 : w0.cell? ⟨w.heap.size + 1, 0, none⟩ = some (.slice (some ⟨w.heap.size, 0, none⟩) n n) := hst.c0
  have d1 : decide ((n : Int) < 1) = false := decide_eq_false (by omega)
  have d2 : decide (65536 < (n : Int)) = false := decide_eq_false (by omega)
  have d3 : decide (room < 0) = false := decide_eq_false (by omega)
  have d4 : decide (65536 < room) = false := decide_eq_false (by omega)
  go_enter Try.func9, Try.ntmps9
  go_wp2_with fail
  clear hw0 hmk
  go_loopw [7, 32] (fun _ vi wr => ∃ k : Nat, k ≤ n ∧ vi = .int .i64 k ∧ ArS wr (newP w) (partS n room (⟨#[]⟩ : ByteArray) k) ∧ Mv w wr (fun _ => False)) (fun _ vi _ => n - (intOf vi).toNat)
  case atStart => exact ⟨0, by omega, rfl, hst, hm0⟩
  case round =>
    obtain ⟨k, hk, rfl, har, hmv⟩ := hrel
    have hc1 : wr.cell? ⟨w.heap.size + 1, 0, none⟩ = some (.slice (some ⟨w.heap.size, 0, none⟩) n n) := har.c0
    by_cases hlt : k < n
    · have k1 := har.setFi tysS k (-1)
      have k2 := k1.setLa tysS k (-1)
      have k3 := k2.setCo tysS k 0
      have hn3 : k < (partS n room (⟨#[]⟩ : ByteArray) k).nr := hlt
      have t0 := har.fi hn3
      have t1 := k1.la hn3
      have t2 := k2.co hn3
      have t1b := har.la hn3
      have t2b := har.co hn3
      have z0 := har.rf
      have z1 := k1.rf
      have z2 := k2.rf
      simp only [show (newP w).R = w.heap.size from rfl] at t0 t1 t2 t1b t2b z0 z1 z2
      have HK : Hid (ArS (((wr.setCell ⟨w.heap.size, k * 3, none⟩ (.int .i64 (-1))).setCell ⟨w.heap.size, k * 3 + 1, none⟩ (.int .i64 (-1))).setCell ⟨w.heap.size, k * 3 + 2, none⟩ (.int .i64 0)) (newP w) (partS n room (⟨#[]⟩ : ByteArray) (k + 1))) := by
        have e : partS n room (⟨#[]⟩ : ByteArray) (k + 1) = { partS n room (⟨#[]⟩ : ByteArray) k with fi := upd (partS n room (⟨#[]⟩ : ByteArray) k).fi k (-1), la := upd (partS n room (⟨#[]⟩ : ByteArray) k).la k (-1), co := upd (partS n room (⟨#[]⟩ : ByteArray) k).co k 0 } := by
          have ef : (fun i => if i < k + 1 then (-1 : Int) else 0) = upd (fun i => if i < k then (-1 : Int) else 0) k (-1) := by
            funext i
            unfold upd
            dsimp only
            by_cases h1 : i = k
            · rw [if_pos h1, if_pos (by omega)]
            · rw [if_neg h1]
              by_cases h2 : i < k
              · rw [if_pos h2, if_pos (by omega)]
              · rw [if_neg h2, if_neg (by omega)]
          have ec : (fun _ => (0 : Int)) = upd (fun _ => (0 : Int)) k 0 := by funext i; unfold upd; split <;> rfl
          unfold partS
          dsimp only
          rw [ef, ← ec]
        show ArS _ (newP w) _
        rw [e]; exact k3
      have HM : Hid (Mv w (((wr.setCell ⟨w.heap.size, k * 3, none⟩ (.int .i64 (-1))).setCell ⟨w.heap.size, k * 3 + 1, none⟩ (.int .i64 (-1))).setCell ⟨w.heap.size, k * 3 + 2, none⟩ (.int .i64 0)) (fun _ => False)) :=
        ((hmv.setCell (a := ⟨w.heap.size, _, none⟩) (.inr (Nat.le_refl _)) _).setCell (a := ⟨w.heap.size, _, none⟩) (.inr (Nat.le_refl _)) _).setCell (a := ⟨w.heap.size, _, none⟩) (.inr (Nat.le_refl _)) _
      clear k1 k2 k3
      go_wp2_with fail
      go_round
      case rel => exact ⟨k + 1, by omega, by go_num, HK.out, HM.out⟩
      case measure => simp [intOf]; omega
    · have hke : k = n := by omega
      subst hke
      go_wp2_with fail
      go_ret2
      refine ⟨rfl, ?_, hmv⟩
      refine ⟨har.own, har.rows.congr (fun j hj => ?_), har.cells, har.freed⟩
      have hj' : j / 3 < k := by
        have : j < k * 3 := hj
        omega
      unfold rowF partS newS
      simp [hj']

end Go.Proofs.Ythkdmjbdcnaklaa
