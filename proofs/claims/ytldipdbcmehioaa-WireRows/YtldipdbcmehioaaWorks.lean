/-
  The chapter's examples, ahead of each statement.
-/
import Derived.Test.YtldipdbcmehioaaUn
namespace Go.Proofs.Ytldipdbcmehioaa
open Go.RowKit

theorem two_lies (w : World) (x y : Int) : Lies (w.alloc (.cells #[.int .u64 x, .int .u64 y] 29)) (some ⟨w.heap.size, 0, none⟩) 2 [x, y] := by
  refine ⟨rfl, (fun h => by cases h), fun ad had j hj => ?_⟩
  cases had
  rw [Addr.add_lit, World.cell?_alloc_mark]
  match j, hj with
  | 0, _ => rfl
  | 1, _ => rfl
theorem two_fits : Fits [300, 0] := by
  intro j
  match j with
  | 0 => decide
  | 1 => decide
  | j + 2 => simp [List.getD]
theorem ex_put : bytes (([] : List UInt8) ++ putL (nats [300, 0])) = ⟨#[172, 2, 0]⟩ := by decide +kernel
theorem ex_take : takeN [172, 2] 0 = 300 ∧ takeP [172, 2] 0 = 2 ∧ takeE [172, 2] 0 = 0 := by decide +kernel
theorem ex_long : takeP [128, 0] 0 = 0 ∧ takeE [128, 0] 0 = 31 := by decide +kernel
theorem ex_frame : frS [97] = [1, 97, 44, 41, 12, 228] ∧ frE [97] = 0 := by decide +kernel
theorem ex_un : unS [1, 97, 44, 41, 12, 228] 0 = [97] ∧ unP [1, 97, 44, 41, 12, 228] 0 = 6 ∧ unE [1, 97, 44, 41, 12, 228] 0 = 0 := by decide +kernel

set_option maxRecDepth 100000 in
set_option maxHeartbeats 1000000 in
theorem works_any (w : World) : Calls Try.prog 9 #[] w fun e w' => e = .returned (.bool true) ∧ Below w.heap.size w w' := by
  have c1 : Calls Try.prog 11 #[.string ⟨#[]⟩, .slice (some ⟨w.heap.size, 0, none⟩) 2 2] (w.alloc (.cells #[.int .u64 300, .int .u64 0] 29)) fun e w' => e = .returned (.string ⟨#[172, 2, 0]⟩) ∧ Below (w.alloc (.cells #[.int .u64 300, .int .u64 0] 29)).heap.size (w.alloc (.cells #[.int .u64 300, .int .u64 0] 29)) w' := by
    have := put_lies ⟨#[]⟩ _ 2 2 [300, 0] _ (two_lies w 300 0) (by decide) two_fits
    rw [show (⟨#[]⟩ : ByteArray).data.toList = [] from rfl, ex_put] at this
    exact this
  have C1 : Hid (Calls Try.prog 11 #[.string ⟨#[]⟩, .slice (some ⟨w.heap.size, 0, none⟩) 2 2] (w.alloc (.cells #[.int .u64 300, .int .u64 0] 29)) fun e w' => e = .returned (.string ⟨#[172, 2, 0]⟩) ∧ Below w.heap.size w w') :=
    c1.mono (fun e w' h => ⟨h.1, below2 ((Below.refl _ w).alloc (Nat.le_refl _) _) h.2⟩)
  clear c1
  have c2 : ∀ w, Calls Try.prog 26 #[.string ⟨#[172, 2]⟩, .int .i64 0] w fun e w' => e = .returned (.tuple #[.int .u64 300, .int .i64 2, .int .i64 0]) ∧ w' = w := fun w => by
    have := take_any ⟨#[172, 2]⟩ 0 (by decide) w
    rw [show (⟨#[172, 2]⟩ : ByteArray).data.toList = [172, 2] from rfl, ex_take.1, ex_take.2.1, ex_take.2.2] at this
    exact this
  have c3 : ∀ w, Calls Try.prog 26 #[.string ⟨#[128, 0]⟩, .int .i64 0] w fun e w' => (∃ x, e = .returned (.tuple #[.int .u64 x, .int .i64 0, .int .i64 31])) ∧ w' = w := fun w => by
    have := take_any ⟨#[128, 0]⟩ 0 (by decide) w
    rw [show (⟨#[128, 0]⟩ : ByteArray).data.toList = [128, 0] from rfl, ex_long.1, ex_long.2] at this
    exact this.mono (fun e w' h => ⟨⟨_, h.1⟩, h.2⟩)
  have c4 : ∀ w, Calls Try.prog 24 #[.string ⟨#[97]⟩] w fun e w' => e = .returned (.tuple #[.string ⟨#[1, 97, 44, 41, 12, 228]⟩, .int .i64 0]) ∧ Below w.heap.size w w' := fun w => by
    have := frame_any ⟨#[97]⟩ w
    rw [show (⟨#[97]⟩ : ByteArray).data.toList = [97] from rfl, ex_frame.1, ex_frame.2] at this
    exact this
  have c5 : ∀ w, Calls Try.prog 30 #[.string ⟨#[1, 97, 44, 41, 12, 228]⟩, .int .i64 0] w fun e w' => e = .returned (.tuple #[.string ⟨#[97]⟩, .int .i64 6, .int .i64 0]) ∧ Below w.heap.size w w' := fun w => by
    have := unframe_any ⟨#[1, 97, 44, 41, 12, 228]⟩ 0 (by decide) w
    rw [show (⟨#[1, 97, 44, 41, 12, 228]⟩ : ByteArray).data.toList = [1, 97, 44, 41, 12, 228] from rfl, ex_un.1, ex_un.2.1, ex_un.2.2] at this
    exact this
  go_enter Try.func9, Try.ntmps9
  go_wp2_with fail
  refine C1.out.mono ?_
  rintro e w1 ⟨rfl, hb1⟩
  go_wp2_with fail
  refine (c2 _).mono ?_
  rintro e w2 ⟨rfl, rfl⟩
  go_wp2_with fail
  refine (c3 _).mono ?_
  rintro e w2 ⟨⟨x, rfl⟩, rfl⟩
  go_wp2_with fail
  refine (c4 _).mono ?_
  rintro e w3 ⟨rfl, hb3⟩
  go_wp2_with fail
  refine (c5 _).mono ?_
  rintro e w4 ⟨rfl, hb4⟩
  go_wp2_with fail
  go_ret
  exact ⟨rfl, below2 (below2 hb1 hb3) hb4⟩
end Go.Proofs.Ytldipdbcmehioaa
