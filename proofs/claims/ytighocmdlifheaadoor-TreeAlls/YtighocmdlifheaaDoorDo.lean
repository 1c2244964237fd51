/-
  needDo, of a thing done that halts.
-/
import Derived.Test.YtighocmdlifheaaDoorSc
import Derived.Deep.CutRange
import Derived.Deep.DeepCutAuto
import Derived.Deep.MidRow
namespace Go.Proofs.YtighocmdlifheaaDoor
open Go.RowKit
/-- What a look at a thing done reads: it halts. -/
structure Dz (w : World) (b : Nat) : Prop where
  d : w.heap[b]? = some (.cells #[.int .u8 6, .int .u8 0, .string ⟨#[]⟩, .int .u8 0, .int .u8 0, .int .u8 0, .int .i64 0, .int .u8 0, .string ⟨#[]⟩, .slice none 0 0, .int .i64 0, .int .u8 0, .int .u8 0, .int .u8 0, .int .i64 0, .int .u8 0, .string ⟨#[]⟩, .slice none 0 0, .int .i64 0, .int .u8 0, .int .u8 0, .int .u8 0, .int .i64 0, .int .u8 0, .string ⟨#[]⟩, .slice none 0 0, .int .i64 0, .int .u8 0, .int .u8 0, .int .u8 0, .int .i64 0, .int .u8 0, .string ⟨#[]⟩, .slice none 0 0, .int .i64 0, .int .i64 0] 104 (0, 0))
theorem Dz.on {w w' : World} {b : Nat} (h : Dz w b) (k : Below w.heap.size w w') : Dz w' b := ⟨(k.block b (Array.getElem?_eq_some_iff.1 h.d).1).trans h.d⟩
theorem Dz.c0 {w : World} {b : Nat} (h : Dz w b) : w.cell? ⟨b, 0, none⟩ = some (.int .u8 6) := cell_of h.d 0
theorem Dz.c1 {w : World} {b : Nat} (h : Dz w b) : w.cell? ⟨b, 1, none⟩ = some (.int .u8 0) := cell_of h.d 1
theorem Dz.c2 {w : World} {b : Nat} (h : Dz w b) : w.cell? ⟨b, 2, none⟩ = some (.string ⟨#[]⟩) := cell_of h.d 2
theorem Dz.c3 {w : World} {b : Nat} (h : Dz w b) : w.cell? ⟨b, 3, none⟩ = some (.int .u8 0) := cell_of h.d 3
theorem Dz.c4 {w : World} {b : Nat} (h : Dz w b) : w.cell? ⟨b, 4, none⟩ = some (.int .u8 0) := cell_of h.d 4
theorem Dz.c5 {w : World} {b : Nat} (h : Dz w b) : w.cell? ⟨b, 5, none⟩ = some (.int .u8 0) := cell_of h.d 5
theorem Dz.c6 {w : World} {b : Nat} (h : Dz w b) : w.cell? ⟨b, 6, none⟩ = some (.int .i64 0) := cell_of h.d 6
theorem Dz.c7 {w : World} {b : Nat} (h : Dz w b) : w.cell? ⟨b, 7, none⟩ = some (.int .u8 0) := cell_of h.d 7
theorem Dz.c8 {w : World} {b : Nat} (h : Dz w b) : w.cell? ⟨b, 8, none⟩ = some (.string ⟨#[]⟩) := cell_of h.d 8
theorem Dz.c9 {w : World} {b : Nat} (h : Dz w b) : w.cell? ⟨b, 9, none⟩ = some (.slice none 0 0) := cell_of h.d 9
theorem Dz.c10 {w : World} {b : Nat} (h : Dz w b) : w.cell? ⟨b, 10, none⟩ = some (.int .i64 0) := cell_of h.d 10
theorem Dz.c11 {w : World} {b : Nat} (h : Dz w b) : w.cell? ⟨b, 11, none⟩ = some (.int .u8 0) := cell_of h.d 11
theorem Dz.c12 {w : World} {b : Nat} (h : Dz w b) : w.cell? ⟨b, 12, none⟩ = some (.int .u8 0) := cell_of h.d 12
theorem Dz.c13 {w : World} {b : Nat} (h : Dz w b) : w.cell? ⟨b, 13, none⟩ = some (.int .u8 0) := cell_of h.d 13
theorem Dz.c14 {w : World} {b : Nat} (h : Dz w b) : w.cell? ⟨b, 14, none⟩ = some (.int .i64 0) := cell_of h.d 14
theorem Dz.c15 {w : World} {b : Nat} (h : Dz w b) : w.cell? ⟨b, 15, none⟩ = some (.int .u8 0) := cell_of h.d 15
theorem Dz.c16 {w : World} {b : Nat} (h : Dz w b) : w.cell? ⟨b, 16, none⟩ = some (.string ⟨#[]⟩) := cell_of h.d 16
theorem Dz.c17 {w : World} {b : Nat} (h : Dz w b) : w.cell? ⟨b, 17, none⟩ = some (.slice none 0 0) := cell_of h.d 17
theorem Dz.c18 {w : World} {b : Nat} (h : Dz w b) : w.cell? ⟨b, 18, none⟩ = some (.int .i64 0) := cell_of h.d 18
theorem Dz.c19 {w : World} {b : Nat} (h : Dz w b) : w.cell? ⟨b, 19, none⟩ = some (.int .u8 0) := cell_of h.d 19
theorem Dz.c20 {w : World} {b : Nat} (h : Dz w b) : w.cell? ⟨b, 20, none⟩ = some (.int .u8 0) := cell_of h.d 20
theorem Dz.c21 {w : World} {b : Nat} (h : Dz w b) : w.cell? ⟨b, 21, none⟩ = some (.int .u8 0) := cell_of h.d 21
theorem Dz.c22 {w : World} {b : Nat} (h : Dz w b) : w.cell? ⟨b, 22, none⟩ = some (.int .i64 0) := cell_of h.d 22
theorem Dz.c23 {w : World} {b : Nat} (h : Dz w b) : w.cell? ⟨b, 23, none⟩ = some (.int .u8 0) := cell_of h.d 23
theorem Dz.c24 {w : World} {b : Nat} (h : Dz w b) : w.cell? ⟨b, 24, none⟩ = some (.string ⟨#[]⟩) := cell_of h.d 24
theorem Dz.c25 {w : World} {b : Nat} (h : Dz w b) : w.cell? ⟨b, 25, none⟩ = some (.slice none 0 0) := cell_of h.d 25
theorem Dz.c26 {w : World} {b : Nat} (h : Dz w b) : w.cell? ⟨b, 26, none⟩ = some (.int .i64 0) := cell_of h.d 26
theorem Dz.c27 {w : World} {b : Nat} (h : Dz w b) : w.cell? ⟨b, 27, none⟩ = some (.int .u8 0) := cell_of h.d 27
theorem Dz.c28 {w : World} {b : Nat} (h : Dz w b) : w.cell? ⟨b, 28, none⟩ = some (.int .u8 0) := cell_of h.d 28
theorem Dz.c29 {w : World} {b : Nat} (h : Dz w b) : w.cell? ⟨b, 29, none⟩ = some (.int .u8 0) := cell_of h.d 29
theorem Dz.c30 {w : World} {b : Nat} (h : Dz w b) : w.cell? ⟨b, 30, none⟩ = some (.int .i64 0) := cell_of h.d 30
theorem Dz.c31 {w : World} {b : Nat} (h : Dz w b) : w.cell? ⟨b, 31, none⟩ = some (.int .u8 0) := cell_of h.d 31
theorem Dz.c32 {w : World} {b : Nat} (h : Dz w b) : w.cell? ⟨b, 32, none⟩ = some (.string ⟨#[]⟩) := cell_of h.d 32
theorem Dz.c33 {w : World} {b : Nat} (h : Dz w b) : w.cell? ⟨b, 33, none⟩ = some (.slice none 0 0) := cell_of h.d 33
theorem Dz.c34 {w : World} {b : Nat} (h : Dz w b) : w.cell? ⟨b, 34, none⟩ = some (.int .i64 0) := cell_of h.d 34
theorem Dz.c35 {w : World} {b : Nat} (h : Dz w b) : w.cell? ⟨b, 35, none⟩ = some (.int .i64 0) := cell_of h.d 35
theorem Dz.range {w : World} {b : Nat} (h : Dz w b) : w.rangeAt b 0 [.int .u8 6, .int .u8 0, .string ⟨#[]⟩, .int .u8 0, .int .u8 0, .int .u8 0, .int .i64 0, .int .u8 0, .string ⟨#[]⟩, .slice none 0 0, .int .i64 0, .int .u8 0, .int .u8 0, .int .u8 0, .int .i64 0, .int .u8 0, .string ⟨#[]⟩, .slice none 0 0, .int .i64 0, .int .u8 0, .int .u8 0, .int .u8 0, .int .i64 0, .int .u8 0, .string ⟨#[]⟩, .slice none 0 0, .int .i64 0, .int .u8 0, .int .u8 0, .int .u8 0, .int .i64 0, .int .u8 0, .string ⟨#[]⟩, .slice none 0 0, .int .i64 0, .int .i64 0] := fun j v hv => by
  have := cell_of h.d j
  rw [Nat.zero_add, this, ← hv]
  simp
structure Nz (w : World) (b : Nat) : Prop where
  d : w.heap[b]? = some (.cells #[.bool false, .bool false, .bool false, .bool false, .bool false, .bool false] 169 (0, 0))
theorem Nz.on {w w' : World} {b : Nat} (h : Nz w b) (k : Below w.heap.size w w') : Nz w' b := ⟨(k.block b (Array.getElem?_eq_some_iff.1 h.d).1).trans h.d⟩
theorem Nz.c0 {w : World} {b : Nat} (h : Nz w b) : w.cell? ⟨b, 0, none⟩ = some (.bool false) := cell_of h.d 0
theorem Nz.c1 {w : World} {b : Nat} (h : Nz w b) : w.cell? ⟨b, 1, none⟩ = some (.bool false) := cell_of h.d 1
theorem Nz.c2 {w : World} {b : Nat} (h : Nz w b) : w.cell? ⟨b, 2, none⟩ = some (.bool false) := cell_of h.d 2
theorem Nz.c3 {w : World} {b : Nat} (h : Nz w b) : w.cell? ⟨b, 3, none⟩ = some (.bool false) := cell_of h.d 3
theorem Nz.c4 {w : World} {b : Nat} (h : Nz w b) : w.cell? ⟨b, 4, none⟩ = some (.bool false) := cell_of h.d 4
theorem Nz.c5 {w : World} {b : Nat} (h : Nz w b) : w.cell? ⟨b, 5, none⟩ = some (.bool false) := cell_of h.d 5
set_option maxRecDepth 100000 in
set_option maxHeartbeats 4000000 in
theorem do_halt (w : World) : Calls Tryd.prog 79 #[.agg #[.int .u8 6, .int .u8 0, .string ⟨#[]⟩, .int .u8 0, .int .u8 0, .int .u8 0, .int .i64 0, .int .u8 0, .string ⟨#[]⟩, .slice none 0 0, .int .i64 0, .int .u8 0, .int .u8 0, .int .u8 0, .int .i64 0, .int .u8 0, .string ⟨#[]⟩, .slice none 0 0, .int .i64 0, .int .u8 0, .int .u8 0, .int .u8 0, .int .i64 0, .int .u8 0, .string ⟨#[]⟩, .slice none 0 0, .int .i64 0, .int .u8 0, .int .u8 0, .int .u8 0, .int .i64 0, .int .u8 0, .string ⟨#[]⟩, .slice none 0 0, .int .i64 0, .int .i64 0]] w fun e w' => e = .returned (.tuple #[]) ∧ Below w.heap.size w w' := by
  have cB := fun v => named_halt v
  have cP := fun v => part_none v
  go_enter Tryd.func79, Tryd.ntmps79
  go_upto_region 2 with (first | (go_at_call 87; refine (wU_any 87 _ _ _ _ (by simp)).mono ?_; rintro e w1 ⟨rfl, rfl⟩) | (go_at_call 63; refine (need_t _ _).mono ?_; rintro e w3 ⟨rfl, e4⟩; obtain rfl := e4.symm))
  obtain ⟨W, eW⟩ : ∃ W, w.alloc (.cells #[.int .u8 6, .int .u8 0, .string ⟨#[]⟩, .int .u8 0, .int .u8 0, .int .u8 0, .int .i64 0, .int .u8 0, .string ⟨#[]⟩, .slice none 0 0, .int .i64 0, .int .u8 0, .int .u8 0, .int .u8 0, .int .i64 0, .int .u8 0, .string ⟨#[]⟩, .slice none 0 0, .int .i64 0, .int .u8 0, .int .u8 0, .int .u8 0, .int .i64 0, .int .u8 0, .string ⟨#[]⟩, .slice none 0 0, .int .i64 0, .int .u8 0, .int .u8 0, .int .u8 0, .int .i64 0, .int .u8 0, .string ⟨#[]⟩, .slice none 0 0, .int .i64 0, .int .i64 0] 104) = W := ⟨_, rfl⟩
  have HD : Hid (Dz W w.heap.size) := by rw [← eW]; exact ⟨heap_new _ _⟩
  have HB : Hid (Below w.heap.size w W) := by rw [← eW]; exact below_new _ _
  rw [eW]
  clear eW
  go_wp2_with (refine wpList_load_mid rfl 104 (.tmp 1) rfl w.heap.size 0 rfl [.int .u8 6, .int .u8 0, .string ⟨#[]⟩, .int .u8 0, .int .u8 0, .int .u8 0, .int .i64 0, .int .u8 0, .string ⟨#[]⟩, .slice none 0 0, .int .i64 0, .int .u8 0, .int .u8 0, .int .u8 0, .int .i64 0, .int .u8 0, .string ⟨#[]⟩, .slice none 0 0, .int .i64 0, .int .u8 0, .int .u8 0, .int .u8 0, .int .i64 0, .int .u8 0, .string ⟨#[]⟩, .slice none 0 0, .int .i64 0, .int .u8 0, .int .u8 0, .int .u8 0, .int .i64 0, .int .u8 0, .string ⟨#[]⟩, .slice none 0 0, .int .i64 0, .int .i64 0] _ HD.out.range Tryd.underlying104 rfl (by kernel_rfl) ?_)
  refine (cB _).mono ?_
  rintro e w1 ⟨rfl, hb⟩
  go_upto_region 3 with fail
  obtain ⟨X, eX⟩ : ∃ X, w1.alloc (.cells #[.bool false, .bool false, .bool false, .bool false, .bool false, .bool false] 169) = X := ⟨_, rfl⟩
  have hX : Below w1.heap.size w1 X := by rw [← eX]; exact below_new _ _
  have HD1 : Hid (Dz X w.heap.size) := (HD.out.on hb).on hX
  have HN1 : Hid (Nz X w1.heap.size) := by rw [← eX]; exact ⟨heap_new _ _⟩
  have HB1 : Hid (Below w.heap.size w X) := below2 (below2 HB.out hb) hX
  obtain ⟨N, eN⟩ : ∃ N, w1.heap.size = N := ⟨_, rfl⟩
  rw [eN] at HN1
  rw [eX]
  first | rw [eN] | skip
  clear hb hX HD HB cB eX eN
  have n0 := HN1.out.c0
  have n1 := HN1.out.c1
  have c1 := HD1.out.c1
  have c2 := HD1.out.c2
  go_upto_region 9 with (go_at_call 63; refine (need_t _ _).mono ?_; rintro e w3 ⟨rfl, e4⟩; obtain rfl := e4.symm)
  clear n0 n1 c1 c2
  have m0 := HN1.out.c2
  have c3 := HD1.out.c3
  have c4 := HD1.out.c4
  have c5 := HD1.out.c5
  have c6 := HD1.out.c6
  have c7 := HD1.out.c7
  have c8 := HD1.out.c8
  have c9 := HD1.out.c9
  have c10 := HD1.out.c10
  go_wp2_with fail
  refine (cP _).mono ?_
  rintro e X2 ⟨rfl, hb⟩
  have HD2 : Hid (Dz X2 w.heap.size) := HD1.out.on hb
  have HN2 : Hid (Nz X2 N) := HN1.out.on hb
  have HB2 : Hid (Below w.heap.size w X2) := below2 HB1.out hb
  clear hb m0 c3 c4 c5 c6 c7 c8 c9 c10 HD1 HN1 HB1
  have m1 := HN2.out.c3
  have c11 := HD2.out.c11
  have c12 := HD2.out.c12
  have c13 := HD2.out.c13
  have c14 := HD2.out.c14
  have c15 := HD2.out.c15
  have c16 := HD2.out.c16
  have c17 := HD2.out.c17
  have c18 := HD2.out.c18
  go_wp2_with fail
  refine (cP _).mono ?_
  rintro e X3 ⟨rfl, hb⟩
  have HD3 : Hid (Dz X3 w.heap.size) := HD2.out.on hb
  have HN3 : Hid (Nz X3 N) := HN2.out.on hb
  have HB3 : Hid (Below w.heap.size w X3) := below2 HB2.out hb
  clear hb m1 c11 c12 c13 c14 c15 c16 c17 c18 HD2 HN2 HB2
  have m2 := HN3.out.c4
  have c19 := HD3.out.c19
  have c20 := HD3.out.c20
  have c21 := HD3.out.c21
  have c22 := HD3.out.c22
  have c23 := HD3.out.c23
  have c24 := HD3.out.c24
  have c25 := HD3.out.c25
  have c26 := HD3.out.c26
  go_wp2_with fail
  refine (cP _).mono ?_
  rintro e X4 ⟨rfl, hb⟩
  have HD4 : Hid (Dz X4 w.heap.size) := HD3.out.on hb
  have HN4 : Hid (Nz X4 N) := HN3.out.on hb
  have HB4 : Hid (Below w.heap.size w X4) := below2 HB3.out hb
  clear hb m2 c19 c20 c21 c22 c23 c24 c25 c26 HD3 HN3 HB3
  have m3 := HN4.out.c5
  have c27 := HD4.out.c27
  have c28 := HD4.out.c28
  have c29 := HD4.out.c29
  have c30 := HD4.out.c30
  have c31 := HD4.out.c31
  have c32 := HD4.out.c32
  have c33 := HD4.out.c33
  have c34 := HD4.out.c34
  go_wp2_with fail
  refine (cP _).mono ?_
  rintro e X5 ⟨rfl, hb⟩
  have HD5 : Hid (Dz X5 w.heap.size) := HD4.out.on hb
  have HN5 : Hid (Nz X5 N) := HN4.out.on hb
  have HB5 : Hid (Below w.heap.size w X5) := below2 HB4.out hb
  clear hb m3 c27 c28 c29 c30 c31 c32 c33 c34 HD4 HN4 HB4
  go_wp2_with fail
  go_end0
  exact ⟨rfl, HB5.out⟩
end Go.Proofs.YtighocmdlifheaaDoor
