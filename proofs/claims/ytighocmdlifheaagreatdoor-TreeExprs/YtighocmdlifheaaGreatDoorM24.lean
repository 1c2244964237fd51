import Derived.Test.YtighocmdlifheaaGreatDoorM22
import Derived.Deep.CutRange
import Derived.Deep.DeepCutAuto
import Derived.Deep.MidRow
import Derived.Test.YtighocmdlifheaaGreatDoorM23
import Derived.Test.YtighocmdlifheaaGreatDoorM8
/-
  needDo, of a thing done that halts.
-/
namespace Go.Proofs.YtighocmdlifheaaGreatDoor
open Go.RowKit
/-- What a look at a thing done reads: it halts. -/
structure Dz (w : World) (b : Nat) : Prop where
  d : w.heap[b]? = some (.cells #[.int .u8 6, .int .u8 0, .string ⟨#[]⟩, .int .u8 0, .int .u8 0, .int .u8 0, .int .i64 0, .int .u8 0, .string ⟨#[]⟩, .slice none 0 0, .int .i64 0, .int .u8 0, .int .u8 0, .int .u8 0, .int .i64 0, .int .u8 0, .string ⟨#[]⟩, .slice none 0 0, .int .i64 0, .int .u8 0, .int .u8 0, .int .u8 0, .int .i64 0, .int .u8 0, .string ⟨#[]⟩, .slice none 0 0, .int .i64 0, .int .u8 0, .int .u8 0, .int .u8 0, .int .i64 0, .int .u8 0, .string ⟨#[]⟩, .slice none 0 0, .int .i64 0, .int .i64 0] 96 (0, 0))
theorem Dz.on {w w' : World} {b : Nat} (h : Dz w b) (k : Below w.heap.size w w') : Dz w' b := ⟨(k.block b (Array.getElem?_eq_some_iff.1 h.d).1).trans h.d⟩
theorem Dz.c0 {w : World} {b : Nat} (h : Dz w b) : w.cell? ⟨b, 0, none⟩ = some (.int .u8 6) := cell_of h.d 0
theorem Dz.c1 {w : World} {b : Nat} (h : Dz w b) : w.cell? ⟨b, 1, none⟩ = some (.int .u8 0) := cell_of h.d 1
theorem Dz.c2 {w : World} {b : Nat} (h : Dz w b) : w.cell? ⟨b, 2, none⟩ = some (.string ⟨#[]⟩) := cell_of h.d 2
theorem Dz.c3 {w : World} {b : Nat} (h : Dz w b) : w.cell? ⟨b, 3, none⟩ = some (.int .u8 0) := cell_of h.d 3
theorem Dz.c4 {w : World} {b : Nat} (h : Dz w b) : w.cell? ⟨b, 4, none⟩ = some (.int .u8 0) := cell_of h.d 4
theorem Dz.c5 {w : World} {b : Nat} (h : Dz w b) : w.cell? ⟨b, 5, none⟩ = some (.int .u8 0) := cell_of h.d 5
theorem Dz.c6 {w : World} {b : Nat} (h : Dz w b) : w.cell? ⟨b, 6, none⟩ = some (.int .i64 0) := cell_of h.d 6
theorem Dz.c7 {w : World} {b : Nat} (h : Dz w b) : w.cell? ⟨b, 7, none⟩ = some (.int .u8 0) := cell_of h.d 7
theorem Dz.c8 {w : World} {b : Nat} (h : Dz w b) : w.cell? ⟨b, 8, none⟩ = some (.string ⟨#[]⟩) := cell_of h.d 8
theorem Dz.c9 {w : World} {b : Nat} (h : Dz w b) : w.cell? ⟨b, 9, none⟩ = some (.slice none 0 0) := cell_of h.d 9
theorem Dz.c10 {w : World} {b : Nat} (h : Dz w b) : w.cell? ⟨b, 10, none⟩ = some (.int .i64 0) := cell_of h.d 10
theorem Dz.c11 {w : World} {b : Nat} (h : Dz w b) : w.cell? ⟨b, 11, none⟩ = some (.int .u8 0) := cell_of h.d 11
theorem Dz.c12 {w : World} {b : Nat} (h : Dz w b) : w.cell? ⟨b, 12, none⟩ = some (.int .u8 0) := cell_of h.d 12
theorem Dz.c13 {w : World} {b : Nat} (h : Dz w b) : w.cell? ⟨b, 13, none⟩ = some (.int .u8 0) := cell_of h.d 13
theorem Dz.c14 {w : World} {b : Nat} (h : Dz w b) : w.cell? ⟨b, 14, none⟩ = some (.int .i64 0) := cell_of h.d 14
theorem Dz.c15 {w : World} {b : Nat} (h : Dz w b) : w.cell? ⟨b, 15, none⟩ = some (.int .u8 0) := cell_of h.d 15
theorem Dz.c16 {w : World} {b : Nat} (h : Dz w b) : w.cell? ⟨b, 16, none⟩ = some (.string ⟨#[]⟩) := cell_of h.d 16
theorem Dz.c17 {w : World} {b : Nat} (h : Dz w b) : w.cell? ⟨b, 17, none⟩ = some (.slice none 0 0) := cell_of h.d 17
theorem Dz.c18 {w : World} {b : Nat} (h : Dz w b) : w.cell? ⟨b, 18, none⟩ = some (.int .i64 0) := cell_of h.d 18
theorem Dz.c19 {w : World} {b : Nat} (h : Dz w b) : w.cell? ⟨b, 19, none⟩ = some (.int .u8 0) := cell_of h.d 19
theorem Dz.c20 {w : World} {b : Nat} (h : Dz w b) : w.cell? ⟨b, 20, none⟩ = some (.int .u8 0) := cell_of h.d 20
theorem Dz.c21 {w : World} {b : Nat} (h : Dz w b) : w.cell? ⟨b, 21, none⟩ = some (.int .u8 0) := cell_of h.d 21
theorem Dz.c22 {w : World} {b : Nat} (h : Dz w b) : w.cell? ⟨b, 22, none⟩ = some (.int .i64 0) := cell_of h.d 22
theorem Dz.c23 {w : World} {b : Nat} (h : Dz w b) : w.cell? ⟨b, 23, none⟩ = some (.int .u8 0) := cell_of h.d 23
theorem Dz.c24 {w : World} {b : Nat} (h : Dz w b) : w.cell? ⟨b, 24, none⟩ = some (.string ⟨#[]⟩) := cell_of h.d 24
theorem Dz.c25 {w : World} {b : Nat} (h : Dz w b) : w.cell? ⟨b, 25, none⟩ = some (.slice none 0 0) := cell_of h.d 25
theorem Dz.c26 {w : World} {b : Nat} (h : Dz w b) : w.cell? ⟨b, 26, none⟩ = some (.int .i64 0) := cell_of h.d 26
theorem Dz.c27 {w : World} {b : Nat} (h : Dz w b) : w.cell? ⟨b, 27, none⟩ = some (.int .u8 0) := cell_of h.d 27
theorem Dz.c28 {w : World} {b : Nat} (h : Dz w b) : w.cell? ⟨b, 28, none⟩ = some (.int .u8 0) := cell_of h.d 28
theorem Dz.c29 {w : World} {b : Nat} (h : Dz w b) : w.cell? ⟨b, 29, none⟩ = some (.int .u8 0) := cell_of h.d 29
theorem Dz.c30 {w : World} {b : Nat} (h : Dz w b) : w.cell? ⟨b, 30, none⟩ = some (.int .i64 0) := cell_of h.d 30
theorem Dz.c31 {w : World} {b : Nat} (h : Dz w b) : w.cell? ⟨b, 31, none⟩ = some (.int .u8 0) := cell_of h.d 31
theorem Dz.c32 {w : World} {b : Nat} (h : Dz w b) : w.cell? ⟨b, 32, none⟩ = some (.string ⟨#[]⟩) := cell_of h.d 32
theorem Dz.c33 {w : World} {b : Nat} (h : Dz w b) : w.cell? ⟨b, 33, none⟩ = some (.slice none 0 0) := cell_of h.d 33
theorem Dz.c34 {w : World} {b : Nat} (h : Dz w b) : w.cell? ⟨b, 34, none⟩ = some (.int .i64 0) := cell_of h.d 34
theorem Dz.c35 {w : World} {b : Nat} (h : Dz w b) : w.cell? ⟨b, 35, none⟩ = some (.int .i64 0) := cell_of h.d 35
theorem Dz.range {w : World} {b : Nat} (h : Dz w b) : w.rangeAt b 0 [.int .u8 6, .int .u8 0, .string ⟨#[]⟩, .int .u8 0, .int .u8 0, .int .u8 0, .int .i64 0, .int .u8 0, .string ⟨#[]⟩, .slice none 0 0, .int .i64 0, .int .u8 0, .int .u8 0, .int .u8 0, .int .i64 0, .int .u8 0, .string ⟨#[]⟩, .slice none 0 0, .int .i64 0, .int .u8 0, .int .u8 0, .int .u8 0, .int .i64 0, .int .u8 0, .string ⟨#[]⟩, .slice none 0 0, .int .i64 0, .int .u8 0, .int .u8 0, .int .u8 0, .int .i64 0, .int .u8 0, .string ⟨#[]⟩, .slice none 0 0, .int .i64 0, .int .i64 0] := fun j v hv => by
  have := cell_of h.d j
  rw [Nat.zero_add, this, ← hv]
  simp
structure Nz (w : World) (b : Nat) : Prop where
  d : w.heap[b]? = some (.cells #[.bool false, .bool false, .bool false, .bool false, .bool false, .bool false] 180 (0, 0))
theorem Nz.on {w w' : World} {b : Nat} (h : Nz w b) (k : Below w.heap.size w w') : Nz w' b := ⟨(k.block b (Array.getElem?_eq_some_iff.1 h.d).1).trans h.d⟩
theorem Nz.c0 {w : World} {b : Nat} (h : Nz w b) : w.cell? ⟨b, 0, none⟩ = some (.bool false) := cell_of h.d 0
theorem Nz.c1 {w : World} {b : Nat} (h : Nz w b) : w.cell? ⟨b, 1, none⟩ = some (.bool false) := cell_of h.d 1
theorem Nz.c2 {w : World} {b : Nat} (h : Nz w b) : w.cell? ⟨b, 2, none⟩ = some (.bool false) := cell_of h.d 2
theorem Nz.c3 {w : World} {b : Nat} (h : Nz w b) : w.cell? ⟨b, 3, none⟩ = some (.bool false) := cell_of h.d 3
theorem Nz.c4 {w : World} {b : Nat} (h : Nz w b) : w.cell? ⟨b, 4, none⟩ = some (.bool false) := cell_of h.d 4
theorem Nz.c5 {w : World} {b : Nat} (h : Nz w b) : w.cell? ⟨b, 5, none⟩ = some (.bool false) := cell_of h.d 5
set_option maxRecDepth 100000 in
set_option maxHeartbeats 4000000 in
theorem do_halt (w : World) : Calls Tryz.prog 133 #[.agg #[.int .u8 6, .int .u8 0, .string ⟨#[]⟩, .int .u8 0, .int .u8 0, .int .u8 0, .int .i64 0, .int .u8 0, .string ⟨#[]⟩, .slice none 0 0, .int .i64 0, .int .u8 0, .int .u8 0, .int .u8 0, .int .i64 0, .int .u8 0, .string ⟨#[]⟩, .slice none 0 0, .int .i64 0, .int .u8 0, .int .u8 0, .int .u8 0, .int .i64 0, .int .u8 0, .string ⟨#[]⟩, .slice none 0 0, .int .i64 0, .int .u8 0, .int .u8 0, .int .u8 0, .int .i64 0, .int .u8 0, .string ⟨#[]⟩, .slice none 0 0, .int .i64 0, .int .i64 0]] w fun e w' => e = .returned (.tuple #[]) ∧ Below w.heap.size w w' := by
  have cB := fun v => named_halt v
  have cP := fun v => part_none v
  go_enter Tryz.func133, Tryz.ntmps133
  go_upto_region 2 with (first | (go_at_call 145; refine (wU_any 145 _ _ _ _ (by simp)).mono ?_; rintro e w1 ⟨rfl, rfl⟩) | (go_at_call 106; refine (need_t _ _).mono ?_; rintro e w3 ⟨rfl, e4⟩; obtain rfl := e4.symm))
  obtain ⟨W, eW⟩ : ∃ W, w.alloc (.cells #[.int .u8 6, .int .u8 0, .string ⟨#[]⟩, .int .u8 0, .int .u8 0, .int .u8 0, .int .i64 0, .int .u8 0, .string ⟨#[]⟩, .slice none 0 0, .int .i64 0, .int .u8 0, .int .u8 0, .int .u8 0, .int .i64 0, .int .u8 0, .string ⟨#[]⟩, .slice none 0 0, .int .i64 0, .int .u8 0, .int .u8 0, .int .u8 0, .int .i64 0, .int .u8 0, .string ⟨#[]⟩, .slice none 0 0, .int .i64 0, .int .u8 0, .int .u8 0, .int .u8 0, .int .i64 0, .int .u8 0, .string ⟨#[]⟩, .slice none 0 0, .int .i64 0, .int .i64 0] 96) = W := ⟨_, rfl⟩
  have HD : Hid (Dz W w.heap.size) := by rw [← eW]; exact ⟨heap_new _ _⟩
  have HB : Hid (Below w.heap.size w W) := by rw [← eW]; exact below_new _ _
  rw [eW]
  clear eW
  go_wp2_with (refine wpList_load_mid rfl 96 (.tmp 1) rfl w.heap.size 0 rfl [.int .u8 6, .int .u8 0, .string ⟨#[]⟩, .int .u8 0, .int .u8 0, .int .u8 0, .int .i64 0, .int .u8 0, .string ⟨#[]⟩, .slice none 0 0, .int .i64 0, .int .u8 0, .int .u8 0, .int .u8 0, .int .i64 0, .int .u8 0, .string ⟨#[]⟩, .slice none 0 0, .int .i64 0, .int .u8 0, .int .u8 0, .int .u8 0, .int .i64 0, .int .u8 0, .string ⟨#[]⟩, .slice none 0 0, .int .i64 0, .int .u8 0, .int .u8 0, .int .u8 0, .int .i64 0, .int .u8 0, .string ⟨#[]⟩, .slice none 0 0, .int .i64 0, .int .i64 0] _ HD.out.range Tryz.underlying96 rfl (by kernel_rfl) ?_)
  refine (cB _).mono ?_
  rintro e w1 ⟨rfl, hb⟩
  go_upto_region 3 with fail
  obtain ⟨X, eX⟩ : ∃ X, w1.alloc (.cells #[.bool false, .bool false, .bool false, .bool false, .bool false, .bool false] 180) = X := ⟨_, rfl⟩
  have hX : Below w1.heap.size w1 X := by rw [← eX]; exact below_new _ _
  have HD1 : Hid (Dz X w.heap.size) := (HD.out.on hb).on hX
  have HN1 : Hid (Nz X w1.heap.size) := by rw [← eX]; exact ⟨heap_new _ _⟩
  have HB1 : Hid (Below w.heap.size w X) := below2 (below2 HB.out hb) hX
  obtain ⟨N, eN⟩ : ∃ N, w1.heap.size = N := ⟨_, rfl⟩
  rw [eN] at HN1
  rw [eX]
  first | rw [eN] | skip
  clear hb hX HD HB cB eX eN
  have n0 := HN1.out.c0
  have n1 := HN1.out.c1
  have c1 := HD1.out.c1
  have c2 := HD1.out.c2
  go_upto_region 9 with (go_at_call 106; refine (need_t _ _).mono ?_; rintro e w3 ⟨rfl, e4⟩; obtain rfl := e4.symm)
  clear n0 n1 c1 c2
  have m0 := HN1.out.c2
  have c3 := HD1.out.c3
  have c4 := HD1.out.c4
  have c5 := HD1.out.c5
  have c6 := HD1.out.c6
  have c7 := HD1.out.c7
  have c8 := HD1.out.c8
  have c9 := HD1.out.c9
  have c10 := HD1.out.c10
  go_wp2_with fail
  refine (cP _).mono ?_
  rintro e X2 ⟨rfl, hb⟩
  have HD2 : Hid (Dz X2 w.heap.size) := HD1.out.on hb
  have HN2 : Hid (Nz X2 N) := HN1.out.on hb
  have HB2 : Hid (Below w.heap.size w X2) := below2 HB1.out hb
  clear hb m0 c3 c4 c5 c6 c7 c8 c9 c10 HD1 HN1 HB1
  have m1 := HN2.out.c3
  have c11 := HD2.out.c11
  have c12 := HD2.out.c12
  have c13 := HD2.out.c13
  have c14 := HD2.out.c14
  have c15 := HD2.out.c15
  have c16 := HD2.out.c16
  have c17 := HD2.out.c17
  have c18 := HD2.out.c18
  go_wp2_with fail
  refine (cP _).mono ?_
  rintro e X3 ⟨rfl, hb⟩
  have HD3 : Hid (Dz X3 w.heap.size) := HD2.out.on hb
  have HN3 : Hid (Nz X3 N) := HN2.out.on hb
  have HB3 : Hid (Below w.heap.size w X3) := below2 HB2.out hb
  clear hb m1 c11 c12 c13 c14 c15 c16 c17 c18 HD2 HN2 HB2
  have m2 := HN3.out.c4
  have c19 := HD3.out.c19
  have c20 := HD3.out.c20
  have c21 := HD3.out.c21
  have c22 := HD3.out.c22
  have c23 := HD3.out.c23
  have c24 := HD3.out.c24
  have c25 := HD3.out.c25
  have c26 := HD3.out.c26
  go_wp2_with fail
  refine (cP _).mono ?_
  rintro e X4 ⟨rfl, hb⟩
  have HD4 : Hid (Dz X4 w.heap.size) := HD3.out.on hb
  have HN4 : Hid (Nz X4 N) := HN3.out.on hb
  have HB4 : Hid (Below w.heap.size w X4) := below2 HB3.out hb
  clear hb m2 c19 c20 c21 c22 c23 c24 c25 c26 HD3 HN3 HB3
  have m3 := HN4.out.c5
  have c27 := HD4.out.c27
  have c28 := HD4.out.c28
  have c29 := HD4.out.c29
  have c30 := HD4.out.c30
  have c31 := HD4.out.c31
  have c32 := HD4.out.c32
  have c33 := HD4.out.c33
  have c34 := HD4.out.c34
  go_wp2_with fail
  refine (cP _).mono ?_
  rintro e X5 ⟨rfl, hb⟩
  have HD5 : Hid (Dz X5 w.heap.size) := HD4.out.on hb
  have HN5 : Hid (Nz X5 N) := HN4.out.on hb
  have HB5 : Hid (Below w.heap.size w X5) := below2 HB4.out hb
  clear hb m3 c27 c28 c29 c30 c31 c32 c33 c34 HD4 HN4 HB4
  go_wp2_with fail
  go_end0
  exact ⟨rfl, HB5.out⟩
end Go.Proofs.YtighocmdlifheaaGreatDoor

/-
  awake: the chapter's examples.
-/
namespace Go.Proofs.YtighocmdlifheaaGreatDoor
open Go.RowKit
theorem alike_p (h : Hd) : alike h { h with p := 0 } = true := by simp [alike]
theorem bare_same : ∀ {m m' : Nd}, Bare m m' → sameB m m' = true := by
  intro m0 m1 h0
  refine Nd.ind (P := fun m => ∀ m', Bare m m' → sameB m m' = true) (fun h a c ks ih m' hb => ?_) m0 m1 h0
  cases hb with
  | mk _ _ a' _ c' _ ks' hl hk =>
    simp only [sameB, Nd.h, Nd.ks, alike_p, hl, decide_true, Bool.true_and]
    have : ∀ (l l' : List Nd), l'.length = l.length → (∀ k ∈ l, ∀ m', Bare k m' → sameB k m' = true) → (∀ i (h1 : i < l.length) (h2 : i < l'.length), Bare l[i] l'[i]) → samesB l l' = true := by
      intro l
      induction l with
      | nil => intro l' _ _ _; cases l' <;> rfl
      | cons k l ihl =>
        intro l' h1 h2 h3
        cases l' with
        | nil => rfl
        | cons k' l' =>
          simp only [samesB, Bool.and_eq_true]
          exact ⟨h2 k (by simp) k' (h3 0 (by simp) (by simp)), ihl l' (by simpa using h1) (fun x hx => h2 x (by simp [hx])) (fun i g1 g2 => h3 (i + 1) (by simpa using g1) (by simpa using g2))⟩
    exact this ks ks' hl ih hk
def wrongN : Nd := .mk ⟨1, 0, 6, 0, 0, ⟨#[]⟩, 0⟩ none 0 []
theorem liesWrong (w : World) : Lies w wrongN := .mk _ _ _ _ ⟨by decide, by decide, by decide, by decide, by decide, by decide, by decide, by decide, by decide, by decide, by decide, by decide, by decide⟩ (Nat.le_refl _) (by decide) (fun i hi => by simp at hi) (fun k hk => by cases hk)
theorem Least.on {w w' : World} {b2 b3 b4 : Nat} (h : Least w b2 b3 b4) (k : Below w.heap.size w w') : Least w' b2 b3 b4 :=
  ⟨(k.block b2 (Array.getElem?_eq_some_iff.1 h.h2).1).trans h.h2, (k.block b3 (Array.getElem?_eq_some_iff.1 h.h3).1).trans h.h3, (k.block b4 (Array.getElem?_eq_some_iff.1 h.h4).1).trans h.h4⟩
theorem range_blk {w : World} {b : Nat} {C : Array Value} {t : TypeId} (h : w.heap[b]? = some (.cells C t (0, 0))) : w.rangeAt b 0 C.toList := fun j v hv => by
  rw [Nat.zero_add, cell_of h j, ← hv]; simp
set_option maxRecDepth 100000 in
theorem check_least {w : World} {b2 b3 b4 : Nat} (h : Least w b2 b3 b4) (ht : Tab w) :
    Calls Tryz.prog 8 #[.agg #[.string ⟨#[115]⟩, .slice none 0 0, .slice none 0 0, .slice (some ⟨b4, 0, none⟩) 1 1]] w fun e w' => e = .returned (.int .i64 0) ∧ Below w.heap.size w w' := by
  refine check_any _ _ _ _ 0 w (fun v hv => ?_)
  have hL := h.on hv
  refine (strat_one v [.string ⟨#[97]⟩, .slice (some ⟨b3, 0, none⟩) 1 1, .int .i64 0] rfl (by simp [Value.oneCell']) (fun v2 hv2 => ?_) b4 v (Below.refl _ _) (range_blk hL.h4) (ht.on hv)).mono ?_
  · have hL2 := hL.on hv2
    refine state_one v2 [.int .u8 4, .int .u8 0, .int .u8 0, .int .i64 0, .int .u8 1, .string ⟨#[]⟩, .slice none 0 0, .int .i64 0, .slice (some ⟨b2, 0, none⟩) 1 1, .int .i64 0] rfl (by simp [Value.oneCell']) (fun v3 hv3 => ?_) b3 v2 (Below.refl _ _) (range_blk hL2.h3) ((ht.on hv).on hv2)
    have hL3 := hL2.on hv3
    exact rule_one (doZ 6) rfl (by simp [doZ, ndZ, Value.oneCell']) (fun v4 => do_halt v4) b2 v3 (range_blk hL3.h2) (((ht.on hv).on hv2).on hv3)
  · rintro e w' ⟨rfl, hb⟩
    exact ⟨.inl ⟨rfl, rfl⟩, hb⟩
set_option maxRecDepth 100000 in
theorem check_none (w : World) (ht : Tab w) :
    Calls Tryz.prog 8 #[.agg #[.string ⟨#[115]⟩, .slice none 0 0, .slice none 0 0, .slice none 0 0]] w fun e w' => e = .returned (.int .i64 120) ∧ Below w.heap.size w w' := by
  refine check_any _ _ _ _ 120 w (fun v hv => (strat_none v (ht.on hv)).mono ?_)
  rintro e w' ⟨rfl, hb⟩
  exact ⟨.inr ⟨by decide, rfl⟩, hb⟩
theorem sum_form (b c : Nat) : formB (sumN b c) = true := rfl
theorem sum_dep (b c : Nat) : dep (sumN b c) = 1 := rfl
theorem sum_size (b c : Nat) : size (sumN b c) = 5 := rfl
end Go.Proofs.YtighocmdlifheaaGreatDoor

/-
  awake: what the chapter's examples fix is so.
-/
namespace Go.Proofs.YtighocmdlifheaaGreatDoor
open Go.RowKit
theorem field71 (a0 a1 a2 a3 : Value) (v : World) : (Instr.field 26 (.agg #[a0, a1, a2, a3]) 3).run Tryz.prog v = .ok a3 v := by kernel_rfl
set_option maxRecDepth 100000 in
set_option maxHeartbeats 8000000 in
theorem awake_any (w : World) (ht : Tab w) : Calls Tryz.prog 5 #[] w fun e w' => e = .returned (.bool true) ∧ Below w.heap.size w w' := by
  have HT : Hid (Tab w) := ht
  clear ht
  have cS := sum_any w
  go_enter Tryz.func5, Tryz.ntmps5
  go_wp2_with fail
  refine cS.mono ?_
  rintro e w1 ⟨⟨b, c, rfl, hl⟩, hb1⟩
  have HL1 := hl.hid
  have HB1 : Hid (Below w.heap.size w w1) := hb1
  have HT1 : Hid (Tab w1) := HT.out.on hb1
  clear hl hb1 cS HT
  have f1 : ∀ v, Below w1.heap.size w1 v → Calls Tryz.prog 21 #[.agg #[.int .u8 6, .int .u8 6, .int .u8 0, .int .i64 0, .int .u8 0, .string ⟨#[]⟩, .slice (some ⟨c, 0, none⟩) 2 2, .int .i64 0]] v fun e w' => e = .returned (.int .i64 5) ∧ Below v.heap.size v w' := fun v hv => levelX_any (sumN b c) v (HL1.out.on hv) (HT1.out.on hv)
  have f2 : ∀ v, Below w1.heap.size w1 v → Calls Tryz.prog 22 #[.agg #[.int .u8 6, .int .u8 6, .int .u8 0, .int .i64 0, .int .u8 0, .string ⟨#[]⟩, .slice (some ⟨c, 0, none⟩) 2 2, .int .i64 0]] v fun e w' => e = .returned (.int .i64 1) ∧ Below v.heap.size v w' := fun v hv => depthX_any (sumN b c) v (HL1.out.on hv) (by rw [sum_size]; decide) (HT1.out.on hv)
  have f3 : ∀ v, Below w1.heap.size w1 v → Calls Tryz.prog 23 #[.agg #[.int .u8 6, .int .u8 6, .int .u8 0, .int .i64 0, .int .u8 0, .string ⟨#[]⟩, .slice (some ⟨c, 0, none⟩) 2 2, .int .i64 0]] v fun e w' => e = .returned (.int .i64 5) ∧ Below v.heap.size v w' := fun v hv => size_any (sumN b c) v (HL1.out.on hv) (by rw [sum_size]; decide)
  have f4 : ∀ v, Below w1.heap.size w1 v → Calls Tryz.prog 20 #[.agg #[.int .u8 6, .int .u8 6, .int .u8 0, .int .i64 0, .int .u8 0, .string ⟨#[]⟩, .slice (some ⟨c, 0, none⟩) 2 2, .int .i64 0]] v fun e w' => e = .returned (.int .i64 0) ∧ Below v.heap.size v w' := fun v hv => checkExpr_any (sumN b c) v (HL1.out.on hv) (by rw [sum_size]; decide) (HT1.out.on hv)
  have f5 : ∀ v, Below w1.heap.size w1 v → Calls Tryz.prog 20 #[.agg #[.int .u8 1, .int .u8 0, .int .u8 6, .int .i64 0, .int .u8 0, .string ⟨#[]⟩, .slice none 0 0, .int .i64 0]] v fun e w' => e = .returned (.int .i64 120) ∧ Below v.heap.size v w' := fun v hv => checkExpr_any wrongN v (liesWrong v) (by decide) (HT1.out.on hv)
  have f6 : ∀ v, Below w1.heap.size w1 v → Calls Tryz.prog 25 #[.agg #[.int .u8 6, .int .u8 6, .int .u8 0, .int .i64 0, .int .u8 0, .string ⟨#[]⟩, .slice (some ⟨c, 0, none⟩) 2 2, .int .i64 0]] v (Bared (sumN b c) v) := fun v hv => bare_any (sumN b c) v (HL1.out.on hv) (by rw [sum_size]; decide)
  rw [show (sumN b c).vals = #[.int .u8 6, .int .u8 6, .int .u8 0, .int .i64 0, .int .u8 0, .string ⟨#[]⟩, .slice (some ⟨c, 0, none⟩) 2 2, .int .i64 0] from rfl]
  go_upto_region 2 with fail
  obtain ⟨V, eV⟩ : ∃ V, w1.alloc (.cells #[.int .u8 6, .int .u8 6, .int .u8 0, .int .i64 0, .int .u8 0, .string ⟨#[]⟩, .slice (some ⟨c, 0, none⟩) 2 2, .int .i64 0] 55) = V := ⟨_, rfl⟩
  have HBV : Hid (Below w1.heap.size w1 V) := by rw [← eV]; exact below_new _ _
  have HN : Hid (V.heap[w1.heap.size]? = some (.cells #[.int .u8 6, .int .u8 6, .int .u8 0, .int .i64 0, .int .u8 0, .string ⟨#[]⟩, .slice (some ⟨c, 0, none⟩) 2 2, .int .i64 0] 55 (0, 0))) := by rw [← eV]; exact heap_new _ _
  rw [eV]
  obtain ⟨N, eN⟩ : ∃ N, w1.heap.size = N := ⟨_, rfl⟩
  rw [eN] at HN ⊢
  clear eV
  have y0 : V.cell? ⟨N, 0, none⟩ = some (.int .u8 6) := cell_of HN.out 0
  have y1 : V.cell? ⟨N, 1, none⟩ = some (.int .u8 6) := cell_of HN.out 1
  have y2 : V.cell? ⟨N, 2, none⟩ = some (.int .u8 0) := cell_of HN.out 2
  have y3 : V.cell? ⟨N, 3, none⟩ = some (.int .i64 0) := cell_of HN.out 3
  have y4 : V.cell? ⟨N, 4, none⟩ = some (.int .u8 0) := cell_of HN.out 4
  have y5 : V.cell? ⟨N, 5, none⟩ = some (.string ⟨#[]⟩) := cell_of HN.out 5
  have y6 : V.cell? ⟨N, 6, none⟩ = some (.slice (some ⟨c, 0, none⟩) 2 2) := cell_of HN.out 6
  have y7 : V.cell? ⟨N, 7, none⟩ = some (.int .i64 0) := cell_of HN.out 7
  go_wp2_with fail
  refine (f1 _ HBV.out).mono ?_
  rintro e v1 ⟨rfl, hb⟩
  have HN1 : Hid (v1.heap[N]? = some (.cells #[.int .u8 6, .int .u8 6, .int .u8 0, .int .i64 0, .int .u8 0, .string ⟨#[]⟩, .slice (some ⟨c, 0, none⟩) 2 2, .int .i64 0] 55 (0, 0))) := (hb.block N (Array.getElem?_eq_some_iff.1 HN.out).1).trans HN.out
  have HB1x : Hid (Below w1.heap.size w1 v1) := below2 HBV.out hb
  clear y0 y1 y2 y3 y4 y5 y6 y7
  clear hb HN HBV
  have y0 : v1.cell? ⟨N, 0, none⟩ = some (.int .u8 6) := cell_of HN1.out 0
  have y1 : v1.cell? ⟨N, 1, none⟩ = some (.int .u8 6) := cell_of HN1.out 1
  have y2 : v1.cell? ⟨N, 2, none⟩ = some (.int .u8 0) := cell_of HN1.out 2
  have y3 : v1.cell? ⟨N, 3, none⟩ = some (.int .i64 0) := cell_of HN1.out 3
  have y4 : v1.cell? ⟨N, 4, none⟩ = some (.int .u8 0) := cell_of HN1.out 4
  have y5 : v1.cell? ⟨N, 5, none⟩ = some (.string ⟨#[]⟩) := cell_of HN1.out 5
  have y6 : v1.cell? ⟨N, 6, none⟩ = some (.slice (some ⟨c, 0, none⟩) 2 2) := cell_of HN1.out 6
  have y7 : v1.cell? ⟨N, 7, none⟩ = some (.int .i64 0) := cell_of HN1.out 7
  go_wp2_with fail
  refine (f2 _ HB1x.out).mono ?_
  rintro e v2 ⟨rfl, hb⟩
  have HN2 : Hid (v2.heap[N]? = some (.cells #[.int .u8 6, .int .u8 6, .int .u8 0, .int .i64 0, .int .u8 0, .string ⟨#[]⟩, .slice (some ⟨c, 0, none⟩) 2 2, .int .i64 0] 55 (0, 0))) := (hb.block N (Array.getElem?_eq_some_iff.1 HN1.out).1).trans HN1.out
  have HB2x : Hid (Below w1.heap.size w1 v2) := below2 HB1x.out hb
  clear y0 y1 y2 y3 y4 y5 y6 y7
  clear hb HN1 HB1x
  have y0 : v2.cell? ⟨N, 0, none⟩ = some (.int .u8 6) := cell_of HN2.out 0
  have y1 : v2.cell? ⟨N, 1, none⟩ = some (.int .u8 6) := cell_of HN2.out 1
  have y2 : v2.cell? ⟨N, 2, none⟩ = some (.int .u8 0) := cell_of HN2.out 2
  have y3 : v2.cell? ⟨N, 3, none⟩ = some (.int .i64 0) := cell_of HN2.out 3
  have y4 : v2.cell? ⟨N, 4, none⟩ = some (.int .u8 0) := cell_of HN2.out 4
  have y5 : v2.cell? ⟨N, 5, none⟩ = some (.string ⟨#[]⟩) := cell_of HN2.out 5
  have y6 : v2.cell? ⟨N, 6, none⟩ = some (.slice (some ⟨c, 0, none⟩) 2 2) := cell_of HN2.out 6
  have y7 : v2.cell? ⟨N, 7, none⟩ = some (.int .i64 0) := cell_of HN2.out 7
  go_wp2_with fail
  refine (f3 _ HB2x.out).mono ?_
  rintro e v3 ⟨rfl, hb⟩
  have HN3 : Hid (v3.heap[N]? = some (.cells #[.int .u8 6, .int .u8 6, .int .u8 0, .int .i64 0, .int .u8 0, .string ⟨#[]⟩, .slice (some ⟨c, 0, none⟩) 2 2, .int .i64 0] 55 (0, 0))) := (hb.block N (Array.getElem?_eq_some_iff.1 HN2.out).1).trans HN2.out
  have HB3x : Hid (Below w1.heap.size w1 v3) := below2 HB2x.out hb
  clear y0 y1 y2 y3 y4 y5 y6 y7
  clear hb HN2 HB2x
  have y0 : v3.cell? ⟨N, 0, none⟩ = some (.int .u8 6) := cell_of HN3.out 0
  have y1 : v3.cell? ⟨N, 1, none⟩ = some (.int .u8 6) := cell_of HN3.out 1
  have y2 : v3.cell? ⟨N, 2, none⟩ = some (.int .u8 0) := cell_of HN3.out 2
  have y3 : v3.cell? ⟨N, 3, none⟩ = some (.int .i64 0) := cell_of HN3.out 3
  have y4 : v3.cell? ⟨N, 4, none⟩ = some (.int .u8 0) := cell_of HN3.out 4
  have y5 : v3.cell? ⟨N, 5, none⟩ = some (.string ⟨#[]⟩) := cell_of HN3.out 5
  have y6 : v3.cell? ⟨N, 6, none⟩ = some (.slice (some ⟨c, 0, none⟩) 2 2) := cell_of HN3.out 6
  have y7 : v3.cell? ⟨N, 7, none⟩ = some (.int .i64 0) := cell_of HN3.out 7
  go_wp2_with fail
  refine (f4 _ HB3x.out).mono ?_
  rintro e v4 ⟨rfl, hb⟩
  have HN4 : Hid (v4.heap[N]? = some (.cells #[.int .u8 6, .int .u8 6, .int .u8 0, .int .i64 0, .int .u8 0, .string ⟨#[]⟩, .slice (some ⟨c, 0, none⟩) 2 2, .int .i64 0] 55 (0, 0))) := (hb.block N (Array.getElem?_eq_some_iff.1 HN3.out).1).trans HN3.out
  have HB4x : Hid (Below w1.heap.size w1 v4) := below2 HB3x.out hb
  clear y0 y1 y2 y3 y4 y5 y6 y7
  clear hb HN3 HB3x
  have y0 : v4.cell? ⟨N, 0, none⟩ = some (.int .u8 6) := cell_of HN4.out 0
  have y1 : v4.cell? ⟨N, 1, none⟩ = some (.int .u8 6) := cell_of HN4.out 1
  have y2 : v4.cell? ⟨N, 2, none⟩ = some (.int .u8 0) := cell_of HN4.out 2
  have y3 : v4.cell? ⟨N, 3, none⟩ = some (.int .i64 0) := cell_of HN4.out 3
  have y4 : v4.cell? ⟨N, 4, none⟩ = some (.int .u8 0) := cell_of HN4.out 4
  have y5 : v4.cell? ⟨N, 5, none⟩ = some (.string ⟨#[]⟩) := cell_of HN4.out 5
  have y6 : v4.cell? ⟨N, 6, none⟩ = some (.slice (some ⟨c, 0, none⟩) 2 2) := cell_of HN4.out 6
  have y7 : v4.cell? ⟨N, 7, none⟩ = some (.int .i64 0) := cell_of HN4.out 7
  go_wp2_with fail
  refine (f5 _ HB4x.out).mono ?_
  rintro e v5 ⟨rfl, hb⟩
  have HN5 : Hid (v5.heap[N]? = some (.cells #[.int .u8 6, .int .u8 6, .int .u8 0, .int .i64 0, .int .u8 0, .string ⟨#[]⟩, .slice (some ⟨c, 0, none⟩) 2 2, .int .i64 0] 55 (0, 0))) := (hb.block N (Array.getElem?_eq_some_iff.1 HN4.out).1).trans HN4.out
  have HB5x : Hid (Below w1.heap.size w1 v5) := below2 HB4x.out hb
  clear y0 y1 y2 y3 y4 y5 y6 y7
  clear hb HN4 HB4x
  go_wp2_with fail
  refine (least_any _).mono ?_
  rintro e v6 ⟨⟨p2, p3, p4, rfl, hLe⟩, hb⟩
  have HN6 : Hid (v6.heap[N]? = some (.cells #[.int .u8 6, .int .u8 6, .int .u8 0, .int .i64 0, .int .u8 0, .string ⟨#[]⟩, .slice (some ⟨c, 0, none⟩) 2 2, .int .i64 0] 55 (0, 0))) := (hb.block N (Array.getElem?_eq_some_iff.1 HN5.out).1).trans HN5.out
  have HB6x : Hid (Below w1.heap.size w1 v6) := below2 HB5x.out hb
  have cC := check_least hLe (HT1.out.on HB6x.out)
  clear hb hLe HN5 HB5x
  go_wp2_with fail
  refine cC.mono ?_
  rintro e v7 ⟨rfl, hb⟩
  have HN7 : Hid (v7.heap[N]? = some (.cells #[.int .u8 6, .int .u8 6, .int .u8 0, .int .i64 0, .int .u8 0, .string ⟨#[]⟩, .slice (some ⟨c, 0, none⟩) 2 2, .int .i64 0] 55 (0, 0))) := (hb.block N (Array.getElem?_eq_some_iff.1 HN6.out).1).trans HN6.out
  have HB7x : Hid (Below w1.heap.size w1 v7) := below2 HB6x.out hb
  clear hb cC HN6 HB6x
  have cC := check_none v7 (HT1.out.on HB7x.out)
  go_wp2_with fail
  refine cC.mono ?_
  rintro e v8 ⟨rfl, hb⟩
  have HN8 : Hid (v8.heap[N]? = some (.cells #[.int .u8 6, .int .u8 6, .int .u8 0, .int .i64 0, .int .u8 0, .string ⟨#[]⟩, .slice (some ⟨c, 0, none⟩) 2 2, .int .i64 0] 55 (0, 0))) := (hb.block N (Array.getElem?_eq_some_iff.1 HN7.out).1).trans HN7.out
  have HB8x : Hid (Below w1.heap.size w1 v8) := below2 HB7x.out hb
  clear hb cC HN7 HB7x
  go_wp2_with fail
  refine (least_any _).mono ?_
  rintro e v9 ⟨⟨q2, q3, q4, rfl, hLe⟩, hb⟩
  have HN9 : Hid (v9.heap[N]? = some (.cells #[.int .u8 6, .int .u8 6, .int .u8 0, .int .i64 0, .int .u8 0, .string ⟨#[]⟩, .slice (some ⟨c, 0, none⟩) 2 2, .int .i64 0] 55 (0, 0))) := (hb.block N (Array.getElem?_eq_some_iff.1 HN8.out).1).trans HN8.out
  have HB9x : Hid (Below w1.heap.size w1 v9) := below2 HB8x.out hb
  have x1 : v9.cell? ⟨q4, 1, none⟩ = some (.slice (some ⟨q3, 0, none⟩) 1 1) := cell_of hLe.h4 1
  have y0 : v9.cell? ⟨q3, 0, none⟩ = some (.int .u8 4) := cell_of hLe.h3 0
  have y1 : v9.cell? ⟨q3, 1, none⟩ = some (.int .u8 0) := cell_of hLe.h3 1
  have y2 : v9.cell? ⟨q3, 2, none⟩ = some (.int .u8 0) := cell_of hLe.h3 2
  have y3 : v9.cell? ⟨q3, 3, none⟩ = some (.int .i64 0) := cell_of hLe.h3 3
  have y4 : v9.cell? ⟨q3, 4, none⟩ = some (.int .u8 1) := cell_of hLe.h3 4
  have y5 : v9.cell? ⟨q3, 5, none⟩ = some (.string ⟨#[]⟩) := cell_of hLe.h3 5
  have y6 : v9.cell? ⟨q3, 6, none⟩ = some (.slice none 0 0) := cell_of hLe.h3 6
  have y7 : v9.cell? ⟨q3, 7, none⟩ = some (.int .i64 0) := cell_of hLe.h3 7
  have hfd : (Instr.field 26 (.agg #[.string ⟨#[115]⟩, .slice none 0 0, .slice none 0 0, .slice (some ⟨q4, 0, none⟩) 1 1]) 3).run Tryz.prog v9 = .ok (.slice (some ⟨q4, 0, none⟩) 1 1) v9 := field71 _ _ _ _ v9
  have cR : Calls Tryz.prog 37 #[.agg #[.int .u8 4, .int .u8 0, .int .u8 0, .int .i64 0, .int .u8 1, .string ⟨#[]⟩, .slice none 0 0, .int .i64 0]] v9 fun e w' => e = .returned (.tuple #[.int .u16 2, .slice none 0 0]) ∧ Below v9.heap.size v9 w' := reads_has v9
  clear hb hLe HN8 HB8x
  go_wp2_with fail
  refine cR.mono ?_
  rintro e v10 ⟨rfl, hb⟩
  have HN10 : Hid (v10.heap[N]? = some (.cells #[.int .u8 6, .int .u8 6, .int .u8 0, .int .i64 0, .int .u8 0, .string ⟨#[]⟩, .slice (some ⟨c, 0, none⟩) 2 2, .int .i64 0] 55 (0, 0))) := (hb.block N (Array.getElem?_eq_some_iff.1 HN9.out).1).trans HN9.out
  have HB10x : Hid (Below w1.heap.size w1 v10) := below2 HB9x.out hb
  clear y0 y1 y2 y3 y4 y5 y6 y7
  clear hb cR HN9 HB9x x1
  have y0 : v10.cell? ⟨N, 0, none⟩ = some (.int .u8 6) := cell_of HN10.out 0
  have y1 : v10.cell? ⟨N, 1, none⟩ = some (.int .u8 6) := cell_of HN10.out 1
  have y2 : v10.cell? ⟨N, 2, none⟩ = some (.int .u8 0) := cell_of HN10.out 2
  have y3 : v10.cell? ⟨N, 3, none⟩ = some (.int .i64 0) := cell_of HN10.out 3
  have y4 : v10.cell? ⟨N, 4, none⟩ = some (.int .u8 0) := cell_of HN10.out 4
  have y5 : v10.cell? ⟨N, 5, none⟩ = some (.string ⟨#[]⟩) := cell_of HN10.out 5
  have y6 : v10.cell? ⟨N, 6, none⟩ = some (.slice (some ⟨c, 0, none⟩) 2 2) := cell_of HN10.out 6
  have y7 : v10.cell? ⟨N, 7, none⟩ = some (.int .i64 0) := cell_of HN10.out 7
  go_wp2_with fail
  refine (f6 _ HB10x.out).mono ?_
  rintro e v11 ⟨m', rfl, hl', hbare, _, hb⟩
  have HN11 : Hid (v11.heap[N]? = some (.cells #[.int .u8 6, .int .u8 6, .int .u8 0, .int .i64 0, .int .u8 0, .string ⟨#[]⟩, .slice (some ⟨c, 0, none⟩) 2 2, .int .i64 0] 55 (0, 0))) := (hb.block N (Array.getElem?_eq_some_iff.1 HN10.out).1).trans HN10.out
  have HB11x : Hid (Below w1.heap.size w1 v11) := below2 HB10x.out hb
  clear y0 y1 y2 y3 y4 y5 y6 y7
  have cS := fun v (hv : Below v11.heap.size v11 v) => same_any (sumN b c) m' v ((HL1.out.on HB11x.out).on hv) (hl'.on hv)
  rw [bare_same hbare] at cS
  obtain ⟨a', c', ks', rfl, hks, hk1⟩ : ∃ a' c' ks', m' = .mk ⟨6, 6, 0, 0, 0, ⟨#[]⟩, 0⟩ a' c' ks' ∧ ks'.length = 2 ∧ ∀ h : 1 < ks'.length, ks'[1].h.p = 0 := by
    cases hbare with
    | mk _ _ a' _ c' _ ks' hl hk =>
      refine ⟨a', c', ks', rfl, hl, fun h => ?_⟩
      have := hk 1 (by simp) h
      generalize ks'[1] = z at this
      cases this
      rfl
  have cS : ∀ v, Below v11.heap.size v11 v → Calls Tryz.prog 24 #[.agg #[.int .u8 6, .int .u8 6, .int .u8 0, .int .i64 0, .int .u8 0, .string ⟨#[]⟩, .slice (some ⟨c, 0, none⟩) 2 2, .int .i64 0], .agg #[.int .u8 6, .int .u8 6, .int .u8 0, .int .i64 0, .int .u8 0, .string ⟨#[]⟩, .slice a' 2 c', .int .i64 0]] v fun e w' => e = .returned (.bool true) ∧ Below v.heap.size v w' := fun v hv => by
    have := cS v hv
    unfold Nd.vals hdA at this
    simp only [Nd.h, Nd.a, Nd.c, Nd.ks, hks] at this
    exact this
  obtain ⟨kb, ko, ea, hat⟩ := hl'.kid 1 (by simp only [Nd.ks]; omega)
  have ea' : a' = some ⟨kb, ko, none⟩ := ea
  have hat7 : v11.cell? ⟨kb, ko + 1 * 8 + 7, none⟩ = some (.int .i64 0) := by
    have e7 : v11.cell? ⟨kb, ko + 1 * 8 + 7, none⟩ = some (.int .i64 (ks'[1]'(by omega)).h.p) := hat.c7
    rw [hk1 (by omega)] at e7
    exact e7
  rw [show (Nd.mk ⟨6, 6, 0, 0, 0, ⟨#[]⟩, 0⟩ a' c' ks').vals = #[.int .u8 6, .int .u8 6, .int .u8 0, .int .i64 0, .int .u8 0, .string ⟨#[]⟩, .slice a' 2 c', .int .i64 0] by simp [Nd.vals, hdA, Nd.h, Nd.a, Nd.c, Nd.ks, hks]]
  have Hc' : Hid (2 ≤ c') := by have := hl'.cap; simp only [Nd.ks, Nd.c, hks] at this; exact this
  have Hat : Hid (v11.cell? ⟨kb, ko + 1 * 8 + 7, none⟩ = some (.int .i64 0)) := hat7
  clear hb hl' hbare hks hk1 hat ea hat7 HN10 HB10x
  subst ea'
  go_upto_region 11 with fail
  obtain ⟨U, eU⟩ : ∃ U, v11.alloc (.cells #[.int .u8 6, .int .u8 6, .int .u8 0, .int .i64 0, .int .u8 0, .string ⟨#[]⟩, .slice (some ⟨kb, ko, none⟩) 2 c', .int .i64 0] 55) = U := ⟨_, rfl⟩
  have hbU : Below v11.heap.size v11 U := by rw [← eU]; exact below_new _ _
  have HM : Hid (U.heap[v11.heap.size]? = some (.cells #[.int .u8 6, .int .u8 6, .int .u8 0, .int .i64 0, .int .u8 0, .string ⟨#[]⟩, .slice (some ⟨kb, ko, none⟩) 2 c', .int .i64 0] 55 (0, 0))) := by rw [← eU]; exact heap_new _ _
  have HNU : Hid (U.heap[N]? = some (.cells #[.int .u8 6, .int .u8 6, .int .u8 0, .int .i64 0, .int .u8 0, .string ⟨#[]⟩, .slice (some ⟨c, 0, none⟩) 2 2, .int .i64 0] 55 (0, 0))) := (hbU.block N (Array.getElem?_eq_some_iff.1 HN11.out).1).trans HN11.out
  have cU := cS U hbU
  have kbl := World.block_lt_of_cell? _ _ Hat.out
  have HatU : Hid (U.cell? ⟨kb, ko + 1 * 8 + 7, none⟩ = some (.int .i64 0)) := (World.cell?_of_block (hbU.block kb kbl)).trans Hat.out
  have HBU : Hid (Below w1.heap.size w1 U) := below2 HB11x.out hbU
  rw [eU]
  obtain ⟨N2, eN2⟩ : ∃ N2, v11.heap.size = N2 := ⟨_, rfl⟩
  rw [eN2] at HM ⊢
  clear eU hbU kbl cS Hat
  have y0 : U.cell? ⟨N, 0, none⟩ = some (.int .u8 6) := cell_of HNU.out 0
  have y1 : U.cell? ⟨N, 1, none⟩ = some (.int .u8 6) := cell_of HNU.out 1
  have y2 : U.cell? ⟨N, 2, none⟩ = some (.int .u8 0) := cell_of HNU.out 2
  have y3 : U.cell? ⟨N, 3, none⟩ = some (.int .i64 0) := cell_of HNU.out 3
  have y4 : U.cell? ⟨N, 4, none⟩ = some (.int .u8 0) := cell_of HNU.out 4
  have y5 : U.cell? ⟨N, 5, none⟩ = some (.string ⟨#[]⟩) := cell_of HNU.out 5
  have y6 : U.cell? ⟨N, 6, none⟩ = some (.slice (some ⟨c, 0, none⟩) 2 2) := cell_of HNU.out 6
  have y7 : U.cell? ⟨N, 7, none⟩ = some (.int .i64 0) := cell_of HNU.out 7
  have z0 : U.cell? ⟨N2, 0, none⟩ = some (.int .u8 6) := cell_of HM.out 0
  have z1 : U.cell? ⟨N2, 1, none⟩ = some (.int .u8 6) := cell_of HM.out 1
  have z2 : U.cell? ⟨N2, 2, none⟩ = some (.int .u8 0) := cell_of HM.out 2
  have z3 : U.cell? ⟨N2, 3, none⟩ = some (.int .i64 0) := cell_of HM.out 3
  have z4 : U.cell? ⟨N2, 4, none⟩ = some (.int .u8 0) := cell_of HM.out 4
  have z5 : U.cell? ⟨N2, 5, none⟩ = some (.string ⟨#[]⟩) := cell_of HM.out 5
  have z6 : U.cell? ⟨N2, 6, none⟩ = some (.slice (some ⟨kb, ko, none⟩) 2 c') := cell_of HM.out 6
  have z7 : U.cell? ⟨N2, 7, none⟩ = some (.int .i64 0) := cell_of HM.out 7
  go_wp2_with fail
  refine cU.mono ?_
  rintro e X ⟨rfl, hb⟩
  have x6 : X.cell? ⟨N2, 6, none⟩ = some (.slice (some ⟨kb, ko, none⟩) 2 c') := cell_of ((hb.block N2 (Array.getElem?_eq_some_iff.1 HM.out).1).trans HM.out) 6
  have x7 : X.cell? ⟨kb, ko + 1 * 8 + 7, none⟩ = some (.int .i64 0) := (World.cell?_of_block (hb.block kb (World.block_lt_of_cell? _ _ HatU.out))).trans HatU.out
  have HX : Hid (Below w.heap.size w X) := below2 (below2 HB1.out HBU.out) hb
  clear hb cU HM HNU HatU HBU y0 y1 y2 y3 y4 y5 y6 y7 z0 z1 z2 z3 z4 z5 z6 z7 HN11 HB11x
  go_wp2_with fail
  go_ret
  exact ⟨rfl, HX.out⟩
end Go.Proofs.YtighocmdlifheaaGreatDoor
