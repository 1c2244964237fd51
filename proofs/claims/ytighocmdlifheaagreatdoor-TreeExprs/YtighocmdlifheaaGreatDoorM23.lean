import Derived.Test.YtighocmdlifheaaGreatDoorM22
import Derived.Test.YtighocmdlifheaaGreatDoorM21
/-
  The chapter's examples: sum, least.
-/
namespace Go.Proofs.YtighocmdlifheaaGreatDoor
open Go.RowKit
def litN (n : Int) : Nd := .mk ⟨1, 0, 1, n, 0, ⟨#[]⟩, 0⟩ none 0 []
def inN (b : Nat) : Nd := .mk ⟨6, 6, 0, 0, 0, ⟨#[]⟩, 5⟩ (some ⟨b, 0, none⟩) 2 [litN 2, litN 3]
def sumN (b c : Nat) : Nd := .mk ⟨6, 6, 0, 0, 0, ⟨#[]⟩, 0⟩ (some ⟨c, 0, none⟩) 2 [litN 1, inN b]
theorem lies_l1 (w : World) : Lies w (litN 1) := .mk _ _ _ _ ⟨by decide, by decide, by decide, by decide, by decide, by decide, by decide, by decide, by decide, by decide, by decide, by decide, by decide⟩ (Nat.le_refl _) (by decide) (fun i hi => by simp at hi) (fun k hk => by cases hk)
theorem lies_l2 (w : World) : Lies w (litN 2) := .mk _ _ _ _ ⟨by decide, by decide, by decide, by decide, by decide, by decide, by decide, by decide, by decide, by decide, by decide, by decide, by decide⟩ (Nat.le_refl _) (by decide) (fun i hi => by simp at hi) (fun k hk => by cases hk)
theorem lies_l3 (w : World) : Lies w (litN 3) := .mk _ _ _ _ ⟨by decide, by decide, by decide, by decide, by decide, by decide, by decide, by decide, by decide, by decide, by decide, by decide, by decide⟩ (Nat.le_refl _) (by decide) (fun i hi => by simp at hi) (fun k hk => by cases hk)
theorem lies_sum {w : World} {b c : Nat} (h1 : w.heap[b]? = some (.cells ((litN 2).vals ++ (litN 3).vals) 55 (0, 0))) (h2 : w.heap[c]? = some (.cells ((litN 1).vals ++ (inN b).vals) 55 (0, 0))) : Lies w (sumN b c) := by
  have hi : Lies w (inN b) := by
    refine .mk _ _ _ _ ⟨by decide, by decide, by decide, by decide, by decide, by decide, by decide, by decide, by decide, by decide, by decide, by decide, by decide⟩ (Nat.le_refl _) (by decide) (fun i hi => ⟨b, 0, rfl, ?_⟩) (fun k hk => ?_)
    · rcases (by simp at hi; omega : i = 0 ∨ i = 1) with rfl | rfl
      · exact ⟨cell_of h1 0, cell_of h1 1, cell_of h1 2, cell_of h1 3, cell_of h1 4, cell_of h1 5, cell_of h1 6, cell_of h1 7⟩
      · exact ⟨cell_of h1 8, cell_of h1 9, cell_of h1 10, cell_of h1 11, cell_of h1 12, cell_of h1 13, cell_of h1 14, cell_of h1 15⟩
    · simp at hk
      rcases hk with rfl | rfl
      · exact lies_l2 w
      · exact lies_l3 w
  refine .mk _ _ _ _ ⟨by decide, by decide, by decide, by decide, by decide, by decide, by decide, by decide, by decide, by decide, by decide, by decide, by decide⟩ (Nat.le_refl _) (by decide) (fun i hi => ⟨c, 0, rfl, ?_⟩) (fun k hk => ?_)
  · rcases (by simp at hi; omega : i = 0 ∨ i = 1) with rfl | rfl
    · exact ⟨cell_of h2 0, cell_of h2 1, cell_of h2 2, cell_of h2 3, cell_of h2 4, cell_of h2 5, cell_of h2 6, cell_of h2 7⟩
    · exact ⟨cell_of h2 8, cell_of h2 9, cell_of h2 10, cell_of h2 11, cell_of h2 12, cell_of h2 13, cell_of h2 14, cell_of h2 15⟩
  · simp at hk
    rcases hk with rfl | rfl
    · exact lies_l1 w
    · exact hi
theorem new1 (w : World) (A B : Obj) : ((w.alloc A).alloc B).heap[w.heap.size + 1]? = some B := by
  have := heap_new (w.alloc A) B
  rwa [size_alloc] at this
theorem new2 (w : World) (A B C : Obj) : (((w.alloc A).alloc B).alloc C).heap[w.heap.size + 1 + 1]? = some C := by
  have := heap_new ((w.alloc A).alloc B) C
  rwa [size_alloc, size_alloc] at this
theorem new3 (w : World) (A B C D : Obj) : ((((w.alloc A).alloc B).alloc C).alloc D).heap[w.heap.size + 1 + 1 + 1]? = some D := by
  have := heap_new (((w.alloc A).alloc B).alloc C) D
  rwa [size_alloc, size_alloc, size_alloc] at this
theorem new4 (w : World) (A B C D E : Obj) : (((((w.alloc A).alloc B).alloc C).alloc D).alloc E).heap[w.heap.size + 1 + 1 + 1 + 1]? = some E := by
  have := heap_new ((((w.alloc A).alloc B).alloc C).alloc D) E
  rwa [size_alloc, size_alloc, size_alloc, size_alloc] at this
theorem four {w : World} {A B C D : Obj} : ((((w.alloc A).alloc B).alloc C).alloc D).heap[w.heap.size]? = some A ∧ ((((w.alloc A).alloc B).alloc C).alloc D).heap[w.heap.size + 1]? = some B ∧ ((((w.alloc A).alloc B).alloc C).alloc D).heap[w.heap.size + 1 + 1 + 1]? = some D :=
  ⟨heap_old (heap_old (heap_old (heap_new w A) (by simp)) (by simp <;> omega)) (by simp <;> omega), heap_old (heap_old (new1 w A B) (by simp)) (by simp <;> omega), new3 w A B C D⟩
theorem below4 (w : World) (A B C D : Obj) : Below w.heap.size w ((((w.alloc A).alloc B).alloc C).alloc D) := (((below_new w A).alloc (by simp) B).alloc (by simp <;> omega) C).alloc (by simp <;> omega) D
set_option maxRecDepth 100000 in
set_option maxHeartbeats 4000000 in
theorem sum_any (w : World) : Calls Tryz.prog 35 #[] w fun e w' => (∃ b c, e = .returned (.agg (sumN b c).vals) ∧ Lies w' (sumN b c)) ∧ Below w.heap.size w w' := by
  go_enter Tryz.func35, Tryz.ntmps35
  go_wp2_with fail
  exact bodyPost_ret (results_cell_row rfl _ _ w.heap.size 55 (sumN (w.heap.size + 1) (w.heap.size + 1 + 1 + 1)).vals (0, 0) _ rfl four.1 Tryz.underlying55 rfl (by kernel_rfl)) rfl ⟨⟨_, _, rfl, lies_sum four.2.1 four.2.2⟩, below4 _ _ _ _ _⟩
/-- The chapter's smallest strategy, as it lies. -/
structure Least (w : World) (b2 b3 b4 : Nat) : Prop where
  h2 : w.heap[b2]? = some (.cells (doZ 6).toArray 96 (0, 0))
  h3 : w.heap[b3]? = some (.cells #[.int .u8 4, .int .u8 0, .int .u8 0, .int .i64 0, .int .u8 1, .string ⟨#[]⟩, .slice none 0 0, .int .i64 0, .slice (some ⟨b2, 0, none⟩) 1 1, .int .i64 0] 71 (0, 0))
  h4 : w.heap[b4]? = some (.cells #[.string ⟨#[97]⟩, .slice (some ⟨b3, 0, none⟩) 1 1, .int .i64 0] 74 (0, 0))
theorem five {w : World} {A B C D E : Obj} : (((((w.alloc A).alloc B).alloc C).alloc D).alloc E).heap[w.heap.size]? = some A ∧ (((((w.alloc A).alloc B).alloc C).alloc D).alloc E).heap[w.heap.size + 1 + 1]? = some C ∧ (((((w.alloc A).alloc B).alloc C).alloc D).alloc E).heap[w.heap.size + 1 + 1 + 1]? = some D ∧ (((((w.alloc A).alloc B).alloc C).alloc D).alloc E).heap[w.heap.size + 1 + 1 + 1 + 1]? = some E :=
  ⟨heap_old four.1 (by simp <;> omega), heap_old (heap_old (new2 w A B C) (by simp)) (by simp <;> omega), heap_old four.2.2 (by simp), new4 w A B C D E⟩
set_option maxRecDepth 100000 in
set_option maxHeartbeats 4000000 in
theorem least_any (w : World) : Calls Tryz.prog 36 #[] w fun e w' => (∃ b2 b3 b4, e = .returned (.agg #[.string ⟨#[115]⟩, .slice none 0 0, .slice none 0 0, .slice (some ⟨b4, 0, none⟩) 1 1]) ∧ Least w' b2 b3 b4) ∧ Below w.heap.size w w' := by
  go_enter Tryz.func36, Tryz.ntmps36
  go_wp2_with fail
  exact bodyPost_ret (results_cell_row rfl _ _ w.heap.size 26 #[.string ⟨#[115]⟩, .slice none 0 0, .slice none 0 0, .slice (some ⟨w.heap.size + 1 + 1 + 1 + 1, 0, none⟩) 1 1] (0, 0) _ rfl five.1 Tryz.underlying26 rfl (by kernel_rfl)) rfl ⟨⟨w.heap.size + 1 + 1, w.heap.size + 1 + 1 + 1, w.heap.size + 1 + 1 + 1 + 1, rfl, five.2.1, five.2.2.1, five.2.2.2⟩, (below4 _ _ _ _ _).alloc (by simp <;> omega) _⟩
end Go.Proofs.YtighocmdlifheaaGreatDoor

/-
  needState, needStrategy, Check: of one state with one rule, and of none.
-/
namespace Go.Proofs.YtighocmdlifheaaGreatDoor
open Go.RowKit
def ruZ : List Value := ndZ ++ [.slice none 0 0, .int .i64 0]
theorem zero75 : (Tryz.prog.info? 71).map (·.zero) = some (some (.agg ruZ.toArray)) := by kernel_rfl
theorem size75 : (Tryz.prog.info? 71).map (·.size) = some 10 := by kernel_rfl
def stZ : List Value := [.string ⟨#[]⟩, .slice none 0 0, .int .i64 0]
theorem zero78 : (Tryz.prog.info? 74).map (·.zero) = some (some (.agg stZ.toArray)) := by kernel_rfl
theorem size78 : (Tryz.prog.info? 74).map (·.size) = some 3 := by kernel_rfl
set_option maxRecDepth 100000 in
set_option maxHeartbeats 4000000 in
theorem state_one (w0 : World) (d : List Value) (hd : d.length = 10) (h1 : d.toArray.all (·.oneCell') = true) (cD : ∀ v, Below w0.heap.size w0 v → Calls Tryz.prog 118 #[.agg d.toArray] v fun e w' => e = .returned (.tuple #[]) ∧ Below v.heap.size v w') (b : Nat) (w : World) (h0 : Below w0.heap.size w0 w) (hr : w.rangeAt b 0 d) (ht : Tab w) :
    Calls Tryz.prog 91 #[.agg #[.string ⟨#[97]⟩, .slice (some ⟨b, 0, none⟩) 1 1, .int .i64 0]] w fun e w' => e = .returned (.tuple #[]) ∧ Below w.heap.size w w' := by
  obtain ⟨W, eW⟩ : ∃ W, w.alloc (.cells #[.string ⟨#[97]⟩, .slice (some ⟨b, 0, none⟩) 1 1, .int .i64 0] 74) = W := ⟨_, rfl⟩
  have hbW : Below w.heap.size w W := by rw [← eW]; exact below_new _ _
  have hW : W.heap[w.heap.size]? = some (.cells #[.string ⟨#[97]⟩, .slice (some ⟨b, 0, none⟩) 1 1, .int .i64 0] 74 (0, 0)) := by rw [← eW]; exact heap_new _ _
  have cE := name_ok ⟨#[97]⟩ (by decide) (by decide) W (ht.on hbW)
  have y0 : W.cell? ⟨w.heap.size, 0, none⟩ = some (.string ⟨#[97]⟩) := cell_of hW 0
  have HW : Hid (W.heap[w.heap.size]? = some (.cells #[.string ⟨#[97]⟩, .slice (some ⟨b, 0, none⟩) 1 1, .int .i64 0] 74 (0, 0))) := hW
  have HBW : Hid (Below w.heap.size w W) := hbW
  have HR : Hid (w.rangeAt b 0 d) := hr
  have HD : Hid (d.length = 10) := hd
  have H1 : Hid (d.toArray.all (·.oneCell') = true) := h1
  have H0 : Hid (Below w0.heap.size w0 w) := h0
  clear hbW hW hr hd h1 ht h0
  go_enter Tryz.func91, Tryz.ntmps91
  go_wp2_with fail
  clear eW
  refine cE.mono ?_
  rintro e w1 ⟨rfl, hb⟩
  have z8 : w1.cell? ⟨w.heap.size, 1, none⟩ = some (.slice (some ⟨b, 0, none⟩) 1 1) := cell_of ((hb.block _ (Array.getElem?_eq_some_iff.1 HW.out).1).trans HW.out) 1
  have HB1 : Hid (Below w.heap.size w w1) := below2 HBW.out hb
  clear hb cE y0 HBW HW
  go_wp2_with (go_at_call 89; refine (count_ok 1 0 12 (by decide) (by decide) _).mono ?_; rintro e w3 ⟨rfl, e4⟩; obtain rfl := e4.symm)
  go_loopw [3, 14] (fun _ t wr => ∃ i : Nat, i ≤ 1 ∧ t = .int .i64 i ∧ Hid (Below w.heap.size w wr)) (fun _ t _ => 1 - (intOf t).toNat)
  case atStart => exact ⟨0, by omega, rfl, HB1⟩
  case round =>
    obtain ⟨i, hi, rfl, HBr⟩ := hrel
    rcases (by omega : i = 0 ∨ i = 1) with rfl | rfl
    · have HRr : Hid (wr.rangeAt b 0 d) := range_on HR.out HBr.out
      go_wp2_with (first
        | (refine wpList_load_mid rfl 71 (.tmp 16) rfl b 0 rfl d _ HRr.out Tryz.underlying71 rfl (by rw [HD.out]; exact size75) ?_)
        | (refine wpList_new_row rfl rfl 71 rfl (.tmp 3) (.tmp 17) rfl ruZ.toArray zero75 (by exact size75) d.toArray (by rw [List.size_toArray, HD.out]; rfl) rfl rfl H1.out ?_; intro Y hY; have HY : Hid (Fil wr d 71 Y) := hY; clear hY)
        | (refine wpList_load_mid rfl 71 (.tmp 3) rfl wr.heap.size 0 rfl d _ HY.out.r Tryz.underlying71 rfl (by rw [HD.out]; exact size75) ?_))
      refine (cD _ (below2 (below2 H0.out HBr.out) HY.out.B)).mono ?_
      rintro e w5 ⟨rfl, hb5⟩
      have HB5 : Hid (Below w.heap.size w w5) := below2 (below2 HBr.out HY.out.B) hb5
      clear hb5
      go_wp2_with fail
      exact ⟨⟨1, by omega, rfl, HB5⟩, by simp only [intOf]; omega⟩
    · go_wp2_with fail
      go_end0
      exact ⟨rfl, HBr.out⟩
end Go.Proofs.YtighocmdlifheaaGreatDoor

/-
  needStrategy, Check: of a strategy of one state, and of one without.
-/
namespace Go.Proofs.YtighocmdlifheaaGreatDoor
open Go.RowKit
set_option maxRecDepth 100000 in
set_option maxHeartbeats 4000000 in
theorem strat_one (w0 : World) (d : List Value) (hd : d.length = 3) (h1 : d.toArray.all (·.oneCell') = true) (cD : ∀ v, Below w0.heap.size w0 v → Calls Tryz.prog 91 #[.agg d.toArray] v fun e w' => e = .returned (.tuple #[]) ∧ Below v.heap.size v w') (b : Nat) (w : World) (h0 : Below w0.heap.size w0 w) (hr : w.rangeAt b 0 d) (ht : Tab w) :
    Calls Tryz.prog 42 #[.agg #[.string ⟨#[115]⟩, .slice none 0 0, .slice none 0 0, .slice (some ⟨b, 0, none⟩) 1 1]] w fun e w' => e = .returned (.tuple #[]) ∧ Below w.heap.size w w' := by
  obtain ⟨W, eW⟩ : ∃ W, w.alloc (.cells #[.string ⟨#[115]⟩, .slice none 0 0, .slice none 0 0, .slice (some ⟨b, 0, none⟩) 1 1] 26) = W := ⟨_, rfl⟩
  have hbW : Below w.heap.size w W := by rw [← eW]; exact below_new _ _
  have hW : W.heap[w.heap.size]? = some (.cells #[.string ⟨#[115]⟩, .slice none 0 0, .slice none 0 0, .slice (some ⟨b, 0, none⟩) 1 1] 26 (0, 0)) := by rw [← eW]; exact heap_new _ _
  have cE := name_ok ⟨#[115]⟩ (by decide) (by decide) W (ht.on hbW)
  have y0 : W.cell? ⟨w.heap.size, 0, none⟩ = some (.string ⟨#[115]⟩) := cell_of hW 0
  have HW : Hid (W.heap[w.heap.size]? = some (.cells #[.string ⟨#[115]⟩, .slice none 0 0, .slice none 0 0, .slice (some ⟨b, 0, none⟩) 1 1] 26 (0, 0))) := hW
  have HBW : Hid (Below w.heap.size w W) := hbW
  have HR : Hid (w.rangeAt b 0 d) := hr
  have HD : Hid (d.length = 3) := hd
  have H1 : Hid (d.toArray.all (·.oneCell') = true) := h1
  have H0 : Hid (Below w0.heap.size w0 w) := h0
  clear hbW hW hr hd h1 ht h0
  go_enter Tryz.func42, Tryz.ntmps42
  go_wp2_with fail
  clear eW
  refine cE.mono ?_
  rintro e w1 ⟨rfl, hb⟩
  have z1 : w1.cell? ⟨w.heap.size, 1, none⟩ = some (.slice none 0 0) := cell_of ((hb.block _ (Array.getElem?_eq_some_iff.1 HW.out).1).trans HW.out) 1
  have z2 : w1.cell? ⟨w.heap.size, 2, none⟩ = some (.slice none 0 0) := cell_of ((hb.block _ (Array.getElem?_eq_some_iff.1 HW.out).1).trans HW.out) 2
  have z3 : w1.cell? ⟨w.heap.size, 3, none⟩ = some (.slice (some ⟨b, 0, none⟩) 1 1) := cell_of ((hb.block _ (Array.getElem?_eq_some_iff.1 HW.out).1).trans HW.out) 3
  have HB1 : Hid (Below w.heap.size w w1) := below2 HBW.out hb
  clear hb cE y0 HBW HW
  go_wp2_with (go_at_call 89; refine (count_ok 0 0 12 (by decide) (by decide) _).mono ?_; rintro e w3 ⟨rfl, e4⟩; obtain rfl := e4.symm)
  go_loopw [3, 18] (fun _ t wr => t = .int .i64 0 ∧ wr = w1) (fun _ t _ => 0)
  case atStart => exact ⟨rfl, rfl⟩
  case round =>
    obtain ⟨rfl, rfl⟩ := hrel
    go_wp2_with (go_at_call 89; refine (count_ok 0 0 4 (by decide) (by decide) _).mono ?_; rintro e w3 ⟨rfl, e4⟩; obtain rfl := e4.symm)
    go_loopw [5, 32] (fun _ t wq => t = .int .i64 0 ∧ wq = wr) (fun _ t _ => 0)
    case atStart => exact ⟨rfl, rfl⟩
    case round =>
      obtain ⟨rfl, rfl⟩ := hrel
      go_wp2_with (go_at_call 89; refine (count_ok 1 1 12 (by decide) (by decide) _).mono ?_; rintro e w3 ⟨rfl, e4⟩; obtain rfl := e4.symm)
      go_loopw [7, 47] (fun _ t wz => ∃ i : Nat, i ≤ 1 ∧ t = .int .i64 i ∧ Hid (Below w.heap.size w wz)) (fun _ t _ => 1 - (intOf t).toNat)
      case atStart => exact ⟨0, by omega, rfl, HB1⟩
      case round =>
        obtain ⟨i, hi, rfl, HBr⟩ := hrel
        rcases (by omega : i = 0 ∨ i = 1) with rfl | rfl
        · have HRr : Hid (wr.rangeAt b 0 d) := range_on HR.out HBr.out
          go_wp2_with (first
            | (refine wpList_load_mid rfl 74 (.tmp 49) rfl b 0 rfl d _ HRr.out Tryz.underlying74 rfl (by rw [HD.out]; exact size78) ?_)
            | (refine wpList_new_row rfl rfl 74 rfl (.tmp 7) (.tmp 50) rfl stZ.toArray zero78 (by exact size78) d.toArray (by rw [List.size_toArray, HD.out]; rfl) rfl rfl H1.out ?_; intro Y hY; have HY : Hid (Fil wr d 74 Y) := hY; clear hY)
            | (refine wpList_load_mid rfl 74 (.tmp 7) rfl wr.heap.size 0 rfl d _ HY.out.r Tryz.underlying74 rfl (by rw [HD.out]; exact size78) ?_))
          refine (cD _ (below2 (below2 H0.out HBr.out) HY.out.B)).mono ?_
          rintro e w5 ⟨rfl, hb5⟩
          have HB5 : Hid (Below w.heap.size w w5) := below2 (below2 HBr.out HY.out.B) hb5
          clear hb5
          go_wp2_with fail
          exact ⟨⟨1, by omega, rfl, HB5⟩, by simp only [intOf]; omega⟩
        · go_wp2_with fail
          go_end0
          exact ⟨rfl, HBr.out⟩
set_option maxRecDepth 100000 in
theorem count_lo (n l m : Int) (h1 : ¬ l ≤ n) (w : World) : Calls Tryz.prog 89 #[.int .i64 n, .int .i64 l, .int .i64 m] w fun e w' => e = .panicked [{ v := .iface 30 (.int .i64 120), recovered := false }] ∧ w' = w := by
  have d1 : decide (l ≤ n) = false := decide_eq_false h1
  have cN := need_f 120 w
  go_enter Tryz.func89, Tryz.ntmps89
  go_wp2_with fail
  refine cN.mono ?_
  rintro e w3 ⟨rfl, rfl⟩
  exact ⟨rfl, rfl, rfl⟩
set_option maxRecDepth 100000 in
set_option maxHeartbeats 4000000 in
theorem strat_none (w : World) (ht : Tab w) :
    Calls Tryz.prog 42 #[.agg #[.string ⟨#[115]⟩, .slice none 0 0, .slice none 0 0, .slice none 0 0]] w fun e w' => e = .panicked [{ v := .iface 30 (.int .i64 120), recovered := false }] ∧ Below w.heap.size w w' := by
  obtain ⟨W, eW⟩ : ∃ W, w.alloc (.cells #[.string ⟨#[115]⟩, .slice none 0 0, .slice none 0 0, .slice none 0 0] 26) = W := ⟨_, rfl⟩
  have hbW : Below w.heap.size w W := by rw [← eW]; exact below_new _ _
  have hW : W.heap[w.heap.size]? = some (.cells #[.string ⟨#[115]⟩, .slice none 0 0, .slice none 0 0, .slice none 0 0] 26 (0, 0)) := by rw [← eW]; exact heap_new _ _
  have cE := name_ok ⟨#[115]⟩ (by decide) (by decide) W (ht.on hbW)
  have y0 : W.cell? ⟨w.heap.size, 0, none⟩ = some (.string ⟨#[115]⟩) := cell_of hW 0
  have HW : Hid (W.heap[w.heap.size]? = some (.cells #[.string ⟨#[115]⟩, .slice none 0 0, .slice none 0 0, .slice none 0 0] 26 (0, 0))) := hW
  have HBW : Hid (Below w.heap.size w W) := hbW
  clear hbW hW ht
  go_enter Tryz.func42, Tryz.ntmps42
  go_wp2_with fail
  clear eW
  refine cE.mono ?_
  rintro e w1 ⟨rfl, hb⟩
  have z1 : w1.cell? ⟨w.heap.size, 1, none⟩ = some (.slice none 0 0) := cell_of ((hb.block _ (Array.getElem?_eq_some_iff.1 HW.out).1).trans HW.out) 1
  have z2 : w1.cell? ⟨w.heap.size, 2, none⟩ = some (.slice none 0 0) := cell_of ((hb.block _ (Array.getElem?_eq_some_iff.1 HW.out).1).trans HW.out) 2
  have z3 : w1.cell? ⟨w.heap.size, 3, none⟩ = some (.slice none 0 0) := cell_of ((hb.block _ (Array.getElem?_eq_some_iff.1 HW.out).1).trans HW.out) 3
  have HB1 : Hid (Below w.heap.size w w1) := below2 HBW.out hb
  clear hb cE y0 HBW HW
  go_wp2_with (go_at_call 89; refine (count_ok 0 0 12 (by decide) (by decide) _).mono ?_; rintro e w3 ⟨rfl, e4⟩; obtain rfl := e4.symm)
  go_loopw [3, 18] (fun _ t wr => t = .int .i64 0 ∧ wr = w1) (fun _ t _ => 0)
  case atStart => exact ⟨rfl, rfl⟩
  case round =>
    obtain ⟨rfl, rfl⟩ := hrel
    go_wp2_with (go_at_call 89; refine (count_ok 0 0 4 (by decide) (by decide) _).mono ?_; rintro e w3 ⟨rfl, e4⟩; obtain rfl := e4.symm)
    go_loopw [5, 32] (fun _ t wq => t = .int .i64 0 ∧ wq = wr) (fun _ t _ => 0)
    case atStart => exact ⟨rfl, rfl⟩
    case round =>
      obtain ⟨rfl, rfl⟩ := hrel
      have cN := count_lo 0 1 12 (by decide) wr
      go_wp2_with fail
      refine cN.mono ?_
      rintro e w3 ⟨rfl, rfl⟩
      exact ⟨rfl, rfl, HB1.out⟩
theorem enter53 (args : Array Value) (v : World) : Sem.run Tryz.prog (callFunc 41 args) v = .ok (.enter 41 args) v := by kernel_rfl
set_option maxRecDepth 100000 in
theorem check_any (a0 a1 a2 a3 : Value) (E : Int) (w : World)
    (cF : ∀ v, Below w.heap.size w v → Gives 42 #[.agg #[a0, a1, a2, a3]] v E) :
    Calls Tryz.prog 8 #[.agg #[a0, a1, a2, a3]] w fun e w' => e = .returned (.int .i64 E) ∧ Below w.heap.size w w' := by
  have hmf : ∀ (fn : Fn) (first cap : Array Value) (w : World), (Instr.makeFunc fn first cap).run Tryz.prog w = .ok (.func fn first cap) w := fun _ _ _ _ => rfl
  have c := found_any 41 enter53 #[.pointer (some ⟨w.heap.size, 0, none⟩)] E (w.alloc (.cells #[a0, a1, a2, a3] 26)) (fun v hv => ?_)
  · go_enter Tryz.func8, Tryz.ntmps8
    go_wp2_with fail
    refine c.mono ?_
    rintro e w1 ⟨rfl, hb⟩
    go_wp2_with fail
    go_ret
    exact ⟨rfl, below2 (below_new _ _) hb⟩
  · have hk := (hv.block w.heap.size (by simp)).trans (heap_new w _)
    have y0 : v.cell? ⟨w.heap.size, 0, none⟩ = some a0 := cell_of hk 0
    have y1 : v.cell? ⟨w.heap.size, 1, none⟩ = some a1 := cell_of hk 1
    have y2 : v.cell? ⟨w.heap.size, 2, none⟩ = some a2 := cell_of hk 2
    have y3 : v.cell? ⟨w.heap.size, 3, none⟩ = some a3 := cell_of hk 3
    have c := cF v (below2 (below_new _ _) hv)
    unfold Gives at c
    clear hk hv cF
    go_enter Tryz.func41, Tryz.ntmps41
    go_wp2_with fail
    refine c.mono ?_
    rintro e w1 ⟨h1 | h1, hb⟩
    · obtain ⟨h2, rfl⟩ := h1
      have HE : Hid (E = 0) := h2
      clear h2
      go_wp2_with fail
      go_end0
      exact ⟨.inl ⟨HE.out, rfl⟩, hb⟩
    · obtain ⟨h2, rfl⟩ := h1
      exact ⟨rfl, .inr ⟨h2, rfl⟩, hb⟩
end Go.Proofs.YtighocmdlifheaaGreatDoor

/-
  Reads, of one node that asks for a field.
-/
namespace Go.Proofs.YtighocmdlifheaaGreatDoor
open Go.RowKit Go.Shelf
attribute [local go_sem] Oper.semAt_some
/-- Between two rounds: the fields that have come; no names. -/
structure Fh (w : World) (B C : Nat) (pr : List Nat) (W : World) : Prop where
  b : Boxed W B 65 (.int .u16 (if 0 ∈ pr then 2 else 0))
  c : Boxed W C 66 (.slice none 0 0)
  m : Below w.heap.size w W
theorem fh_own (w : World) (B C : Nat) {D : Nat} (hC : w.heap.size ≤ D) : OwnFrom D (Fh w B C) := by
  intro pr W W' row h hg hr
  exact ⟨boxed_own _ _ (fun (_ : Unit) => _) () W W' row h.b hg (fun x e => (hr x e).2), boxed_own _ _ (fun (_ : Unit) => _) () W W' row h.c hg (fun x e => (hr x e).2), h.m.grown hg h.m.size (fun k e => Nat.le_trans hC (hr k e).1)⟩
theorem results_t23 {P : Program} {fn : Func} (h : fn.results = #[.tmp 2, .tmp 3]) (tmps : Array Value) (w : World) : (results fn tmps).run P w = .ok (.tuple #[tmps.getD 2 undef, tmps.getD 3 undef]) w := by
  simp [results, h]
theorem ndx_own {w : World} (a' : Act) (A : Nat → Value → Value → Value → Value → Value → Act) (T : Nd) : OwnFrom w.heap.size (fun (_ : Unit) W => ∃ Bt u5 u6 u8 u9 u10, a' = A Bt u5 u6 u8 u9 u10 ∧ NdH W Bt T) := by
  intro _ W W' row hs hg hr
  obtain ⟨Bt, u5, u6, u8, u9, u10, e, h⟩ := hs
  refine ⟨Bt, u5, u6, u8, u9, u10, e, (hg.block Bt h.lt (fun e => ?_)).trans h⟩
  obtain ⟨_, o, ho, hc⟩ := hr Bt e.symm
  rw [show W.heap[Bt]? = _ from h] at ho
  cases ho
  cases hc
set_option maxRecDepth 1000000 in
set_option maxHeartbeats 8000000 in
theorem reads_has (w : World) : Calls Tryz.prog 37 #[.agg hasN.vals] w fun e w' => e = .returned (.tuple #[.int .u16 2, .slice none 0 0]) ∧ Below w.heap.size w w' := by
  have hmm := @run_makeMap Tryz.prog
  have hl := liesHas w
  refine (callsIn_wide (n := 3)).1 (callsIn_of_wp_marks Tryz.func37 rfl trivial ?_ rfl)
  refine wpIn_wide.2 ?_
  simp only [Tryz.ntmps37, List.size_toArray, List.length_cons, List.length_nil, Nat.reduceAdd, Nat.reduceSub, Array.replicate_succ, Array.replicate_zero, List.push_toArray, List.append_toArray, List.nil_append, List.cons_append]
  obtain ⟨B0, hB0⟩ : ∃ x, w.heap.size = x := ⟨_, rfl⟩
  obtain ⟨U, eU⟩ : ∃ U, ((((w.alloc (.cells hasN.vals 55)).alloc (.cells #[.int .u16 0] 65)).alloc (.cells #[.slice none 0 0] 66)).alloc (.map #[] 0)).alloc (.cells #[.map (some (B0 + 1 + 1 + 1))] 121) = U := ⟨_, rfl⟩
  have sU : U.heap.size = B0 + 1 + 1 + 1 + 1 + 1 := by rw [← eU]; simp [hB0]
  have hU : Below w.heap.size w U := by rw [← eU]; exact ((((below_new w _).alloc (by simp) _).alloc (by simp <;> omega) _).alloc (by simp <;> omega) _).alloc (by simp <;> omega) _
  have u1 : Boxed U (B0 + 1) 65 (.int .u16 0) := by
    have := (((Boxed.new (w.alloc (.cells hasN.vals 55)) 65 (.int .u16 0)).alloc (.cells #[.slice none 0 0] 66)).alloc (.map #[] 0)).alloc (.cells #[.map (some (B0 + 1 + 1 + 1))] 121)
    rw [World.size_alloc, hB0] at this
    rw [← eU]; exact this
  have u2 : Boxed U (B0 + 1 + 1) 66 (.slice none 0 0) := by
    have := ((Boxed.new ((w.alloc (.cells hasN.vals 55)).alloc (.cells #[.int .u16 0] 65)) 66 (.slice none 0 0)).alloc (.map #[] 0)).alloc (.cells #[.map (some (B0 + 1 + 1 + 1))] 121)
    rw [World.size_alloc, World.size_alloc, hB0] at this
    rw [← eU]; exact this
  have hN : NdH U B0 hasN := by rw [← eU, ← hB0]; exact heap_old (heap_old (heap_old (heap_old (heap_new w _) (by simp)) (by simp <;> omega)) (by simp <;> omega)) (by simp <;> omega)
  have y0 : U.cell? ⟨B0, 0, none⟩ = some (.int .u8 4) := cell_of hN 0
  have y1 : U.cell? ⟨B0, 1, none⟩ = some (.int .u8 0) := cell_of hN 1
  have y2 : U.cell? ⟨B0, 2, none⟩ = some (.int .u8 0) := cell_of hN 2
  have y3 : U.cell? ⟨B0, 3, none⟩ = some (.int .i64 0) := cell_of hN 3
  have y4 : U.cell? ⟨B0, 4, none⟩ = some (.int .u8 1) := cell_of hN 4
  have y5 : U.cell? ⟨B0, 5, none⟩ = some (.string ⟨#[]⟩) := cell_of hN 5
  have y6 : U.cell? ⟨B0, 6, none⟩ = some (.slice none 0 0) := cell_of hN 6
  have y7 : U.cell? ⟨B0, 7, none⟩ = some (.int .i64 0) := cell_of hN 7
  have cL := all_any hasN U
  rw [sU] at cL
  obtain ⟨W1, eW1⟩ : ∃ W1, U.alloc (.cells hasN.vals 55) = W1 := ⟨_, rfl⟩
  have hbl : Below w.heap.size w W1 := by rw [← eW1]; exact hU.alloc hU.size _
  have s0 : W1.heap.size = B0 + 1 + 1 + 1 + 1 + 1 + 1 := by rw [← eW1, size_alloc, sU]
  have z1 : Boxed W1 (B0 + 1) 65 (.int .u16 0) := by rw [← eW1]; exact u1.alloc _
  have z2 : Boxed W1 (B0 + 1 + 1) 66 (.slice none 0 0) := by rw [← eW1]; exact u2.alloc _
  have z3 : NdH W1 (B0 + 1 + 1 + 1 + 1 + 1) hasN := by rw [← eW1, ← sU]; exact heap_new _ _
  rw [eW1] at cL
  have HB0 : Hid (w.heap.size = B0) := hB0
  have Hbl : Hid (Below w.heap.size w W1) := hbl
  have Hs0 : Hid (W1.heap.size = B0 + 1 + 1 + 1 + 1 + 1 + 1) := s0
  have Hz1 : Hid (Boxed W1 (B0 + 1) 65 (.int .u16 0)) := z1
  have Hz2 : Hid (Boxed W1 (B0 + 1 + 1) 66 (.slice none 0 0)) := z2
  have Hz3 : Hid (NdH W1 (B0 + 1 + 1 + 1 + 1 + 1) hasN) := z3
  have Hl : Hid (Lies w hasN) := hl
  clear eW1 sU hU u1 u2 hN hbl s0 z1 z2 z3 hl
  unfold Nd.vals hdA hasN at cL eU ⊢
  simp only [Nd.h, Nd.a, Nd.c, Nd.ks, List.length_nil] at cL eU ⊢
  go_wp2_with fail
  clear eU
  refine cL.mono ?_
  rintro e W2 ⟨rfl, e1⟩
  obtain rfl := e1
  go_wp2_with fail
  refine (wpIn_wide (n := 12)).1 ?_
  refine wpIn_rangeFunc_ownH rfl (by omega) (gf := 111) (lb := #[.pointer (some ⟨B0 + 1 + 1 + 1 + 1 + 1, 0, none⟩)]) rfl trivial (enters_of Tryz.func111 (by kernel_rfl) rfl)
    (all_stops 11 hasN (fun b => b = B0 + 1) (B0 + 1 + 1 + 1 + 1 + 1) w W2 Hl.out Hbl.out (fun b hb => by rw [Hs0.out, HB0.out, hb]; omega) Hz3.out)
    (fun h k => h.trans k) ?hKb (Below.refl _ _) (fun _ => rfl)
    (Fh w (B0 + 1) (B0 + 1 + 1))
    (fun _ pre _ => False)
    (fh_own w (B0 + 1) (B0 + 1 + 1) Hbl.out.size) (fun c => ownFrom_pure _ _) ⟨Hz1.out, Hz2.out, Hbl.out⟩
    (fun x a' W => ∃ Bt u5 u6 u8 u9 u10, a' = { tmps := #[.agg #[.int .u8 4, .int .u8 0, .int .u8 0, .int .i64 0, .int .u8 1, .string ⟨#[]⟩, .slice none 0 0, .int .i64 0], .pointer (some ⟨B0, 0, none⟩), .int .u16 0, .slice none 0 0, .pointer (some ⟨B0 + 1, 0, none⟩), u5, u6, .pointer (some ⟨Bt, 0, none⟩), u8, u9, u10, .agg (cutN ((pre hasN).getD x (.mk ⟨0, 0, 0, 0, 0, ⟨#[]⟩, 0⟩ none 0 []))).vals, undef, undef, undef, undef, undef, undef, undef, undef, undef, undef, undef, undef, undef, undef, undef, undef, undef, undef, undef, undef, undef, undef, undef, undef, undef, undef, undef, undef, undef], defers := [] } ∧ NdH W Bt (cutN ((pre hasN).getD x (.mk ⟨0, 0, 0, 0, 0, ⟨#[]⟩, 0⟩ none 0 []))))
    ?hAx ?assign ?body ?done ?stop
  case hKb => exact fun W l o o' h1 h2 h3 h4 => Kc.bound (w := W2) W l o o' h1 h2 h3 h4
  case hAx => exact fun x a' => ndx_own a' _ _
  case assign =>
    rintro lo pr x Y K hi hK
    unfold encN
    obtain ⟨T, eT⟩ : ∃ T, cutN ((pre hasN).getD x (.mk ⟨0, 0, 0, 0, 0, ⟨#[]⟩, 0⟩ none 0 [])) = T := ⟨_, rfl⟩
    rw [eT] at hK ⊢
    have HK : Hid (∀ a', (∃ Bt u5 u6 u8 u9 u10, a' = _ ∧ NdH (Y.alloc (.cells T.vals 55)) Bt T) → K a' (Y.alloc (.cells T.vals 55))) := fun a' hA => hK a' _ ⟨by simp, fun k o _ hk _ => (Below.heap_alloc _ _ _ (Array.getElem?_eq_some_iff.1 hk).1).trans hk⟩ (Kc.of_below (below_new _ _)) ((fh_own w (B0 + 1) (B0 + 1 + 1) (Nat.le_refl _)).alloc _ hi) hA
    clear hK hi eT
    unfold Nd.vals hdA at HK ⊢
    gi_wp2
    exact HK.out _ ⟨Y.heap.size, _, _, _, _, _, rfl, heap_new _ _⟩
  case body =>
    rintro lo pr x a' Y hlo hlr ⟨hb, hc, hm⟩ ⟨Bt, u5, u6, u8, u9, u10, rfl, hT⟩ hlen
    have HF : Hid (Fh w (B0 + 1) (B0 + 1 + 1) pr Y) := ⟨hb, hc, hm⟩
    have hne : Bt ≠ B0 + 1 := fun e => by
      subst e
      have h1 : Y.heap[B0 + 1]? = _ := hb
      have h2 : Y.heap[B0 + 1]? = _ := hT
      rw [h1] at h2
      cases h2
    obtain ⟨V, hV⟩ : ∃ V : Int, (if 0 ∈ pr then 2 else 0) = V := ⟨_, rfl⟩
    have hor : bits BinOp.or IntKind.u16 V 2 = 2 := by rw [← hV]; split <;> decide
    rw [hV] at hb
    have cb := hb.cell
    have fb := hb.frozen
    have HV : Hid ((if 0 ∈ pr then (2 : Int) else 0) = V) := hV
    have HT : Hid (Boxed Y (B0 + 1) 65 (.int .u16 V)) := hb
    clear hb hc hm hlen hlr hV
    rcases x with _ | x
    · have y0 : Y.cell? ⟨Bt, 0, none⟩ = some (.int .u8 4) := cell_of hT 0
      have y4 : Y.cell? ⟨Bt, 4, none⟩ = some (.int .u8 1) := cell_of hT 4
      clear hT
      gi_wp2
      refine ⟨⟨by simp [World.setCell], fun k o _ hk ho => (Below.heap_setCell _ _ _ _ (fun e => ?_)).trans hk⟩, ⟨by simp [World.setCell], fun k cs t fr hv _ => Below.heap_setCell _ _ _ _ hv⟩, ?_, ?_, HF.out.m.setCell (p := ⟨B0 + 1, 0, none⟩) (by rw [HB0.out]; exact Nat.le_succ _) _⟩
      · have e : k = B0 + 1 := e
        rw [e, show Y.heap[B0 + 1]? = _ from HT.out] at hk
        cases hk
        cases ho
      · rw [if_pos (by simp)]
        exact HT.out.set (.int .u16 2)
      · exact HF.out.c.other (by omega) _
    · have y0 : Y.cell? ⟨Bt, 0, none⟩ = some (.int .u8 0) := cell_of hT 0
      clear hT
      gi_wp2
      refine ⟨⟨Nat.le_refl _, fun _ _ _ h _ => h⟩, Kc.refl _ _, ?_, HF.out.c, HF.out.m⟩
      have e : (if 0 ∈ pr ++ [x + 1] then (2 : Int) else 0) = if 0 ∈ pr then 2 else 0 := by simp
      rw [e]
      exact HF.out.b
  case done =>
    rintro D xs W hD rfl ⟨hb, hc, hm⟩ hK
    have c1 := hb.cell
    have c2 := hc.cell
    have e1 : (0 ∈ List.range (pre hasN).length) := by decide
    rw [if_pos e1] at c1
    have HD : Hid (W.heap[D]? = some (.deferred (some []))) := hK
    have HM : Hid (Below w.heap.size w W) := hm
    clear hK hm hb hc
    go_upto_region 14 with fail
    go_quiet (fail)
    have HM2 : Hid (Below w.heap.size w (W.drewN nq)) := below_drew HM.out nq
    have HD2 : Hid ((W.drewN nq).heap[D]? = some (.deferred (some []))) := HD.out
    go_wp2_with fail
    refine leaves_marks (v := .tuple #[.int .u16 2, .slice none 0 0]) [D] (W.drewN nq) (by simp) (fun D' hD' => by simp at hD'; rw [hD']; exact HD2.out) (fun W' mv => ⟨results_t23 rfl _ _, rfl, ?_⟩)
    exact ((Mv.ofBelow HM2.out).trans mv (fun b e => .inr (by simp at e; rw [e]; have := Hbl.out.size; omega))).toBelow
  case stop =>
    intro D c pre W _ h1 h2 _
    exact absurd h2 (by simp)
end Go.Proofs.YtighocmdlifheaaGreatDoor
