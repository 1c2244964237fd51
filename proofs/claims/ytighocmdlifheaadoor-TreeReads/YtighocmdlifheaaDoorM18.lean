import Derived.Test.YtighocmdlifheaaDoorM8
import Derived.Deep.CutRange
import Derived.Deep.DeepCutAuto
import Derived.Deep.MidRow
import Derived.Test.YtighocmdlifheaaDoorBr
/-
  The chapter's examples: sum, least.
-/
namespace Go.Proofs.YtighocmdlifheaaDoor
open Go.RowKit
def litN (n : Int) : Nd := .mk ⟨1, 0, 1, n, 0, ⟨#[]⟩, 0⟩ none 0 []
def inN (b : Nat) : Nd := .mk ⟨6, 6, 0, 0, 0, ⟨#[]⟩, 5⟩ (some ⟨b, 0, none⟩) 2 [litN 2, litN 3]
def sumN (b c : Nat) : Nd := .mk ⟨6, 6, 0, 0, 0, ⟨#[]⟩, 0⟩ (some ⟨c, 0, none⟩) 2 [litN 1, inN b]
theorem lies_l1 (w : World) : Lies w (litN 1) := .mk _ _ _ _ ⟨by decide, by decide, by decide, by decide, by decide, by decide, by decide, by decide, by decide, by decide, by decide, by decide, by decide⟩ (Nat.le_refl _) (by decide) (fun i hi => by simp at hi) (fun k hk => by cases hk)
theorem lies_l2 (w : World) : Lies w (litN 2) := .mk _ _ _ _ ⟨by decide, by decide, by decide, by decide, by decide, by decide, by decide, by decide, by decide, by decide, by decide, by decide, by decide⟩ (Nat.le_refl _) (by decide) (fun i hi => by simp at hi) (fun k hk => by cases hk)
theorem lies_l3 (w : World) : Lies w (litN 3) := .mk _ _ _ _ ⟨by decide, by decide, by decide, by decide, by decide, by decide, by decide, by decide, by decide, by decide, by decide, by decide, by decide⟩ (Nat.le_refl _) (by decide) (fun i hi => by simp at hi) (fun k hk => by cases hk)
theorem lies_sum {w : World} {b c : Nat} (h1 : w.heap[b]? = some (.cells ((litN 2).vals ++ (litN 3).vals) 28 (0, 0))) (h2 : w.heap[c]? = some (.cells ((litN 1).vals ++ (inN b).vals) 28 (0, 0))) : Lies w (sumN b c) := by
  have hi : Lies w (inN b) := by
    refine .mk _ _ _ _ ⟨by decide, by decide, by decide, by decide, by decide, by decide, by decide, by decide, by decide, by decide, by decide, by decide, by decide⟩ (Nat.le_refl _) (by decide) (fun i hi => ⟨b, 0, rfl, ?_⟩) (fun k hk => ?_)
    · rcases (by simp at hi; omega : i = 0 ∨ i = 1) with rfl | rfl
      · exact ⟨cell_of h1 0, cell_of h1 1, cell_of h1 2, cell_of h1 3, cell_of h1 4, cell_of h1 5, cell_of h1 6, cell_of h1 7⟩
      · exact ⟨cell_of h1 8, cell_of h1 9, cell_of h1 10, cell_of h1 11, cell_of h1 12, cell_of h1 13, cell_of h1 14, cell_of h1 15⟩
    · simp at hk
      rcases hk with rfl | rfl
      · exact lies_l2 w
      · exact lies_l3 w
  refine .mk _ _ _ _ ⟨by decide, by decide, by decide, by decide, by decide, by decide, by decide, by decide, by decide, by decide, by decide, by decide, by decide⟩ (Nat.le_refl _) (by decide) (fun i hi => ⟨c, 0, rfl, ?_⟩) (fun k hk => ?_)
  · rcases (by simp at hi; omega : i = 0 ∨ i = 1) with rfl | rfl
    · exact ⟨cell_of h2 0, cell_of h2 1, cell_of h2 2, cell_of h2 3, cell_of h2 4, cell_of h2 5, cell_of h2 6, cell_of h2 7⟩
    · exact ⟨cell_of h2 8, cell_of h2 9, cell_of h2 10, cell_of h2 11, cell_of h2 12, cell_of h2 13, cell_of h2 14, cell_of h2 15⟩
  · simp at hk
    rcases hk with rfl | rfl
    · exact lies_l1 w
    · exact hi
theorem new1 (w : World) (A B : Obj) : ((w.alloc A).alloc B).heap[w.heap.size + 1]? = some B := by
  have := heap_new (w.alloc A) B
  rwa [size_alloc] at this
theorem new2 (w : World) (A B C : Obj) : (((w.alloc A).alloc B).alloc C).heap[w.heap.size + 1 + 1]? = some C := by
  have := heap_new ((w.alloc A).alloc B) C
  rwa [size_alloc, size_alloc] at this
theorem new3 (w : World) (A B C D : Obj) : ((((w.alloc A).alloc B).alloc C).alloc D).heap[w.heap.size + 1 + 1 + 1]? = some D := by
  have := heap_new (((w.alloc A).alloc B).alloc C) D
  rwa [size_alloc, size_alloc, size_alloc] at this
theorem new4 (w : World) (A B C D E : Obj) : (((((w.alloc A).alloc B).alloc C).alloc D).alloc E).heap[w.heap.size + 1 + 1 + 1 + 1]? = some E := by
  have := heap_new ((((w.alloc A).alloc B).alloc C).alloc D) E
  rwa [size_alloc, size_alloc, size_alloc, size_alloc] at this
theorem four {w : World} {A B C D : Obj} : ((((w.alloc A).alloc B).alloc C).alloc D).heap[w.heap.size]? = some A ∧ ((((w.alloc A).alloc B).alloc C).alloc D).heap[w.heap.size + 1]? = some B ∧ ((((w.alloc A).alloc B).alloc C).alloc D).heap[w.heap.size + 1 + 1 + 1]? = some D :=
  ⟨heap_old (heap_old (heap_old (heap_new w A) (by simp)) (by simp <;> omega)) (by simp <;> omega), heap_old (heap_old (new1 w A B) (by simp)) (by simp <;> omega), new3 w A B C D⟩
theorem below4 (w : World) (A B C D : Obj) : Below w.heap.size w ((((w.alloc A).alloc B).alloc C).alloc D) := (((below_new w A).alloc (by simp) B).alloc (by simp <;> omega) C).alloc (by simp <;> omega) D
set_option maxRecDepth 100000 in
set_option maxHeartbeats 4000000 in
theorem sum_any (w : World) : Calls Tryd.prog 22 #[] w fun e w' => (∃ b c, e = .returned (.agg (sumN b c).vals) ∧ Lies w' (sumN b c)) ∧ Below w.heap.size w w' := by
  go_enter Tryd.func22, Tryd.ntmps22
  go_wp2_with fail
  exact bodyPost_ret (results_cell_row rfl _ _ w.heap.size 28 (sumN (w.heap.size + 1) (w.heap.size + 1 + 1 + 1)).vals (0, 0) _ rfl four.1 Tryd.underlying28 rfl (by kernel_rfl)) rfl ⟨⟨_, _, rfl, lies_sum four.2.1 four.2.2⟩, below4 _ _ _ _ _⟩
/-- The chapter's smallest strategy, as it lies. -/
structure Least (w : World) (b2 b3 b4 : Nat) : Prop where
  h2 : w.heap[b2]? = some (.cells (doZ 6).toArray 104 (0, 0))
  h3 : w.heap[b3]? = some (.cells #[.int .u8 4, .int .u8 0, .int .u8 0, .int .i64 0, .int .u8 1, .string ⟨#[]⟩, .slice none 0 0, .int .i64 0, .slice (some ⟨b2, 0, none⟩) 1 1, .int .i64 0] 75 (0, 0))
  h4 : w.heap[b4]? = some (.cells #[.string ⟨#[97]⟩, .slice (some ⟨b3, 0, none⟩) 1 1, .int .i64 0] 78 (0, 0))
theorem five {w : World} {A B C D E : Obj} : (((((w.alloc A).alloc B).alloc C).alloc D).alloc E).heap[w.heap.size]? = some A ∧ (((((w.alloc A).alloc B).alloc C).alloc D).alloc E).heap[w.heap.size + 1 + 1]? = some C ∧ (((((w.alloc A).alloc B).alloc C).alloc D).alloc E).heap[w.heap.size + 1 + 1 + 1]? = some D ∧ (((((w.alloc A).alloc B).alloc C).alloc D).alloc E).heap[w.heap.size + 1 + 1 + 1 + 1]? = some E :=
  ⟨heap_old four.1 (by simp <;> omega), heap_old (heap_old (new2 w A B C) (by simp)) (by simp <;> omega), heap_old four.2.2 (by simp), new4 w A B C D E⟩
set_option maxRecDepth 100000 in
set_option maxHeartbeats 4000000 in
theorem least_any (w : World) : Calls Tryd.prog 27 #[] w fun e w' => (∃ b2 b3 b4, e = .returned (.agg #[.string ⟨#[115]⟩, .slice none 0 0, .slice none 0 0, .slice (some ⟨b4, 0, none⟩) 1 1]) ∧ Least w' b2 b3 b4) ∧ Below w.heap.size w w' := by
  go_enter Tryd.func27, Tryd.ntmps27
  go_wp2_with fail
  exact bodyPost_ret (results_cell_row rfl _ _ w.heap.size 71 #[.string ⟨#[115]⟩, .slice none 0 0, .slice none 0 0, .slice (some ⟨w.heap.size + 1 + 1 + 1 + 1, 0, none⟩) 1 1] (0, 0) _ rfl five.1 Tryd.underlying71 rfl (by kernel_rfl)) rfl ⟨⟨w.heap.size + 1 + 1, w.heap.size + 1 + 1 + 1, w.heap.size + 1 + 1 + 1 + 1, rfl, five.2.1, five.2.2.1, five.2.2.2⟩, (below4 _ _ _ _ _).alloc (by simp <;> omega) _⟩
end Go.Proofs.YtighocmdlifheaaDoor

/-
  needState, needStrategy, Check: of one state with one rule, and of none.
-/
namespace Go.Proofs.YtighocmdlifheaaDoor
open Go.RowKit
def ruZ : List Value := ndZ ++ [.slice none 0 0, .int .i64 0]
theorem zero75 : (Tryd.prog.info? 75).map (·.zero) = some (some (.agg ruZ.toArray)) := by kernel_rfl
theorem size75 : (Tryd.prog.info? 75).map (·.size) = some 10 := by kernel_rfl
def stZ : List Value := [.string ⟨#[]⟩, .slice none 0 0, .int .i64 0]
theorem zero78 : (Tryd.prog.info? 78).map (·.zero) = some (some (.agg stZ.toArray)) := by kernel_rfl
theorem size78 : (Tryd.prog.info? 78).map (·.size) = some 3 := by kernel_rfl
set_option maxRecDepth 100000 in
set_option maxHeartbeats 4000000 in
theorem state_one (w0 : World) (d : List Value) (hd : d.length = 10) (h1 : d.toArray.all (·.oneCell') = true) (cD : ∀ v, Below w0.heap.size w0 v → Calls Tryd.prog 73 #[.agg d.toArray] v fun e w' => e = .returned (.tuple #[]) ∧ Below v.heap.size v w') (b : Nat) (w : World) (h0 : Below w0.heap.size w0 w) (hr : w.rangeAt b 0 d) (ht : Tab w) :
    Calls Tryd.prog 67 #[.agg #[.string ⟨#[97]⟩, .slice (some ⟨b, 0, none⟩) 1 1, .int .i64 0]] w fun e w' => e = .returned (.tuple #[]) ∧ Below w.heap.size w w' := by
  obtain ⟨W, eW⟩ : ∃ W, w.alloc (.cells #[.string ⟨#[97]⟩, .slice (some ⟨b, 0, none⟩) 1 1, .int .i64 0] 78) = W := ⟨_, rfl⟩
  have hbW : Below w.heap.size w W := by rw [← eW]; exact below_new _ _
  have hW : W.heap[w.heap.size]? = some (.cells #[.string ⟨#[97]⟩, .slice (some ⟨b, 0, none⟩) 1 1, .int .i64 0] 78 (0, 0)) := by rw [← eW]; exact heap_new _ _
  have cE := name_ok ⟨#[97]⟩ (by decide) (by decide) W (ht.on hbW)
  have y0 : W.cell? ⟨w.heap.size, 0, none⟩ = some (.string ⟨#[97]⟩) := cell_of hW 0
  have HW : Hid (W.heap[w.heap.size]? = some (.cells #[.string ⟨#[97]⟩, .slice (some ⟨b, 0, none⟩) 1 1, .int .i64 0] 78 (0, 0))) := hW
  have HBW : Hid (Below w.heap.size w W) := hbW
  have HR : Hid (w.rangeAt b 0 d) := hr
  have HD : Hid (d.length = 10) := hd
  have H1 : Hid (d.toArray.all (·.oneCell') = true) := h1
  have H0 : Hid (Below w0.heap.size w0 w) := h0
  clear hbW hW hr hd h1 ht h0
  go_enter Tryd.func67, Tryd.ntmps67
  go_wp2_with fail
  clear eW
  refine cE.mono ?_
  rintro e w1 ⟨rfl, hb⟩
  have z8 : w1.cell? ⟨w.heap.size, 1, none⟩ = some (.slice (some ⟨b, 0, none⟩) 1 1) := cell_of ((hb.block _ (Array.getElem?_eq_some_iff.1 HW.out).1).trans HW.out) 1
  have HB1 : Hid (Below w.heap.size w w1) := below2 HBW.out hb
  clear hb cE y0 HBW HW
  go_wp2_with (go_at_call 65; refine (count_ok 1 0 12 (by decide) (by decide) _).mono ?_; rintro e w3 ⟨rfl, e4⟩; obtain rfl := e4.symm)
  go_loopw [3, 14] (fun _ t wr => ∃ i : Nat, i ≤ 1 ∧ t = .int .i64 i ∧ Hid (Below w.heap.size w wr)) (fun _ t _ => 1 - (intOf t).toNat)
  case atStart => exact ⟨0, by omega, rfl, HB1⟩
  case round =>
    obtain ⟨i, hi, rfl, HBr⟩ := hrel
    rcases (by omega : i = 0 ∨ i = 1) with rfl | rfl
    · have HRr : Hid (wr.rangeAt b 0 d) := range_on HR.out HBr.out
      go_wp2_with (first
        | (refine wpList_load_mid rfl 75 (.tmp 16) rfl b 0 rfl d _ HRr.out Tryd.underlying75 rfl (by rw [HD.out]; exact size75) ?_)
        | (refine wpList_new_row rfl rfl 75 rfl (.tmp 3) (.tmp 17) rfl ruZ.toArray zero75 (by exact size75) d.toArray (by rw [List.size_toArray, HD.out]; rfl) rfl rfl H1.out ?_; intro Y hY; have HY : Hid (Fil wr d 75 Y) := hY; clear hY)
        | (refine wpList_load_mid rfl 75 (.tmp 3) rfl wr.heap.size 0 rfl d _ HY.out.r Tryd.underlying75 rfl (by rw [HD.out]; exact size75) ?_))
      refine (cD _ (below2 (below2 H0.out HBr.out) HY.out.B)).mono ?_
      rintro e w5 ⟨rfl, hb5⟩
      have HB5 : Hid (Below w.heap.size w w5) := below2 (below2 HBr.out HY.out.B) hb5
      clear hb5
      go_wp2_with fail
      exact ⟨⟨1, by omega, rfl, HB5⟩, by simp only [intOf]; omega⟩
    · go_wp2_with fail
      go_end0
      exact ⟨rfl, HBr.out⟩
end Go.Proofs.YtighocmdlifheaaDoor

/-
  needStrategy, Check: of a strategy of one state, and of one without.
-/
namespace Go.Proofs.YtighocmdlifheaaDoor
open Go.RowKit
set_option maxRecDepth 100000 in
set_option maxHeartbeats 4000000 in
theorem strat_one (w0 : World) (d : List Value) (hd : d.length = 3) (h1 : d.toArray.all (·.oneCell') = true) (cD : ∀ v, Below w0.heap.size w0 v → Calls Tryd.prog 67 #[.agg d.toArray] v fun e w' => e = .returned (.tuple #[]) ∧ Below v.heap.size v w') (b : Nat) (w : World) (h0 : Below w0.heap.size w0 w) (hr : w.rangeAt b 0 d) (ht : Tab w) :
    Calls Tryd.prog 54 #[.agg #[.string ⟨#[115]⟩, .slice none 0 0, .slice none 0 0, .slice (some ⟨b, 0, none⟩) 1 1]] w fun e w' => e = .returned (.tuple #[]) ∧ Below w.heap.size w w' := by
  obtain ⟨W, eW⟩ : ∃ W, w.alloc (.cells #[.string ⟨#[115]⟩, .slice none 0 0, .slice none 0 0, .slice (some ⟨b, 0, none⟩) 1 1] 71) = W := ⟨_, rfl⟩
  have hbW : Below w.heap.size w W := by rw [← eW]; exact below_new _ _
  have hW : W.heap[w.heap.size]? = some (.cells #[.string ⟨#[115]⟩, .slice none 0 0, .slice none 0 0, .slice (some ⟨b, 0, none⟩) 1 1] 71 (0, 0)) := by rw [← eW]; exact heap_new _ _
  have cE := name_ok ⟨#[115]⟩ (by decide) (by decide) W (ht.on hbW)
  have y0 : W.cell? ⟨w.heap.size, 0, none⟩ = some (.string ⟨#[115]⟩) := cell_of hW 0
  have HW : Hid (W.heap[w.heap.size]? = some (.cells #[.string ⟨#[115]⟩, .slice none 0 0, .slice none 0 0, .slice (some ⟨b, 0, none⟩) 1 1] 71 (0, 0))) := hW
  have HBW : Hid (Below w.heap.size w W) := hbW
  have HR : Hid (w.rangeAt b 0 d) := hr
  have HD : Hid (d.length = 3) := hd
  have H1 : Hid (d.toArray.all (·.oneCell') = true) := h1
  have H0 : Hid (Below w0.heap.size w0 w) := h0
  clear hbW hW hr hd h1 ht h0
  go_enter Tryd.func54, Tryd.ntmps54
  go_wp2_with fail
  clear eW
  refine cE.mono ?_
  rintro e w1 ⟨rfl, hb⟩
  have z1 : w1.cell? ⟨w.heap.size, 1, none⟩ = some (.slice none 0 0) := cell_of ((hb.block _ (Array.getElem?_eq_some_iff.1 HW.out).1).trans HW.out) 1
  have z2 : w1.cell? ⟨w.heap.size, 2, none⟩ = some (.slice none 0 0) := cell_of ((hb.block _ (Array.getElem?_eq_some_iff.1 HW.out).1).trans HW.out) 2
  have z3 : w1.cell? ⟨w.heap.size, 3, none⟩ = some (.slice (some ⟨b, 0, none⟩) 1 1) := cell_of ((hb.block _ (Array.getElem?_eq_some_iff.1 HW.out).1).trans HW.out) 3
  have HB1 : Hid (Below w.heap.size w w1) := below2 HBW.out hb
  clear hb cE y0 HBW HW
  go_wp2_with (go_at_call 65; refine (count_ok 0 0 12 (by decide) (by decide) _).mono ?_; rintro e w3 ⟨rfl, e4⟩; obtain rfl := e4.symm)
  go_loopw [3, 18] (fun _ t wr => t = .int .i64 0 ∧ wr = w1) (fun _ t _ => 0)
  case atStart => exact ⟨rfl, rfl⟩
  case round =>
    obtain ⟨rfl, rfl⟩ := hrel
    go_wp2_with (go_at_call 65; refine (count_ok 0 0 4 (by decide) (by decide) _).mono ?_; rintro e w3 ⟨rfl, e4⟩; obtain rfl := e4.symm)
    go_loopw [5, 32] (fun _ t wq => t = .int .i64 0 ∧ wq = wr) (fun _ t _ => 0)
    case atStart => exact ⟨rfl, rfl⟩
    case round =>
      obtain ⟨rfl, rfl⟩ := hrel
      go_wp2_with (go_at_call 65; refine (count_ok 1 1 12 (by decide) (by decide) _).mono ?_; rintro e w3 ⟨rfl, e4⟩; obtain rfl := e4.symm)
      go_loopw [7, 47] (fun _ t wz => ∃ i : Nat, i ≤ 1 ∧ t = .int .i64 i ∧ Hid (Below w.heap.size w wz)) (fun _ t _ => 1 - (intOf t).toNat)
      case atStart => exact ⟨0, by omega, rfl, HB1⟩
      case round =>
        obtain ⟨i, hi, rfl, HBr⟩ := hrel
        rcases (by omega : i = 0 ∨ i = 1) with rfl | rfl
        · have HRr : Hid (wr.rangeAt b 0 d) := range_on HR.out HBr.out
          go_wp2_with (first
            | (refine wpList_load_mid rfl 78 (.tmp 49) rfl b 0 rfl d _ HRr.out Tryd.underlying78 rfl (by rw [HD.out]; exact size78) ?_)
            | (refine wpList_new_row rfl rfl 78 rfl (.tmp 7) (.tmp 50) rfl stZ.toArray zero78 (by exact size78) d.toArray (by rw [List.size_toArray, HD.out]; rfl) rfl rfl H1.out ?_; intro Y hY; have HY : Hid (Fil wr d 78 Y) := hY; clear hY)
            | (refine wpList_load_mid rfl 78 (.tmp 7) rfl wr.heap.size 0 rfl d _ HY.out.r Tryd.underlying78 rfl (by rw [HD.out]; exact size78) ?_))
          refine (cD _ (below2 (below2 H0.out HBr.out) HY.out.B)).mono ?_
          rintro e w5 ⟨rfl, hb5⟩
          have HB5 : Hid (Below w.heap.size w w5) := below2 (below2 HBr.out HY.out.B) hb5
          clear hb5
          go_wp2_with fail
          exact ⟨⟨1, by omega, rfl, HB5⟩, by simp only [intOf]; omega⟩
        · go_wp2_with fail
          go_end0
          exact ⟨rfl, HBr.out⟩
set_option maxRecDepth 100000 in
theorem count_lo (n l m : Int) (h1 : ¬ l ≤ n) (w : World) : Calls Tryd.prog 65 #[.int .i64 n, .int .i64 l, .int .i64 m] w fun e w' => e = .panicked [{ v := .iface 64 (.int .i64 120), recovered := false }] ∧ w' = w := by
  have d1 : decide (l ≤ n) = false := decide_eq_false h1
  have cN := need_f 120 w
  go_enter Tryd.func65, Tryd.ntmps65
  go_wp2_with fail
  refine cN.mono ?_
  rintro e w3 ⟨rfl, rfl⟩
  exact ⟨rfl, rfl, rfl⟩
set_option maxRecDepth 100000 in
set_option maxHeartbeats 4000000 in
theorem strat_none (w : World) (ht : Tab w) :
    Calls Tryd.prog 54 #[.agg #[.string ⟨#[115]⟩, .slice none 0 0, .slice none 0 0, .slice none 0 0]] w fun e w' => e = .panicked [{ v := .iface 64 (.int .i64 120), recovered := false }] ∧ Below w.heap.size w w' := by
  obtain ⟨W, eW⟩ : ∃ W, w.alloc (.cells #[.string ⟨#[115]⟩, .slice none 0 0, .slice none 0 0, .slice none 0 0] 71) = W := ⟨_, rfl⟩
  have hbW : Below w.heap.size w W := by rw [← eW]; exact below_new _ _
  have hW : W.heap[w.heap.size]? = some (.cells #[.string ⟨#[115]⟩, .slice none 0 0, .slice none 0 0, .slice none 0 0] 71 (0, 0)) := by rw [← eW]; exact heap_new _ _
  have cE := name_ok ⟨#[115]⟩ (by decide) (by decide) W (ht.on hbW)
  have y0 : W.cell? ⟨w.heap.size, 0, none⟩ = some (.string ⟨#[115]⟩) := cell_of hW 0
  have HW : Hid (W.heap[w.heap.size]? = some (.cells #[.string ⟨#[115]⟩, .slice none 0 0, .slice none 0 0, .slice none 0 0] 71 (0, 0))) := hW
  have HBW : Hid (Below w.heap.size w W) := hbW
  clear hbW hW ht
  go_enter Tryd.func54, Tryd.ntmps54
  go_wp2_with fail
  clear eW
  refine cE.mono ?_
  rintro e w1 ⟨rfl, hb⟩
  have z1 : w1.cell? ⟨w.heap.size, 1, none⟩ = some (.slice none 0 0) := cell_of ((hb.block _ (Array.getElem?_eq_some_iff.1 HW.out).1).trans HW.out) 1
  have z2 : w1.cell? ⟨w.heap.size, 2, none⟩ = some (.slice none 0 0) := cell_of ((hb.block _ (Array.getElem?_eq_some_iff.1 HW.out).1).trans HW.out) 2
  have z3 : w1.cell? ⟨w.heap.size, 3, none⟩ = some (.slice none 0 0) := cell_of ((hb.block _ (Array.getElem?_eq_some_iff.1 HW.out).1).trans HW.out) 3
  have HB1 : Hid (Below w.heap.size w w1) := below2 HBW.out hb
  clear hb cE y0 HBW HW
  go_wp2_with (go_at_call 65; refine (count_ok 0 0 12 (by decide) (by decide) _).mono ?_; rintro e w3 ⟨rfl, e4⟩; obtain rfl := e4.symm)
  go_loopw [3, 18] (fun _ t wr => t = .int .i64 0 ∧ wr = w1) (fun _ t _ => 0)
  case atStart => exact ⟨rfl, rfl⟩
  case round =>
    obtain ⟨rfl, rfl⟩ := hrel
    go_wp2_with (go_at_call 65; refine (count_ok 0 0 4 (by decide) (by decide) _).mono ?_; rintro e w3 ⟨rfl, e4⟩; obtain rfl := e4.symm)
    go_loopw [5, 32] (fun _ t wq => t = .int .i64 0 ∧ wq = wr) (fun _ t _ => 0)
    case atStart => exact ⟨rfl, rfl⟩
    case round =>
      obtain ⟨rfl, rfl⟩ := hrel
      have cN := count_lo 0 1 12 (by decide) wr
      go_wp2_with fail
      refine cN.mono ?_
      rintro e w3 ⟨rfl, rfl⟩
      exact ⟨rfl, rfl, HB1.out⟩
theorem enter53 (args : Array Value) (v : World) : Sem.run Tryd.prog (callFunc 53 args) v = .ok (.enter 53 args) v := by kernel_rfl
set_option maxRecDepth 100000 in
theorem check_any (a0 a1 a2 a3 : Value) (E : Int) (w : World)
    (cF : ∀ v, Below w.heap.size w v → Gives 54 #[.agg #[a0, a1, a2, a3]] v E) :
    Calls Tryd.prog 26 #[.agg #[a0, a1, a2, a3]] w fun e w' => e = .returned (.int .i64 E) ∧ Below w.heap.size w w' := by
  have hmf : ∀ (fn : Fn) (first cap : Array Value) (w : World), (Instr.makeFunc fn first cap).run Tryd.prog w = .ok (.func fn first cap) w := fun _ _ _ _ => rfl
  have c := found_any 53 enter53 #[.pointer (some ⟨w.heap.size, 0, none⟩)] E (w.alloc (.cells #[a0, a1, a2, a3] 71)) (fun v hv => ?_)
  · go_enter Tryd.func26, Tryd.ntmps26
    go_wp2_with fail
    refine c.mono ?_
    rintro e w1 ⟨rfl, hb⟩
    go_wp2_with fail
    go_ret
    exact ⟨rfl, below2 (below_new _ _) hb⟩
  · have hk := (hv.block w.heap.size (by simp)).trans (heap_new w _)
    have y0 : v.cell? ⟨w.heap.size, 0, none⟩ = some a0 := cell_of hk 0
    have y1 : v.cell? ⟨w.heap.size, 1, none⟩ = some a1 := cell_of hk 1
    have y2 : v.cell? ⟨w.heap.size, 2, none⟩ = some a2 := cell_of hk 2
    have y3 : v.cell? ⟨w.heap.size, 3, none⟩ = some a3 := cell_of hk 3
    have c := cF v (below2 (below_new _ _) hv)
    unfold Gives at c
    clear hk hv cF
    go_enter Tryd.func53, Tryd.ntmps53
    go_wp2_with fail
    refine c.mono ?_
    rintro e w1 ⟨h1 | h1, hb⟩
    · obtain ⟨h2, rfl⟩ := h1
      have HE : Hid (E = 0) := h2
      clear h2
      go_wp2_with fail
      go_end0
      exact ⟨.inl ⟨HE.out, rfl⟩, hb⟩
    · obtain ⟨h2, rfl⟩ := h1
      exact ⟨rfl, .inr ⟨h2, rfl⟩, hb⟩
end Go.Proofs.YtighocmdlifheaaDoor

/-
  needDo, of a thing done that halts.
-/
namespace Go.Proofs.YtighocmdlifheaaDoor
open Go.RowKit
/-- What a look at a thing done reads: it halts. -/
structure Dz (w : World) (b : Nat) : Prop where
  d : w.heap[b]? = some (.cells #[.int .u8 6, .int .u8 0, .string ⟨#[]⟩, .int .u8 0, .int .u8 0, .int .u8 0, .int .i64 0, .int .u8 0, .string ⟨#[]⟩, .slice none 0 0, .int .i64 0, .int .u8 0, .int .u8 0, .int .u8 0, .int .i64 0, .int .u8 0, .string ⟨#[]⟩, .slice none 0 0, .int .i64 0, .int .u8 0, .int .u8 0, .int .u8 0, .int .i64 0, .int .u8 0, .string ⟨#[]⟩, .slice none 0 0, .int .i64 0, .int .u8 0, .int .u8 0, .int .u8 0, .int .i64 0, .int .u8 0, .string ⟨#[]⟩, .slice none 0 0, .int .i64 0, .int .i64 0] 104 (0, 0))
theorem Dz.on {w w' : World} {b : Nat} (h : Dz w b) (k : Below w.heap.size w w') : Dz w' b := ⟨(k.block b (Array.getElem?_eq_some_iff.1 h.d).1).trans h.d⟩
theorem Dz.c0 {w : World} {b : Nat} (h : Dz w b) : w.cell? ⟨b, 0, none⟩ = some (.int .u8 6) := cell_of h.d 0
theorem Dz.c1 {w : World} {b : Nat} (h : Dz w b) : w.cell? ⟨b, 1, none⟩ = some (.int .u8 0) := cell_of h.d 1
theorem Dz.c2 {w : World} {b : Nat} (h : Dz w b) : w.cell? ⟨b, 2, none⟩ = some (.string ⟨#[]⟩) := cell_of h.d 2
theorem Dz.c3 {w : World} {b : Nat} (h : Dz w b) : w.cell? ⟨b, 3, none⟩ = some (.int .u8 0) := cell_of h.d 3
theorem Dz.c4 {w : World} {b : Nat} (h : Dz w b) : w.cell? ⟨b, 4, none⟩ = some (.int .u8 0) := cell_of h.d 4
theorem Dz.c5 {w : World} {b : Nat} (h : Dz w b) : w.cell? ⟨b, 5, none⟩ = some (.int .u8 0) := cell_of h.d 5
theorem Dz.c6 {w : World} {b : Nat} (h : Dz w b) : w.cell? ⟨b, 6, none⟩ = some (.int .i64 0) := cell_of h.d 6
theorem Dz.c7 {w : World} {b : Nat} (h : Dz w b) : w.cell? ⟨b, 7, none⟩ = some (.int .u8 0) := cell_of h.d 7
theorem Dz.c8 {w : World} {b : Nat} (h : Dz w b) : w.cell? ⟨b, 8, none⟩ = some (.string ⟨#[]⟩) := cell_of h.d 8
theorem Dz.c9 {w : World} {b : Nat} (h : Dz w b) : w.cell? ⟨b, 9, none⟩ = some (.slice none 0 0) := cell_of h.d 9
theorem Dz.c10 {w : World} {b : Nat} (h : Dz w b) : w.cell? ⟨b, 10, none⟩ = some (.int .i64 0) := cell_of h.d 10
theorem Dz.c11 {w : World} {b : Nat} (h : Dz w b) : w.cell? ⟨b, 11, none⟩ = some (.int .u8 0) := cell_of h.d 11
theorem Dz.c12 {w : World} {b : Nat} (h : Dz w b) : w.cell? ⟨b, 12, none⟩ = some (.int .u8 0) := cell_of h.d 12
theorem Dz.c13 {w : World} {b : Nat} (h : Dz w b) : w.cell? ⟨b, 13, none⟩ = some (.int .u8 0) := cell_of h.d 13
theorem Dz.c14 {w : World} {b : Nat} (h : Dz w b) : w.cell? ⟨b, 14, none⟩ = some (.int .i64 0) := cell_of h.d 14
theorem Dz.c15 {w : World} {b : Nat} (h : Dz w b) : w.cell? ⟨b, 15, none⟩ = some (.int .u8 0) := cell_of h.d 15
theorem Dz.c16 {w : World} {b : Nat} (h : Dz w b) : w.cell? ⟨b, 16, none⟩ = some (.string ⟨#[]⟩) := cell_of h.d 16
theorem Dz.c17 {w : World} {b : Nat} (h : Dz w b) : w.cell? ⟨b, 17, none⟩ = some (.slice none 0 0) := cell_of h.d 17
theorem Dz.c18 {w : World} {b : Nat} (h : Dz w b) : w.cell? ⟨b, 18, none⟩ = some (.int .i64 0) := cell_of h.d 18
theorem Dz.c19 {w : World} {b : Nat} (h : Dz w b) : w.cell? ⟨b, 19, none⟩ = some (.int .u8 0) := cell_of h.d 19
theorem Dz.c20 {w : World} {b : Nat} (h : Dz w b) : w.cell? ⟨b, 20, none⟩ = some (.int .u8 0) := cell_of h.d 20
theorem Dz.c21 {w : World} {b : Nat} (h : Dz w b) : w.cell? ⟨b, 21, none⟩ = some (.int .u8 0) := cell_of h.d 21
theorem Dz.c22 {w : World} {b : Nat} (h : Dz w b) : w.cell? ⟨b, 22, none⟩ = some (.int .i64 0) := cell_of h.d 22
theorem Dz.c23 {w : World} {b : Nat} (h : Dz w b) : w.cell? ⟨b, 23, none⟩ = some (.int .u8 0) := cell_of h.d 23
theorem Dz.c24 {w : World} {b : Nat} (h : Dz w b) : w.cell? ⟨b, 24, none⟩ = some (.string ⟨#[]⟩) := cell_of h.d 24
theorem Dz.c25 {w : World} {b : Nat} (h : Dz w b) : w.cell? ⟨b, 25, none⟩ = some (.slice none 0 0) := cell_of h.d 25
theorem Dz.c26 {w : World} {b : Nat} (h : Dz w b) : w.cell? ⟨b, 26, none⟩ = some (.int .i64 0) := cell_of h.d 26
theorem Dz.c27 {w : World} {b : Nat} (h : Dz w b) : w.cell? ⟨b, 27, none⟩ = some (.int .u8 0) := cell_of h.d 27
theorem Dz.c28 {w : World} {b : Nat} (h : Dz w b) : w.cell? ⟨b, 28, none⟩ = some (.int .u8 0) := cell_of h.d 28
theorem Dz.c29 {w : World} {b : Nat} (h : Dz w b) : w.cell? ⟨b, 29, none⟩ = some (.int .u8 0) := cell_of h.d 29
theorem Dz.c30 {w : World} {b : Nat} (h : Dz w b) : w.cell? ⟨b, 30, none⟩ = some (.int .i64 0) := cell_of h.d 30
theorem Dz.c31 {w : World} {b : Nat} (h : Dz w b) : w.cell? ⟨b, 31, none⟩ = some (.int .u8 0) := cell_of h.d 31
theorem Dz.c32 {w : World} {b : Nat} (h : Dz w b) : w.cell? ⟨b, 32, none⟩ = some (.string ⟨#[]⟩) := cell_of h.d 32
theorem Dz.c33 {w : World} {b : Nat} (h : Dz w b) : w.cell? ⟨b, 33, none⟩ = some (.slice none 0 0) := cell_of h.d 33
theorem Dz.c34 {w : World} {b : Nat} (h : Dz w b) : w.cell? ⟨b, 34, none⟩ = some (.int .i64 0) := cell_of h.d 34
theorem Dz.c35 {w : World} {b : Nat} (h : Dz w b) : w.cell? ⟨b, 35, none⟩ = some (.int .i64 0) := cell_of h.d 35
theorem Dz.range {w : World} {b : Nat} (h : Dz w b) : w.rangeAt b 0 [.int .u8 6, .int .u8 0, .string ⟨#[]⟩, .int .u8 0, .int .u8 0, .int .u8 0, .int .i64 0, .int .u8 0, .string ⟨#[]⟩, .slice none 0 0, .int .i64 0, .int .u8 0, .int .u8 0, .int .u8 0, .int .i64 0, .int .u8 0, .string ⟨#[]⟩, .slice none 0 0, .int .i64 0, .int .u8 0, .int .u8 0, .int .u8 0, .int .i64 0, .int .u8 0, .string ⟨#[]⟩, .slice none 0 0, .int .i64 0, .int .u8 0, .int .u8 0, .int .u8 0, .int .i64 0, .int .u8 0, .string ⟨#[]⟩, .slice none 0 0, .int .i64 0, .int .i64 0] := fun j v hv => by
  have := cell_of h.d j
  rw [Nat.zero_add, this, ← hv]
  simp
structure Nz (w : World) (b : Nat) : Prop where
  d : w.heap[b]? = some (.cells #[.bool false, .bool false, .bool false, .bool false, .bool false, .bool false] 169 (0, 0))
theorem Nz.on {w w' : World} {b : Nat} (h : Nz w b) (k : Below w.heap.size w w') : Nz w' b := ⟨(k.block b (Array.getElem?_eq_some_iff.1 h.d).1).trans h.d⟩
theorem Nz.c0 {w : World} {b : Nat} (h : Nz w b) : w.cell? ⟨b, 0, none⟩ = some (.bool false) := cell_of h.d 0
theorem Nz.c1 {w : World} {b : Nat} (h : Nz w b) : w.cell? ⟨b, 1, none⟩ = some (.bool false) := cell_of h.d 1
theorem Nz.c2 {w : World} {b : Nat} (h : Nz w b) : w.cell? ⟨b, 2, none⟩ = some (.bool false) := cell_of h.d 2
theorem Nz.c3 {w : World} {b : Nat} (h : Nz w b) : w.cell? ⟨b, 3, none⟩ = some (.bool false) := cell_of h.d 3
theorem Nz.c4 {w : World} {b : Nat} (h : Nz w b) : w.cell? ⟨b, 4, none⟩ = some (.bool false) := cell_of h.d 4
theorem Nz.c5 {w : World} {b : Nat} (h : Nz w b) : w.cell? ⟨b, 5, none⟩ = some (.bool false) := cell_of h.d 5
set_option maxRecDepth 100000 in
set_option maxHeartbeats 4000000 in
theorem do_halt (w : World) : Calls Tryd.prog 79 #[.agg #[.int .u8 6, .int .u8 0, .string ⟨#[]⟩, .int .u8 0, .int .u8 0, .int .u8 0, .int .i64 0, .int .u8 0, .string ⟨#[]⟩, .slice none 0 0, .int .i64 0, .int .u8 0, .int .u8 0, .int .u8 0, .int .i64 0, .int .u8 0, .string ⟨#[]⟩, .slice none 0 0, .int .i64 0, .int .u8 0, .int .u8 0, .int .u8 0, .int .i64 0, .int .u8 0, .string ⟨#[]⟩, .slice none 0 0, .int .i64 0, .int .u8 0, .int .u8 0, .int .u8 0, .int .i64 0, .int .u8 0, .string ⟨#[]⟩, .slice none 0 0, .int .i64 0, .int .i64 0]] w fun e w' => e = .returned (.tuple #[]) ∧ Below w.heap.size w w' := by
  have cB := fun v => named_halt v
  have cP := fun v => part_none v
  go_enter Tryd.func79, Tryd.ntmps79
  go_upto_region 2 with (first | (go_at_call 87; refine (wU_any 87 _ _ _ _ (by simp)).mono ?_; rintro e w1 ⟨rfl, rfl⟩) | (go_at_call 63; refine (need_t _ _).mono ?_; rintro e w3 ⟨rfl, e4⟩; obtain rfl := e4.symm))
  obtain ⟨W, eW⟩ : ∃ W, w.alloc (.cells #[.int .u8 6, .int .u8 0, .string ⟨#[]⟩, .int .u8 0, .int .u8 0, .int .u8 0, .int .i64 0, .int .u8 0, .string ⟨#[]⟩, .slice none 0 0, .int .i64 0, .int .u8 0, .int .u8 0, .int .u8 0, .int .i64 0, .int .u8 0, .string ⟨#[]⟩, .slice none 0 0, .int .i64 0, .int .u8 0, .int .u8 0, .int .u8 0, .int .i64 0, .int .u8 0, .string ⟨#[]⟩, .slice none 0 0, .int .i64 0, .int .u8 0, .int .u8 0, .int .u8 0, .int .i64 0, .int .u8 0, .string ⟨#[]⟩, .slice none 0 0, .int .i64 0, .int .i64 0] 104) = W := ⟨_, rfl⟩
  have HD : Hid (Dz W w.heap.size) := by rw [← eW]; exact ⟨heap_new _ _⟩
  have HB : Hid (Below w.heap.size w W) := by rw [← eW]; exact below_new _ _
  rw [eW]
  clear eW
  go_wp2_with (refine wpList_load_mid rfl 104 (.tmp 1) rfl w.heap.size 0 rfl [.int .u8 6, .int .u8 0, .string ⟨#[]⟩, .int .u8 0, .int .u8 0, .int .u8 0, .int .i64 0, .int .u8 0, .string ⟨#[]⟩, .slice none 0 0, .int .i64 0, .int .u8 0, .int .u8 0, .int .u8 0, .int .i64 0, .int .u8 0, .string ⟨#[]⟩, .slice none 0 0, .int .i64 0, .int .u8 0, .int .u8 0, .int .u8 0, .int .i64 0, .int .u8 0, .string ⟨#[]⟩, .slice none 0 0, .int .i64 0, .int .u8 0, .int .u8 0, .int .u8 0, .int .i64 0, .int .u8 0, .string ⟨#[]⟩, .slice none 0 0, .int .i64 0, .int .i64 0] _ HD.out.range Tryd.underlying104 rfl (by kernel_rfl) ?_)
  refine (cB _).mono ?_
  rintro e w1 ⟨rfl, hb⟩
  go_upto_region 3 with fail
  obtain ⟨X, eX⟩ : ∃ X, w1.alloc (.cells #[.bool false, .bool false, .bool false, .bool false, .bool false, .bool false] 169) = X := ⟨_, rfl⟩
  have hX : Below w1.heap.size w1 X := by rw [← eX]; exact below_new _ _
  have HD1 : Hid (Dz X w.heap.size) := (HD.out.on hb).on hX
  have HN1 : Hid (Nz X w1.heap.size) := by rw [← eX]; exact ⟨heap_new _ _⟩
  have HB1 : Hid (Below w.heap.size w X) := below2 (below2 HB.out hb) hX
  obtain ⟨N, eN⟩ : ∃ N, w1.heap.size = N := ⟨_, rfl⟩
  rw [eN] at HN1
  rw [eX]
  first | rw [eN] | skip
  clear hb hX HD HB cB eX eN
  have n0 := HN1.out.c0
  have n1 := HN1.out.c1
  have c1 := HD1.out.c1
  have c2 := HD1.out.c2
  go_upto_region 9 with (go_at_call 63; refine (need_t _ _).mono ?_; rintro e w3 ⟨rfl, e4⟩; obtain rfl := e4.symm)
  clear n0 n1 c1 c2
  have m0 := HN1.out.c2
  have c3 := HD1.out.c3
  have c4 := HD1.out.c4
  have c5 := HD1.out.c5
  have c6 := HD1.out.c6
  have c7 := HD1.out.c7
  have c8 := HD1.out.c8
  have c9 := HD1.out.c9
  have c10 := HD1.out.c10
  go_wp2_with fail
  refine (cP _).mono ?_
  rintro e X2 ⟨rfl, hb⟩
  have HD2 : Hid (Dz X2 w.heap.size) := HD1.out.on hb
  have HN2 : Hid (Nz X2 N) := HN1.out.on hb
  have HB2 : Hid (Below w.heap.size w X2) := below2 HB1.out hb
  clear hb m0 c3 c4 c5 c6 c7 c8 c9 c10 HD1 HN1 HB1
  have m1 := HN2.out.c3
  have c11 := HD2.out.c11
  have c12 := HD2.out.c12
  have c13 := HD2.out.c13
  have c14 := HD2.out.c14
  have c15 := HD2.out.c15
  have c16 := HD2.out.c16
  have c17 := HD2.out.c17
  have c18 := HD2.out.c18
  go_wp2_with fail
  refine (cP _).mono ?_
  rintro e X3 ⟨rfl, hb⟩
  have HD3 : Hid (Dz X3 w.heap.size) := HD2.out.on hb
  have HN3 : Hid (Nz X3 N) := HN2.out.on hb
  have HB3 : Hid (Below w.heap.size w X3) := below2 HB2.out hb
  clear hb m1 c11 c12 c13 c14 c15 c16 c17 c18 HD2 HN2 HB2
  have m2 := HN3.out.c4
  have c19 := HD3.out.c19
  have c20 := HD3.out.c20
  have c21 := HD3.out.c21
  have c22 := HD3.out.c22
  have c23 := HD3.out.c23
  have c24 := HD3.out.c24
  have c25 := HD3.out.c25
  have c26 := HD3.out.c26
  go_wp2_with fail
  refine (cP _).mono ?_
  rintro e X4 ⟨rfl, hb⟩
  have HD4 : Hid (Dz X4 w.heap.size) := HD3.out.on hb
  have HN4 : Hid (Nz X4 N) := HN3.out.on hb
  have HB4 : Hid (Below w.heap.size w X4) := below2 HB3.out hb
  clear hb m2 c19 c20 c21 c22 c23 c24 c25 c26 HD3 HN3 HB3
  have m3 := HN4.out.c5
  have c27 := HD4.out.c27
  have c28 := HD4.out.c28
  have c29 := HD4.out.c29
  have c30 := HD4.out.c30
  have c31 := HD4.out.c31
  have c32 := HD4.out.c32
  have c33 := HD4.out.c33
  have c34 := HD4.out.c34
  go_wp2_with fail
  refine (cP _).mono ?_
  rintro e X5 ⟨rfl, hb⟩
  have HD5 : Hid (Dz X5 w.heap.size) := HD4.out.on hb
  have HN5 : Hid (Nz X5 N) := HN4.out.on hb
  have HB5 : Hid (Below w.heap.size w X5) := below2 HB4.out hb
  clear hb m3 c27 c28 c29 c30 c31 c32 c33 c34 HD4 HN4 HB4
  go_wp2_with fail
  go_end0
  exact ⟨rfl, HB5.out⟩
end Go.Proofs.YtighocmdlifheaaDoor

/-
  awake: the chapter's examples.
-/
namespace Go.Proofs.YtighocmdlifheaaDoor
open Go.RowKit
theorem alike_p (h : Hd) : alike h { h with p := 0 } = true := by simp [alike]
theorem bare_same : ∀ {m m' : Nd}, Bare m m' → sameB m m' = true := by
  intro m0 m1 h0
  refine Nd.ind (P := fun m => ∀ m', Bare m m' → sameB m m' = true) (fun h a c ks ih m' hb => ?_) m0 m1 h0
  cases hb with
  | mk _ _ a' _ c' _ ks' hl hk =>
    simp only [sameB, Nd.h, Nd.ks, alike_p, hl, decide_true, Bool.true_and]
    have : ∀ (l l' : List Nd), l'.length = l.length → (∀ k ∈ l, ∀ m', Bare k m' → sameB k m' = true) → (∀ i (h1 : i < l.length) (h2 : i < l'.length), Bare l[i] l'[i]) → samesB l l' = true := by
      intro l
      induction l with
      | nil => intro l' _ _ _; cases l' <;> rfl
      | cons k l ihl =>
        intro l' h1 h2 h3
        cases l' with
        | nil => rfl
        | cons k' l' =>
          simp only [samesB, Bool.and_eq_true]
          exact ⟨h2 k (by simp) k' (h3 0 (by simp) (by simp)), ihl l' (by simpa using h1) (fun x hx => h2 x (by simp [hx])) (fun i g1 g2 => h3 (i + 1) (by simpa using g1) (by simpa using g2))⟩
    exact this ks ks' hl ih hk
def wrongN : Nd := .mk ⟨1, 0, 6, 0, 0, ⟨#[]⟩, 0⟩ none 0 []
theorem liesWrong (w : World) : Lies w wrongN := .mk _ _ _ _ ⟨by decide, by decide, by decide, by decide, by decide, by decide, by decide, by decide, by decide, by decide, by decide, by decide, by decide⟩ (Nat.le_refl _) (by decide) (fun i hi => by simp at hi) (fun k hk => by cases hk)
theorem Least.on {w w' : World} {b2 b3 b4 : Nat} (h : Least w b2 b3 b4) (k : Below w.heap.size w w') : Least w' b2 b3 b4 :=
  ⟨(k.block b2 (Array.getElem?_eq_some_iff.1 h.h2).1).trans h.h2, (k.block b3 (Array.getElem?_eq_some_iff.1 h.h3).1).trans h.h3, (k.block b4 (Array.getElem?_eq_some_iff.1 h.h4).1).trans h.h4⟩
theorem range_blk {w : World} {b : Nat} {C : Array Value} {t : TypeId} (h : w.heap[b]? = some (.cells C t (0, 0))) : w.rangeAt b 0 C.toList := fun j v hv => by
  rw [Nat.zero_add, cell_of h j, ← hv]; simp
set_option maxRecDepth 100000 in
theorem check_least {w : World} {b2 b3 b4 : Nat} (h : Least w b2 b3 b4) (ht : Tab w) :
    Calls Tryd.prog 26 #[.agg #[.string ⟨#[115]⟩, .slice none 0 0, .slice none 0 0, .slice (some ⟨b4, 0, none⟩) 1 1]] w fun e w' => e = .returned (.int .i64 0) ∧ Below w.heap.size w w' := by
  refine check_any _ _ _ _ 0 w (fun v hv => ?_)
  have hL := h.on hv
  refine (strat_one v [.string ⟨#[97]⟩, .slice (some ⟨b3, 0, none⟩) 1 1, .int .i64 0] rfl (by simp [Value.oneCell']) (fun v2 hv2 => ?_) b4 v (Below.refl _ _) (range_blk hL.h4) (ht.on hv)).mono ?_
  · have hL2 := hL.on hv2
    refine state_one v2 [.int .u8 4, .int .u8 0, .int .u8 0, .int .i64 0, .int .u8 1, .string ⟨#[]⟩, .slice none 0 0, .int .i64 0, .slice (some ⟨b2, 0, none⟩) 1 1, .int .i64 0] rfl (by simp [Value.oneCell']) (fun v3 hv3 => ?_) b3 v2 (Below.refl _ _) (range_blk hL2.h3) ((ht.on hv).on hv2)
    have hL3 := hL2.on hv3
    exact rule_one (doZ 6) rfl (by simp [doZ, ndZ, Value.oneCell']) (fun v4 => do_halt v4) b2 v3 (range_blk hL3.h2) (((ht.on hv).on hv2).on hv3)
  · rintro e w' ⟨rfl, hb⟩
    exact ⟨.inl ⟨rfl, rfl⟩, hb⟩
set_option maxRecDepth 100000 in
theorem check_none (w : World) (ht : Tab w) :
    Calls Tryd.prog 26 #[.agg #[.string ⟨#[115]⟩, .slice none 0 0, .slice none 0 0, .slice none 0 0]] w fun e w' => e = .returned (.int .i64 120) ∧ Below w.heap.size w w' := by
  refine check_any _ _ _ _ 120 w (fun v hv => (strat_none v (ht.on hv)).mono ?_)
  rintro e w' ⟨rfl, hb⟩
  exact ⟨.inr ⟨by decide, rfl⟩, hb⟩
theorem sum_form (b c : Nat) : formB (sumN b c) = true := rfl
theorem sum_dep (b c : Nat) : dep (sumN b c) = 1 := rfl
theorem sum_size (b c : Nat) : size (sumN b c) = 5 := rfl
end Go.Proofs.YtighocmdlifheaaDoor
