/-
  needState, needStrategy, Check: of one state with one rule, and of none.
-/
import Derived.Test.YtighocmdlifheaaDoorRu
namespace Go.Proofs.YtighocmdlifheaaDoor
open Go.RowKit
def ruZ : List Value := ndZ ++ [.slice none 0 0, .int .i64 0]
theorem zero75 : (Tryd.prog.info? 75).map (·.zero) = some (some (.agg ruZ.toArray)) := by kernel_rfl
theorem size75 : (Tryd.prog.info? 75).map (·.size) = some 10 := by kernel_rfl
def stZ : List Value := [.string ⟨#[]⟩, .slice none 0 0, .int .i64 0]
theorem zero78 : (Tryd.prog.info? 78).map (·.zero) = some (some (.agg stZ.toArray)) := by kernel_rfl
theorem size78 : (Tryd.prog.info? 78).map (·.size) = some 3 := by kernel_rfl
set_option maxRecDepth 100000 in
set_option maxHeartbeats 4000000 in
theorem state_one (w0 : World) (d : List Value) (hd : d.length = 10) (h1 : d.toArray.all (·.oneCell') = true) (cD : ∀ v, Below w0.heap.size w0 v → Calls Tryd.prog 73 #[.agg d.toArray] v fun e w' => e = .returned (.tuple #[]) ∧ Below v.heap.size v w') (b : Nat) (w : World) (h0 : Below w0.heap.size w0 w) (hr : w.rangeAt b 0 d) (ht : Tab w) :
    Calls Tryd.prog 67 #[.agg #[.string ⟨#[97]⟩, .slice (some ⟨b, 0, none⟩) 1 1, .int .i64 0]] w fun e w' => e = .returned (.tuple #[]) ∧ Below w.heap.size w w' := by
  obtain ⟨W, eW⟩ : ∃ W, w.alloc (.cells #[.string ⟨#[97]⟩, .slice (some ⟨b, 0, none⟩) 1 1, .int .i64 0] 78) = W := ⟨_, rfl⟩
  have hbW : Below w.heap.size w W := by rw [← eW]; exact below_new _ _
  have hW : W.heap[w.heap.size]? = some (.cells #[.string ⟨#[97]⟩, .slice (some ⟨b, 0, none⟩) 1 1, .int .i64 0] 78 (0, 0)) := by rw [← eW]; exact heap_new _ _
  have cE := name_ok ⟨#[97]⟩ (by decide) (by decide) W (ht.on hbW)
  have y0 : W.cell? ⟨w.heap.size, 0, none⟩ = some (.string ⟨#[97]⟩) := cell_of hW 0
  have HW : Hid (W.heap[w.heap.size]? = some (.cells #[.string ⟨#[97]⟩, .slice (some ⟨b, 0, none⟩) 1 1, .int .i64 0] 78 (0, 0))) := hW
  have HBW : Hid (Below w.heap.size w W) := hbW
  have HR : Hid (w.rangeAt b 0 d) := hr
  have HD : Hid (d.length = 10) := hd
  have H1 : Hid (d.toArray.all (·.oneCell') = true) := h1
  have H0 : Hid (Below w0.heap.size w0 w) := h0
  clear hbW hW hr hd h1 ht h0
  go_enter Tryd.func67, Tryd.ntmps67
  go_wp2_with fail
  clear eW
  refine cE.mono ?_
  rintro e w1 ⟨rfl, hb⟩
  have z8 : w1.cell? ⟨w.heap.size, 1, none⟩ = some (.slice (some ⟨b, 0, none⟩) 1 1) := cell_of ((hb.block _ (Array.getElem?_eq_some_iff.1 HW.out).1).trans HW.out) 1
  have HB1 : Hid (Below w.heap.size w w1) := below2 HBW.out hb
  clear hb cE y0 HBW HW
  go_wp2_with (go_at_call 65; refine (count_ok 1 0 12 (by decide) (by decide) _).mono ?_; rintro e w3 ⟨rfl, e4⟩; obtain rfl := e4.symm)
  go_loopw [3, 14] (fun _ t wr => ∃ i : Nat, i ≤ 1 ∧ t = .int .i64 i ∧ Hid (Below w.heap.size w wr)) (fun _ t _ => 1 - (intOf t).toNat)
  case atStart => exact ⟨0, by omega, rfl, HB1⟩
  case round =>
    obtain ⟨i, hi, rfl, HBr⟩ := hrel
    rcases (by omega : i = 0 ∨ i = 1) with rfl | rfl
    · have HRr : Hid (wr.rangeAt b 0 d) := range_on HR.out HBr.out
      go_wp2_with (first
        | (refine wpList_load_mid rfl 75 (.tmp 16) rfl b 0 rfl d _ HRr.out Tryd.underlying75 rfl (by rw [HD.out]; exact size75) ?_)
        | (refine wpList_new_row rfl rfl 75 rfl (.tmp 3) (.tmp 17) rfl ruZ.toArray zero75 (by exact size75) d.toArray (by rw [List.size_toArray, HD.out]; rfl) rfl rfl H1.out ?_; intro Y hY; have HY : Hid (Fil wr d 75 Y) := hY; clear hY)
        | (refine wpList_load_mid rfl 75 (.tmp 3) rfl wr.heap.size 0 rfl d _ HY.out.r Tryd.underlying75 rfl (by rw [HD.out]; exact size75) ?_))
      refine (cD _ (below2 (below2 H0.out HBr.out) HY.out.B)).mono ?_
      rintro e w5 ⟨rfl, hb5⟩
      have HB5 : Hid (Below w.heap.size w w5) := below2 (below2 HBr.out HY.out.B) hb5
      clear hb5
      go_wp2_with fail
      exact ⟨⟨1, by omega, rfl, HB5⟩, by simp only [intOf]; omega⟩
    · go_wp2_with fail
      go_end0
      exact ⟨rfl, HBr.out⟩
end Go.Proofs.YtighocmdlifheaaDoor
