/-
  needRule, needState: of one thing done, of one rule.
-/
import Derived.Test.YtighocmdlifheaaDoorSc
import Derived.Test.YtighocmdlifheaaDoorAr
namespace Go.Proofs.YtighocmdlifheaaDoor
open Go.RowKit
def ndZ : List Value := [.int .u8 0, .int .u8 0, .int .u8 0, .int .i64 0, .int .u8 0, .string ⟨#[]⟩, .slice none 0 0, .int .i64 0]
def doZ (k : Int) : List Value := [.int .u8 k, .int .u8 0, .string ⟨#[]⟩] ++ (ndZ ++ (ndZ ++ (ndZ ++ (ndZ ++ [.int .i64 0]))))
theorem zero104 : (Tryd.prog.info? 104).map (·.zero) = some (some (.agg (doZ 0).toArray)) := by kernel_rfl
theorem size104 : (Tryd.prog.info? 104).map (·.size) = some 36 := by kernel_rfl
theorem range_on {w w' : World} {b o : Nat} {cs : List Value} (h : w.rangeAt b o cs) (k : Below w.heap.size w w') : w'.rangeAt b o cs := fun j v hv => by
  have h1 := h j v hv
  rw [World.cell?_of_block (k.block b (World.block_lt_of_cell? w _ h1))]; exact h1
def hasN : Nd := .mk ⟨4, 0, 0, 0, 1, ⟨#[]⟩, 0⟩ none 0 []
theorem liesHas (w : World) : Lies w hasN := .mk _ _ _ _ ⟨by decide, by decide, by decide, by decide, by decide, by decide, by decide, by decide, by decide, by decide, by decide, by decide, by decide⟩ (Nat.le_refl _) (by decide) (fun i hi => by simp at hi) (fun k hk => by cases hk)
set_option maxRecDepth 100000 in
set_option maxHeartbeats 4000000 in
theorem rule_one (d : List Value) (hd : d.length = 36) (h1 : d.toArray.all (·.oneCell') = true) (cD : ∀ v, Calls Tryd.prog 79 #[.agg d.toArray] v fun e w' => e = .returned (.tuple #[]) ∧ Below v.heap.size v w') (b : Nat) (w : World) (hr : w.rangeAt b 0 d) (ht : Tab w) :
    Calls Tryd.prog 73 #[.agg #[.int .u8 4, .int .u8 0, .int .u8 0, .int .i64 0, .int .u8 1, .string ⟨#[]⟩, .slice none 0 0, .int .i64 0, .slice (some ⟨b, 0, none⟩) 1 1, .int .i64 0]] w fun e w' => e = .returned (.tuple #[]) ∧ Below w.heap.size w w' := by
  obtain ⟨W, eW⟩ : ∃ W, w.alloc (.cells #[.int .u8 4, .int .u8 0, .int .u8 0, .int .i64 0, .int .u8 1, .string ⟨#[]⟩, .slice none 0 0, .int .i64 0, .slice (some ⟨b, 0, none⟩) 1 1, .int .i64 0] 75) = W := ⟨_, rfl⟩
  have hbW : Below w.heap.size w W := by rw [← eW]; exact below_new _ _
  have hW : W.heap[w.heap.size]? = some (.cells #[.int .u8 4, .int .u8 0, .int .u8 0, .int .i64 0, .int .u8 1, .string ⟨#[]⟩, .slice none 0 0, .int .i64 0, .slice (some ⟨b, 0, none⟩) 1 1, .int .i64 0] 75 (0, 0)) := by rw [← eW]; exact heap_new _ _
  have cE : Calls Tryd.prog 52 #[.agg #[.int .u8 4, .int .u8 0, .int .u8 0, .int .i64 0, .int .u8 1, .string ⟨#[]⟩, .slice none 0 0, .int .i64 0]] W fun e w' => e = .returned (.tuple #[]) ∧ Below W.heap.size W w' := by
    have := needExpr_any hasN W (liesHas W) (by decide) (ht.on hbW)
    rw [show cE hasN = 0 by decide] at this
    exact this.zero
  have y0 : W.cell? ⟨w.heap.size, 0, none⟩ = some (.int .u8 4) := cell_of hW 0
  have y1 : W.cell? ⟨w.heap.size, 1, none⟩ = some (.int .u8 0) := cell_of hW 1
  have y2 : W.cell? ⟨w.heap.size, 2, none⟩ = some (.int .u8 0) := cell_of hW 2
  have y3 : W.cell? ⟨w.heap.size, 3, none⟩ = some (.int .i64 0) := cell_of hW 3
  have y4 : W.cell? ⟨w.heap.size, 4, none⟩ = some (.int .u8 1) := cell_of hW 4
  have y5 : W.cell? ⟨w.heap.size, 5, none⟩ = some (.string ⟨#[]⟩) := cell_of hW 5
  have y6 : W.cell? ⟨w.heap.size, 6, none⟩ = some (.slice none 0 0) := cell_of hW 6
  have y7 : W.cell? ⟨w.heap.size, 7, none⟩ = some (.int .i64 0) := cell_of hW 7
  have HW : Hid (W.heap[w.heap.size]? = some (.cells #[.int .u8 4, .int .u8 0, .int .u8 0, .int .i64 0, .int .u8 1, .string ⟨#[]⟩, .slice none 0 0, .int .i64 0, .slice (some ⟨b, 0, none⟩) 1 1, .int .i64 0] 75 (0, 0))) := hW
  have HBW : Hid (Below w.heap.size w W) := hbW
  have HR : Hid (w.rangeAt b 0 d) := hr
  have HD : Hid (d.length = 36) := hd
  have H1 : Hid (d.toArray.all (·.oneCell') = true) := h1
  clear hbW hW hr hd h1 ht
  go_enter Tryd.func73, Tryd.ntmps73
  go_wp2_with fail
  clear eW
  refine cE.mono ?_
  rintro e w1 ⟨rfl, hb⟩
  have z8 : w1.cell? ⟨w.heap.size, 8, none⟩ = some (.slice (some ⟨b, 0, none⟩) 1 1) := cell_of ((hb.block _ (Array.getElem?_eq_some_iff.1 HW.out).1).trans HW.out) 8
  have HB1 : Hid (Below w.heap.size w w1) := below2 HBW.out hb
  clear hb cE y0 y1 y2 y3 y4 y5 y6 y7 HBW HW
  go_wp2_with (go_at_call 65; refine (count_ok 1 1 8 (by decide) (by decide) _).mono ?_; rintro e w3 ⟨rfl, e4⟩; obtain rfl := e4.symm)
  go_loopw [3, 14] (fun _ t wr => ∃ i : Nat, i ≤ 1 ∧ t = .int .i64 i ∧ Hid (Below w.heap.size w wr)) (fun _ t _ => 1 - (intOf t).toNat)
  case atStart => exact ⟨0, by omega, rfl, HB1⟩
  case round =>
    obtain ⟨i, hi, rfl, HBr⟩ := hrel
    rcases (by omega : i = 0 ∨ i = 1) with rfl | rfl
    · have HRr : Hid (wr.rangeAt b 0 d) := range_on HR.out HBr.out
      go_wp2_with (first
        | (refine wpList_load_mid rfl 104 (.tmp 16) rfl b 0 rfl d _ HRr.out Tryd.underlying104 rfl (by rw [HD.out]; exact size104) ?_)
        | (refine wpList_new_row rfl rfl 104 rfl (.tmp 3) (.tmp 17) rfl (doZ 0).toArray zero104 (by exact size104) d.toArray (by rw [List.size_toArray, HD.out]; rfl) rfl rfl H1.out ?_; intro Y hY; have HY : Hid (Fil wr d 104 Y) := hY; clear hY)
        | (refine wpList_load_mid rfl 104 (.tmp 3) rfl wr.heap.size 0 rfl d _ HY.out.r Tryd.underlying104 rfl (by rw [HD.out]; exact size104) ?_))
      refine (cD _).mono ?_
      rintro e w5 ⟨rfl, hb5⟩
      have HB5 : Hid (Below w.heap.size w w5) := below2 (below2 HBr.out HY.out.B) hb5
      clear hb5
      go_wp2_with fail
      exact ⟨⟨1, by omega, rfl, HB5⟩, by simp only [intOf]; omega⟩
    · go_wp2_with fail
      go_end0
      exact ⟨rfl, HBr.out⟩
end Go.Proofs.YtighocmdlifheaaDoor
