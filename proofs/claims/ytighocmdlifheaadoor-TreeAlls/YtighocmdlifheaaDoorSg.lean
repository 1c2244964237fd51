/-
  needStrategy, Check: of a strategy of one state, and of one without.
-/
import Derived.Test.YtighocmdlifheaaDoorSs
namespace Go.Proofs.YtighocmdlifheaaDoor
open Go.RowKit
set_option maxRecDepth 100000 in
set_option maxHeartbeats 4000000 in
theorem strat_one (w0 : World) (d : List Value) (hd : d.length = 3) (h1 : d.toArray.all (·.oneCell') = true) (cD : ∀ v, Below w0.heap.size w0 v → Calls Tryd.prog 67 #[.agg d.toArray] v fun e w' => e = .returned (.tuple #[]) ∧ Below v.heap.size v w') (b : Nat) (w : World) (h0 : Below w0.heap.size w0 w) (hr : w.rangeAt b 0 d) (ht : Tab w) :
    Calls Tryd.prog 54 #[.agg #[.string ⟨#[115]⟩, .slice none 0 0, .slice none 0 0, .slice (some ⟨b, 0, none⟩) 1 1]] w fun e w' => e = .returned (.tuple #[]) ∧ Below w.heap.size w w' := by
  obtain ⟨W, eW⟩ : ∃ W, w.alloc (.cells #[.string ⟨#[115]⟩, .slice none 0 0, .slice none 0 0, .slice (some ⟨b, 0, none⟩) 1 1] 71) = W := ⟨_, rfl⟩
  have hbW : Below w.heap.size w W := by rw [← eW]; exact below_new _ _
  have hW : W.heap[w.heap.size]? = some (.cells #[.string ⟨#[115]⟩, .slice none 0 0, .slice none 0 0, .slice (some ⟨b, 0, none⟩) 1 1] 71 (0, 0)) := by rw [← eW]; exact heap_new _ _
  have cE := name_ok ⟨#[115]⟩ (by decide) (by decide) W (ht.on hbW)
  have y0 : W.cell? ⟨w.heap.size, 0, none⟩ = some (.string ⟨#[115]⟩) := cell_of hW 0
  have HW : Hid (W.heap[w.heap.size]? = some (.cells #[.string ⟨#[115]⟩, .slice none 0 0, .slice none 0 0, .slice (some ⟨b, 0, none⟩) 1 1] 71 (0, 0))) := hW
  have HBW : Hid (Below w.heap.size w W) := hbW
  have HR : Hid (w.rangeAt b 0 d) := hr
  have HD : Hid (d.length = 3) := hd
  have H1 : Hid (d.toArray.all (·.oneCell') = true) := h1
  have H0 : Hid (Below w0.heap.size w0 w) := h0
  clear hbW hW hr hd h1 ht h0
  go_enter Tryd.func54, Tryd.ntmps54
  go_wp2_with fail
  clear eW
  refine cE.mono ?_
  rintro e w1 ⟨rfl, hb⟩
  have z1 : w1.cell? ⟨w.heap.size, 1, none⟩ = some (.slice none 0 0) := cell_of ((hb.block _ (Array.getElem?_eq_some_iff.1 HW.out).1).trans HW.out) 1
  have z2 : w1.cell? ⟨w.heap.size, 2, none⟩ = some (.slice none 0 0) := cell_of ((hb.block _ (Array.getElem?_eq_some_iff.1 HW.out).1).trans HW.out) 2
  have z3 : w1.cell? ⟨w.heap.size, 3, none⟩ = some (.slice (some ⟨b, 0, none⟩) 1 1) := cell_of ((hb.block _ (Array.getElem?_eq_some_iff.1 HW.out).1).trans HW.out) 3
  have HB1 : Hid (Below w.heap.size w w1) := below2 HBW.out hb
  clear hb cE y0 HBW HW
  go_wp2_with (go_at_call 65; refine (count_ok 0 0 12 (by decide) (by decide) _).mono ?_; rintro e w3 ⟨rfl, e4⟩; obtain rfl := e4.symm)
  go_loopw [3, 18] (fun _ t wr => t = .int .i64 0 ∧ wr = w1) (fun _ t _ => 0)
  case atStart => exact ⟨rfl, rfl⟩
  case round =>
    obtain ⟨rfl, rfl⟩ := hrel
    go_wp2_with (go_at_call 65; refine (count_ok 0 0 4 (by decide) (by decide) _).mono ?_; rintro e w3 ⟨rfl, e4⟩; obtain rfl := e4.symm)
    go_loopw [5, 32] (fun _ t wq => t = .int .i64 0 ∧ wq = wr) (fun _ t _ => 0)
    case atStart => exact ⟨rfl, rfl⟩
    case round =>
      obtain ⟨rfl, rfl⟩ := hrel
      go_wp2_with (go_at_call 65; refine (count_ok 1 1 12 (by decide) (by decide) _).mono ?_; rintro e w3 ⟨rfl, e4⟩; obtain rfl := e4.symm)
      go_loopw [7, 47] (fun _ t wz => ∃ i : Nat, i ≤ 1 ∧ t = .int .i64 i ∧ Hid (Below w.heap.size w wz)) (fun _ t _ => 1 - (intOf t).toNat)
      case atStart => exact ⟨0, by omega, rfl, HB1⟩
      case round =>
        obtain ⟨i, hi, rfl, HBr⟩ := hrel
        rcases (by omega : i = 0 ∨ i = 1) with rfl | rfl
        · have HRr : Hid (wr.rangeAt b 0 d) := range_on HR.out HBr.out
          go_wp2_with (first
            | (refine wpList_load_mid rfl 78 (.tmp 49) rfl b 0 rfl d _ HRr.out Tryd.underlying78 rfl (by rw [HD.out]; exact size78) ?_)
            | (refine wpList_new_row rfl rfl 78 rfl (.tmp 7) (.tmp 50) rfl stZ.toArray zero78 (by exact size78) d.toArray (by rw [List.size_toArray, HD.out]; rfl) rfl rfl H1.out ?_; intro Y hY; have HY : Hid (Fil wr d 78 Y) := hY; clear hY)
            | (refine wpList_load_mid rfl 78 (.tmp 7) rfl wr.heap.size 0 rfl d _ HY.out.r Tryd.underlying78 rfl (by rw [HD.out]; exact size78) ?_))
          refine (cD _ (below2 (below2 H0.out HBr.out) HY.out.B)).mono ?_
          rintro e w5 ⟨rfl, hb5⟩
          have HB5 : Hid (Below w.heap.size w w5) := below2 (below2 HBr.out HY.out.B) hb5
          clear hb5
          go_wp2_with fail
          exact ⟨⟨1, by omega, rfl, HB5⟩, by simp only [intOf]; omega⟩
        · go_wp2_with fail
          go_end0
          exact ⟨rfl, HBr.out⟩
set_option maxRecDepth 100000 in
theorem count_lo (n l m : Int) (h1 : ¬ l ≤ n) (w : World) : Calls Tryd.prog 65 #[.int .i64 n, .int .i64 l, .int .i64 m] w fun e w' => e = .panicked [{ v := .iface 64 (.int .i64 120), recovered := false }] ∧ w' = w := by
  have d1 : decide (l ≤ n) = false := decide_eq_false h1
  have cN := need_f 120 w
  go_enter Tryd.func65, Tryd.ntmps65
  go_wp2_with fail
  refine cN.mono ?_
  rintro e w3 ⟨rfl, rfl⟩
  exact ⟨rfl, rfl, rfl⟩
set_option maxRecDepth 100000 in
set_option maxHeartbeats 4000000 in
theorem strat_none (w : World) (ht : Tab w) :
    Calls Tryd.prog 54 #[.agg #[.string ⟨#[115]⟩, .slice none 0 0, .slice none 0 0, .slice none 0 0]] w fun e w' => e = .panicked [{ v := .iface 64 (.int .i64 120), recovered := false }] ∧ Below w.heap.size w w' := by
  obtain ⟨W, eW⟩ : ∃ W, w.alloc (.cells #[.string ⟨#[115]⟩, .slice none 0 0, .slice none 0 0, .slice none 0 0] 71) = W := ⟨_, rfl⟩
  have hbW : Below w.heap.size w W := by rw [← eW]; exact below_new _ _
  have hW : W.heap[w.heap.size]? = some (.cells #[.string ⟨#[115]⟩, .slice none 0 0, .slice none 0 0, .slice none 0 0] 71 (0, 0)) := by rw [← eW]; exact heap_new _ _
  have cE := name_ok ⟨#[115]⟩ (by decide) (by decide) W (ht.on hbW)
  have y0 : W.cell? ⟨w.heap.size, 0, none⟩ = some (.string ⟨#[115]⟩) := cell_of hW 0
  have HW : Hid (W.heap[w.heap.size]? = some (.cells #[.string ⟨#[115]⟩, .slice none 0 0, .slice none 0 0, .slice none 0 0] 71 (0, 0))) := hW
  have HBW : Hid (Below w.heap.size w W) := hbW
  clear hbW hW ht
  go_enter Tryd.func54, Tryd.ntmps54
  go_wp2_with fail
  clear eW
  refine cE.mono ?_
  rintro e w1 ⟨rfl, hb⟩
  have z1 : w1.cell? ⟨w.heap.size, 1, none⟩ = some (.slice none 0 0) := cell_of ((hb.block _ (Array.getElem?_eq_some_iff.1 HW.out).1).trans HW.out) 1
  have z2 : w1.cell? ⟨w.heap.size, 2, none⟩ = some (.slice none 0 0) := cell_of ((hb.block _ (Array.getElem?_eq_some_iff.1 HW.out).1).trans HW.out) 2
  have z3 : w1.cell? ⟨w.heap.size, 3, none⟩ = some (.slice none 0 0) := cell_of ((hb.block _ (Array.getElem?_eq_some_iff.1 HW.out).1).trans HW.out) 3
  have HB1 : Hid (Below w.heap.size w w1) := below2 HBW.out hb
  clear hb cE y0 HBW HW
  go_wp2_with (go_at_call 65; refine (count_ok 0 0 12 (by decide) (by decide) _).mono ?_; rintro e w3 ⟨rfl, e4⟩; obtain rfl := e4.symm)
  go_loopw [3, 18] (fun _ t wr => t = .int .i64 0 ∧ wr = w1) (fun _ t _ => 0)
  case atStart => exact ⟨rfl, rfl⟩
  case round =>
    obtain ⟨rfl, rfl⟩ := hrel
    go_wp2_with (go_at_call 65; refine (count_ok 0 0 4 (by decide) (by decide) _).mono ?_; rintro e w3 ⟨rfl, e4⟩; obtain rfl := e4.symm)
    go_loopw [5, 32] (fun _ t wq => t = .int .i64 0 ∧ wq = wr) (fun _ t _ => 0)
    case atStart => exact ⟨rfl, rfl⟩
    case round =>
      obtain ⟨rfl, rfl⟩ := hrel
      have cN := count_lo 0 1 12 (by decide) wr
      go_wp2_with fail
      refine cN.mono ?_
      rintro e w3 ⟨rfl, rfl⟩
      exact ⟨rfl, rfl, HB1.out⟩
theorem enter53 (args : Array Value) (v : World) : Sem.run Tryd.prog (callFunc 53 args) v = .ok (.enter 53 args) v := by kernel_rfl
set_option maxRecDepth 100000 in
theorem check_any (a0 a1 a2 a3 : Value) (E : Int) (w : World)
    (cF : ∀ v, Below w.heap.size w v → Gives 54 #[.agg #[a0, a1, a2, a3]] v E) :
    Calls Tryd.prog 26 #[.agg #[a0, a1, a2, a3]] w fun e w' => e = .returned (.int .i64 E) ∧ Below w.heap.size w w' := by
  have hmf : ∀ (fn : Fn) (first cap : Array Value) (w : World), (Instr.makeFunc fn first cap).run Tryd.prog w = .ok (.func fn first cap) w := fun _ _ _ _ => rfl
  have c := found_any 53 enter53 #[.pointer (some ⟨w.heap.size, 0, none⟩)] E (w.alloc (.cells #[a0, a1, a2, a3] 71)) (fun v hv => ?_)
  · go_enter Tryd.func26, Tryd.ntmps26
    go_wp2_with fail
    refine c.mono ?_
    rintro e w1 ⟨rfl, hb⟩
    go_wp2_with fail
    go_ret
    exact ⟨rfl, below2 (below_new _ _) hb⟩
  · have hk := (hv.block w.heap.size (by simp)).trans (heap_new w _)
    have y0 : v.cell? ⟨w.heap.size, 0, none⟩ = some a0 := cell_of hk 0
    have y1 : v.cell? ⟨w.heap.size, 1, none⟩ = some a1 := cell_of hk 1
    have y2 : v.cell? ⟨w.heap.size, 2, none⟩ = some a2 := cell_of hk 2
    have y3 : v.cell? ⟨w.heap.size, 3, none⟩ = some a3 := cell_of hk 3
    have c := cF v (below2 (below_new _ _) hv)
    unfold Gives at c
    clear hk hv cF
    go_enter Tryd.func53, Tryd.ntmps53
    go_wp2_with fail
    refine c.mono ?_
    rintro e w1 ⟨h1 | h1, hb⟩
    · obtain ⟨h2, rfl⟩ := h1
      have HE : Hid (E = 0) := h2
      clear h2
      go_wp2_with fail
      go_end0
      exact ⟨.inl ⟨HE.out, rfl⟩, hb⟩
    · obtain ⟨h2, rfl⟩ := h1
      exact ⟨rfl, .inr ⟨h2, rfl⟩, hb⟩
end Go.Proofs.YtighocmdlifheaaDoor
