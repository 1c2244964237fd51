/-
  The chapter's examples, ahead of each statement.
-/
import Derived.Test.YtkbadigpagijjaaDoorParse
import Derived.Test.YtkbadigpagijjaaDoorPrint
namespace Go.Proofs.YtkbadigpagijjaaDoor
open Go.RowKit

theorem ex1 : bytes (prL (-5) 2) = ⟨#[45, 48, 46, 48, 53]⟩ := by
  rw [prL_yes (by decide)]
  show bytes (printL (-5) 2) = _
  rw [printL_neg (by decide) (by decide)]
  show bytes (45 :: pointed 2 (padD 2 (Lib.decDigits 5))) = _
  rw [Lib.decDigits_one (by decide)]
  rfl
theorem ex2 : parN [49, 50, 46, 53] 2 = 1250 ∧ parE [49, 50, 46, 53] 2 = 0 ∧ parA [49, 50, 46, 53] 2 = 0 := by decide +kernel
theorem ex3 : parE [49, 46, 50, 51, 52] 2 = 20 ∧ parA [49, 46, 50, 51, 52] 2 = 4 := by decide +kernel

theorem works_any (w : World) (ht : Tab w) : Calls Tryd.prog 7 #[] w fun e w' => e = .returned (.bool true) ∧ Below w.heap.size w w' := by
  have c1 : Calls Tryd.prog 10 #[.int .i64 (-5), .int .i64 2] w fun e w' => e = .returned (.tuple #[.string ⟨#[45, 48, 46, 48, 53]⟩, .int .i64 0]) ∧ Below w.heap.size w w' := by
    have := print_any (-5) 2 (by decide) (by decide) w ht
    rwa [ex1, prE_yes (by decide)] at this
  have c2 : ∀ w, Calls Tryd.prog 8 #[.string ⟨#[49, 50, 46, 53]⟩, .int .i64 2] w fun e w' => e = .returned (.tuple #[.int .i64 1250, .int .i64 0, .int .i64 0]) ∧ w' = w := fun w => by
    have := parse_any ⟨#[49, 50, 46, 53]⟩ 2 (by decide) w
    have e : (⟨#[49, 50, 46, 53]⟩ : ByteArray).data.toList = [49, 50, 46, 53] := rfl
    rw [e, ex2.1, ex2.2.1, ex2.2.2] at this
    exact this
  have c3 : ∀ w, Calls Tryd.prog 8 #[.string ⟨#[49, 46, 50, 51, 52]⟩, .int .i64 2] w fun e w' => (∃ x, e = .returned (.tuple #[.int .i64 x, .int .i64 20, .int .i64 4])) ∧ w' = w := fun w => by
    have := parse_any ⟨#[49, 46, 50, 51, 52]⟩ 2 (by decide) w
    have e : (⟨#[49, 46, 50, 51, 52]⟩ : ByteArray).data.toList = [49, 46, 50, 51, 52] := rfl
    rw [e, ex3.1, ex3.2] at this
    refine this.mono ?_
    rintro e w' ⟨rfl, rfl⟩
    exact ⟨⟨_, rfl⟩, rfl⟩
  have c4 : ∀ w, Tab w → Calls Tryd.prog 10 #[.int .i64 1, .int .i64 10] w fun e w' => e = .returned (.tuple #[.string ⟨#[]⟩, .int .i64 1]) ∧ Below w.heap.size w w' := fun w ht => by
    have := print_any 1 10 (by decide) (by decide) w ht
    rwa [prE_no (by decide), prL_no (by decide)] at this
  go_enter Tryd.func7, Tryd.ntmps7
  go_wp2_with fail
  refine c1.mono ?_
  rintro e w1 ⟨rfl, hb1⟩
  go_wp2_with fail
  refine (c2 _).mono ?_
  rintro e w2 ⟨rfl, rfl⟩
  go_wp2_with fail
  refine (c3 _).mono ?_
  rintro e w2 ⟨⟨x, rfl⟩, rfl⟩
  go_wp2_with fail
  refine (c4 _ (ht.on hb1)).mono ?_
  rintro e w3 ⟨rfl, hb3⟩
  go_wp2_with fail
  go_ret
  exact ⟨rfl, below2 hb1 hb3⟩
end Go.Proofs.YtkbadigpagijjaaDoor
