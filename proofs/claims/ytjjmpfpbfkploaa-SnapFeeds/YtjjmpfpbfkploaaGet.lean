/-
  Walks of Get and Name, and of the document's.
-/
import Derived.Test.YtjjmpfpbfkploaaIx
namespace Go.Proofs.Ytjjmpfpbfkploaa
open Go.RowKit

def nameS (f : Int) : ByteArray := if f = 1 then ⟨#[98, 105, 100]⟩ else if f = 2 then ⟨#[97, 115, 107]⟩ else if f = 3 then ⟨#[108, 97, 115, 116]⟩ else if f = 4 then ⟨#[118, 111, 108, 117, 109, 101]⟩ else if f = 5 then ⟨#[110, 111, 119]⟩ else if f = 6 then ⟨#[111, 112, 101, 110]⟩ else ⟨#[]⟩
theorem getN_no (s : Sn) {f : Int} (h : f < 1 ∨ 6 < f) : getN s f = 0 := by
  unfold getN
  rw [if_neg (by omega), if_neg (by omega), if_neg (by omega), if_neg (by omega), if_neg (by omega), if_neg (by omega)]
theorem nameS_no {f : Int} (h : f < 1 ∨ 6 < f) : nameS f = ⟨#[]⟩ := by
  unfold nameS
  rw [if_neg (by omega), if_neg (by omega), if_neg (by omega), if_neg (by omega), if_neg (by omega), if_neg (by omega)]

set_option maxHeartbeats 4000000 in
theorem get_any (s : Sn) (f : Int) (f0 : 0 ≤ f) (f1 : f ≤ 255) (w : World) : Calls Try.prog 9 #[.agg (snA s), .int .u8 f] w fun e w' => e = .returned (.int .i64 (getN s f)) ∧ Below w.heap.size w w' := by
  have hR := SnAt.new w s 23
  have hB := below_new w (.cells (snA s) 23)
  unfold snA at *
  obtain ⟨W, hW⟩ : ∃ W, w.alloc (.cells #[.int .i64 s.bid, .int .i64 s.ask, .int .i64 s.last, .int .i64 s.vol, .int .i64 s.now, .int .i64 s.opn] 23) = W := ⟨_, rfl⟩
  rw [hW] at hR hB
  obtain ⟨c0, c1, c2, c3, c4, c5⟩ := hR
  by_cases h7 : 7 ≤ f
  · have hg := getN_no s (f := f) (by omega)
    go_enter Try.func9, Try.ntmps9
    go_wp2
    go_ret
    exact ⟨retI hg.symm, hB⟩
  · have hf : f = 0 ∨ f = 1 ∨ f = 2 ∨ f = 3 ∨ f = 4 ∨ f = 5 ∨ f = 6 := by omega
    rcases hf with rfl | rfl | rfl | rfl | rfl | rfl | rfl
    · go_enter Try.func9, Try.ntmps9
      go_wp2_with fail
      refine (numbers_any s _).mono ?_
      rintro _ v ⟨rfl, bb⟩
      have x := ux0 s v
      replace hB : Below w.heap.size w v := hB.trans (bb.mono hB.size)
      unfold nuA
      go_wp2
      go_ret
      exact ⟨rfl, hB⟩
    · go_enter Try.func9, Try.ntmps9
      go_wp2_with fail
      refine (numbers_any s _).mono ?_
      rintro _ v ⟨rfl, bb⟩
      have x := ux1 s v
      replace hB : Below w.heap.size w v := hB.trans (bb.mono hB.size)
      unfold nuA
      go_wp2
      go_ret
      exact ⟨rfl, hB⟩
    · go_enter Try.func9, Try.ntmps9
      go_wp2_with fail
      refine (numbers_any s _).mono ?_
      rintro _ v ⟨rfl, bb⟩
      have x := ux2 s v
      replace hB : Below w.heap.size w v := hB.trans (bb.mono hB.size)
      unfold nuA
      go_wp2
      go_ret
      exact ⟨rfl, hB⟩
    · go_enter Try.func9, Try.ntmps9
      go_wp2_with fail
      refine (numbers_any s _).mono ?_
      rintro _ v ⟨rfl, bb⟩
      have x := ux3 s v
      replace hB : Below w.heap.size w v := hB.trans (bb.mono hB.size)
      unfold nuA
      go_wp2
      go_ret
      exact ⟨rfl, hB⟩
    · go_enter Try.func9, Try.ntmps9
      go_wp2_with fail
      refine (numbers_any s _).mono ?_
      rintro _ v ⟨rfl, bb⟩
      have x := ux4 s v
      replace hB : Below w.heap.size w v := hB.trans (bb.mono hB.size)
      unfold nuA
      go_wp2
      go_ret
      exact ⟨rfl, hB⟩
    · go_enter Try.func9, Try.ntmps9
      go_wp2_with fail
      refine (numbers_any s _).mono ?_
      rintro _ v ⟨rfl, bb⟩
      have x := ux5 s v
      replace hB : Below w.heap.size w v := hB.trans (bb.mono hB.size)
      unfold nuA
      go_wp2
      go_ret
      exact ⟨rfl, hB⟩
    · go_enter Try.func9, Try.ntmps9
      go_wp2_with fail
      refine (numbers_any s _).mono ?_
      rintro _ v ⟨rfl, bb⟩
      have x := ux6 s v
      replace hB : Below w.heap.size w v := hB.trans (bb.mono hB.size)
      unfold nuA
      go_wp2
      go_ret
      exact ⟨rfl, hB⟩

set_option maxHeartbeats 4000000 in
theorem name_any (f : Int) (f0 : 0 ≤ f) (f1 : f ≤ 255) (w : World) : Calls Try.prog 11 #[.int .u8 f] w fun e w' => e = .returned (.string (nameS f)) ∧ Below w.heap.size w w' := by
  by_cases h7 : 7 ≤ f
  · have hg := nameS_no (f := f) (by omega)
    go_enter Try.func11, Try.ntmps11
    go_wp2
    go_ret
    exact ⟨by first | rfl | (rw [hg]; rfl), below_new w _⟩
  · have hf : f = 0 ∨ f = 1 ∨ f = 2 ∨ f = 3 ∨ f = 4 ∨ f = 5 ∨ f = 6 := by omega
    rcases hf with rfl | rfl | rfl | rfl | rfl | rfl | rfl
    all_goals go_enter Try.func11, Try.ntmps11
    all_goals go_wp2
    all_goals go_ret
    all_goals exact ⟨rfl, below_new w _⟩

set_option maxHeartbeats 4000000 in
theorem rget_any (s : Sn) (f : Int) (w : World) : Calls Try.prog 10 #[.agg (snA s), .int .u8 f] w fun e w' => e = .returned (.int .i64 (getN s f)) ∧ Below w.heap.size w w' := by
  have hR := SnAt.new w s 23
  have hB := below_new w (.cells (snA s) 23)
  unfold snA at *
  obtain ⟨W, hW⟩ : ∃ W, w.alloc (.cells #[.int .i64 s.bid, .int .i64 s.ask, .int .i64 s.last, .int .i64 s.vol, .int .i64 s.now, .int .i64 s.opn] 23) = W := ⟨_, rfl⟩
  rw [hW] at hR hB
  obtain ⟨c0, c1, c2, c3, c4, c5⟩ := hR
  by_cases hf : f = 1 ∨ f = 2 ∨ f = 3 ∨ f = 4 ∨ f = 5 ∨ f = 6
  · rcases hf with rfl | rfl | rfl | rfl | rfl | rfl
    all_goals go_enter Try.func10, Try.ntmps10
    all_goals go_wp2
    all_goals go_ret
    all_goals exact ⟨rfl, hB⟩
  · have hg := getN_no s (f := f) (by omega)
    have e1 : (f == 1) = false := beq_false_of_ne (by omega)
    have e2 : (f == 2) = false := beq_false_of_ne (by omega)
    have e3 : (f == 3) = false := beq_false_of_ne (by omega)
    have e4 : (f == 4) = false := beq_false_of_ne (by omega)
    have e5 : (f == 5) = false := beq_false_of_ne (by omega)
    have e6 : (f == 6) = false := beq_false_of_ne (by omega)
    go_enter Try.func10, Try.ntmps10
    go_wp2
    go_ret
    exact ⟨retI hg.symm, hB⟩

set_option maxHeartbeats 4000000 in
theorem rname_any (f : Int) (w : World) : Calls Try.prog 12 #[.int .u8 f] w fun e w' => e = .returned (.string (nameS f)) ∧ w' = w := by
  by_cases hf : f = 1 ∨ f = 2 ∨ f = 3 ∨ f = 4 ∨ f = 5 ∨ f = 6
  · rcases hf with rfl | rfl | rfl | rfl | rfl | rfl
    all_goals go_enter Try.func12, Try.ntmps12
    all_goals go_wp2
    all_goals go_ret
    all_goals exact ⟨rfl, rfl⟩
  · have hg := nameS_no (f := f) (by omega)
    have e1 : (f == 1) = false := beq_false_of_ne (by omega)
    have e2 : (f == 2) = false := beq_false_of_ne (by omega)
    have e3 : (f == 3) = false := beq_false_of_ne (by omega)
    have e4 : (f == 4) = false := beq_false_of_ne (by omega)
    have e5 : (f == 5) = false := beq_false_of_ne (by omega)
    have e6 : (f == 6) = false := beq_false_of_ne (by omega)
    go_enter Try.func12, Try.ntmps12
    go_wp2
    go_ret
    exact ⟨by first | rfl | (rw [hg]; rfl), rfl⟩
end Go.Proofs.Ytjjmpfpbfkploaa
