/-
  The document's Formed: literal.
-/
import Derived.Test.YtighocmdlifheaaGreatDoorM17
namespace Go.Proofs.YtighocmdlifheaaGreatDoor
open Go.RowKit
set_option linter.unusedVariables false
set_option linter.unusedSimpArgs false
def liR (o t n f : Int) (x : ByteArray) (l : Nat) : Bool := litB t n && (zB o 0 0 f x && ((l : Int) == 0))
theorem liR_eq (o t n f : Int) (x : ByteArray) (l : Nat) : liR o t n f x l = ((if t == 1 then decide (0 ≤ n) else if t == 2 then decide (0 ≤ n) else if t == 3 then decide (0 ≤ n) else if t == 4 then decide (0 ≤ n) else if t == 5 then ((n == 0) || (n == 1)) else if t == 6 then ((n == 1) || (n == 2)) else false) && (zB o 0 0 f x && ((l : Int) == 0))) := by unfold liR; rw [litB_eq]
set_option maxRecDepth 100000 in
set_option maxHeartbeats 8000000 in
theorem literal_any (k o t n f : Int) (x : ByteArray) (a : Option Addr) (l c : Nat) (p : Int) (w : World) : Calls Tryz.prog 128 #[.agg #[.int .u8 k, .int .u8 o, .int .u8 t, .int .i64 n, .int .u8 f, .string x, .slice a l c, .int .i64 p]] w fun e w' => e = .returned (.bool (liR o t n f x l)) ∧ Below w.heap.size w w' := by
  cases t1 : (t == 1) with
  | false =>
    cases t2 : (t == 2) with
    | false =>
      cases t3 : (t == 3) with
      | false =>
        cases t4 : (t == 4) with
        | false =>
          cases t5 : (t == 5) with
          | false =>
            cases t6 : (t == 6) with
            | false =>
              have HE : Hid (liR o t n f x l = false) := by show _ = _; rw [liR_eq]; simp [t1, t2, t3, t4, t5, t6]
              go_enter Tryz.func128, Tryz.ntmps128
              go_wp2_with fail
              go_ret
              exact ⟨by rw [HE.out]; rfl, below_new _ _⟩
            | true =>
              cases m1 : (n == 1) with
              | false =>
                cases m2 : (n == 2) with
                | false =>
                  have HE : Hid (liR o t n f x l = false) := by show _ = _; rw [liR_eq]; simp [t1, t2, t3, t4, t5, t6, m1, m2]
                  go_enter Tryz.func128, Tryz.ntmps128
                  go_wp2_with fail
                  go_ret
                  exact ⟨by rw [HE.out]; rfl, below_new _ _⟩
                | true =>
                  go_enter Tryz.func128, Tryz.ntmps128
                  go_wp2_with fail
                  refine (zero_any _ _ _ _ _ _ _ _ _ _ _).mono ?_
                  rintro e w5 ⟨rfl, hb5⟩
                  have HB5 : Hid (Below w.heap.size w w5) := below2 (below_new _ _) hb5
                  have g6 : w5.cell? ⟨w.heap.size, 6, none⟩ = some (.slice a l c) := cell_of ((hb5.block _ (Array.getElem?_eq_some_iff.1 (heap_new _ _)).1).trans (heap_new _ _)) 6
                  clear hb5
                  cases hz : (zB o 0 0 f x) with
                  | false =>
                    have HE : Hid (liR o t n f x l = false) := by show _ = _; rw [liR_eq]; simp [t1, t2, t3, t4, t5, t6, m1, m2, hz]
                    go_wp2_with fail
                    go_ret
                    exact ⟨by rw [HE.out]; rfl, HB5.out⟩
                  | true =>
                    cases hl : ((l : Int) == 0) with
                    | false =>
                      have HE : Hid (liR o t n f x l = false) := by show _ = _; rw [liR_eq]; simp [t1, t2, t3, t4, t5, t6, m1, m2, hz, hl]
                      go_wp2_with fail
                      go_ret
                      exact ⟨by rw [HE.out]; rfl, HB5.out⟩
                    | true =>
                      have HE : Hid (liR o t n f x l = true) := by show _ = _; rw [liR_eq]; simp [t1, t2, t3, t4, t5, t6, m1, m2, hz, hl]
                      go_wp2_with fail
                      go_ret
                      exact ⟨by rw [HE.out]; rfl, HB5.out⟩
              | true =>
                go_enter Tryz.func128, Tryz.ntmps128
                go_wp2_with fail
                refine (zero_any _ _ _ _ _ _ _ _ _ _ _).mono ?_
                rintro e w5 ⟨rfl, hb5⟩
                have HB5 : Hid (Below w.heap.size w w5) := below2 (below_new _ _) hb5
                have g6 : w5.cell? ⟨w.heap.size, 6, none⟩ = some (.slice a l c) := cell_of ((hb5.block _ (Array.getElem?_eq_some_iff.1 (heap_new _ _)).1).trans (heap_new _ _)) 6
                clear hb5
                cases hz : (zB o 0 0 f x) with
                | false =>
                  have HE : Hid (liR o t n f x l = false) := by show _ = _; rw [liR_eq]; simp [t1, t2, t3, t4, t5, t6, m1, hz]
                  go_wp2_with fail
                  go_ret
                  exact ⟨by rw [HE.out]; rfl, HB5.out⟩
                | true =>
                  cases hl : ((l : Int) == 0) with
                  | false =>
                    have HE : Hid (liR o t n f x l = false) := by show _ = _; rw [liR_eq]; simp [t1, t2, t3, t4, t5, t6, m1, hz, hl]
                    go_wp2_with fail
                    go_ret
                    exact ⟨by rw [HE.out]; rfl, HB5.out⟩
                  | true =>
                    have HE : Hid (liR o t n f x l = true) := by show _ = _; rw [liR_eq]; simp [t1, t2, t3, t4, t5, t6, m1, hz, hl]
                    go_wp2_with fail
                    go_ret
                    exact ⟨by rw [HE.out]; rfl, HB5.out⟩
          | true =>
            cases m0 : (n == 0) with
            | false =>
              cases m1 : (n == 1) with
              | false =>
                have HE : Hid (liR o t n f x l = false) := by show _ = _; rw [liR_eq]; simp [t1, t2, t3, t4, t5, m0, m1]
                go_enter Tryz.func128, Tryz.ntmps128
                go_wp2_with fail
                go_ret
                exact ⟨by rw [HE.out]; rfl, below_new _ _⟩
              | true =>
                go_enter Tryz.func128, Tryz.ntmps128
                go_wp2_with fail
                refine (zero_any _ _ _ _ _ _ _ _ _ _ _).mono ?_
                rintro e w5 ⟨rfl, hb5⟩
                have HB5 : Hid (Below w.heap.size w w5) := below2 (below_new _ _) hb5
                have g6 : w5.cell? ⟨w.heap.size, 6, none⟩ = some (.slice a l c) := cell_of ((hb5.block _ (Array.getElem?_eq_some_iff.1 (heap_new _ _)).1).trans (heap_new _ _)) 6
                clear hb5
                cases hz : (zB o 0 0 f x) with
                | false =>
                  have HE : Hid (liR o t n f x l = false) := by show _ = _; rw [liR_eq]; simp [t1, t2, t3, t4, t5, m0, m1, hz]
                  go_wp2_with fail
                  go_ret
                  exact ⟨by rw [HE.out]; rfl, HB5.out⟩
                | true =>
                  cases hl : ((l : Int) == 0) with
                  | false =>
                    have HE : Hid (liR o t n f x l = false) := by show _ = _; rw [liR_eq]; simp [t1, t2, t3, t4, t5, m0, m1, hz, hl]
                    go_wp2_with fail
                    go_ret
                    exact ⟨by rw [HE.out]; rfl, HB5.out⟩
                  | true =>
                    have HE : Hid (liR o t n f x l = true) := by show _ = _; rw [liR_eq]; simp [t1, t2, t3, t4, t5, m0, m1, hz, hl]
                    go_wp2_with fail
                    go_ret
                    exact ⟨by rw [HE.out]; rfl, HB5.out⟩
            | true =>
              go_enter Tryz.func128, Tryz.ntmps128
              go_wp2_with fail
              refine (zero_any _ _ _ _ _ _ _ _ _ _ _).mono ?_
              rintro e w5 ⟨rfl, hb5⟩
              have HB5 : Hid (Below w.heap.size w w5) := below2 (below_new _ _) hb5
              have g6 : w5.cell? ⟨w.heap.size, 6, none⟩ = some (.slice a l c) := cell_of ((hb5.block _ (Array.getElem?_eq_some_iff.1 (heap_new _ _)).1).trans (heap_new _ _)) 6
              clear hb5
              cases hz : (zB o 0 0 f x) with
              | false =>
                have HE : Hid (liR o t n f x l = false) := by show _ = _; rw [liR_eq]; simp [t1, t2, t3, t4, t5, m0, hz]
                go_wp2_with fail
                go_ret
                exact ⟨by rw [HE.out]; rfl, HB5.out⟩
              | true =>
                cases hl : ((l : Int) == 0) with
                | false =>
                  have HE : Hid (liR o t n f x l = false) := by show _ = _; rw [liR_eq]; simp [t1, t2, t3, t4, t5, m0, hz, hl]
                  go_wp2_with fail
                  go_ret
                  exact ⟨by rw [HE.out]; rfl, HB5.out⟩
                | true =>
                  have HE : Hid (liR o t n f x l = true) := by show _ = _; rw [liR_eq]; simp [t1, t2, t3, t4, t5, m0, hz, hl]
                  go_wp2_with fail
                  go_ret
                  exact ⟨by rw [HE.out]; rfl, HB5.out⟩
        | true =>
          cases n4 : (decide (0 ≤ n)) with
          | false =>
            have HE : Hid (liR o t n f x l = false) := by show _ = _; rw [liR_eq]; simp [t1, t2, t3, t4, n4]
            go_enter Tryz.func128, Tryz.ntmps128
            go_wp2_with fail
            go_ret
            exact ⟨by rw [HE.out]; rfl, below_new _ _⟩
          | true =>
            go_enter Tryz.func128, Tryz.ntmps128
            go_wp2_with fail
            refine (zero_any _ _ _ _ _ _ _ _ _ _ _).mono ?_
            rintro e w5 ⟨rfl, hb5⟩
            have HB5 : Hid (Below w.heap.size w w5) := below2 (below_new _ _) hb5
            have g6 : w5.cell? ⟨w.heap.size, 6, none⟩ = some (.slice a l c) := cell_of ((hb5.block _ (Array.getElem?_eq_some_iff.1 (heap_new _ _)).1).trans (heap_new _ _)) 6
            clear hb5
            cases hz : (zB o 0 0 f x) with
            | false =>
              have HE : Hid (liR o t n f x l = false) := by show _ = _; rw [liR_eq]; simp [t1, t2, t3, t4, n4, hz]
              go_wp2_with fail
              go_ret
              exact ⟨by rw [HE.out]; rfl, HB5.out⟩
            | true =>
              cases hl : ((l : Int) == 0) with
              | false =>
                have HE : Hid (liR o t n f x l = false) := by show _ = _; rw [liR_eq]; simp [t1, t2, t3, t4, n4, hz, hl]
                go_wp2_with fail
                go_ret
                exact ⟨by rw [HE.out]; rfl, HB5.out⟩
              | true =>
                have HE : Hid (liR o t n f x l = true) := by show _ = _; rw [liR_eq]; simp [t1, t2, t3, t4, n4, hz, hl]
                go_wp2_with fail
                go_ret
                exact ⟨by rw [HE.out]; rfl, HB5.out⟩
      | true =>
        cases n3 : (decide (0 ≤ n)) with
        | false =>
          have HE : Hid (liR o t n f x l = false) := by show _ = _; rw [liR_eq]; simp [t1, t2, t3, n3]
          go_enter Tryz.func128, Tryz.ntmps128
          go_wp2_with fail
          go_ret
          exact ⟨by rw [HE.out]; rfl, below_new _ _⟩
        | true =>
          go_enter Tryz.func128, Tryz.ntmps128
          go_wp2_with fail
          refine (zero_any _ _ _ _ _ _ _ _ _ _ _).mono ?_
          rintro e w5 ⟨rfl, hb5⟩
          have HB5 : Hid (Below w.heap.size w w5) := below2 (below_new _ _) hb5
          have g6 : w5.cell? ⟨w.heap.size, 6, none⟩ = some (.slice a l c) := cell_of ((hb5.block _ (Array.getElem?_eq_some_iff.1 (heap_new _ _)).1).trans (heap_new _ _)) 6
          clear hb5
          cases hz : (zB o 0 0 f x) with
          | false =>
            have HE : Hid (liR o t n f x l = false) := by show _ = _; rw [liR_eq]; simp [t1, t2, t3, n3, hz]
            go_wp2_with fail
            go_ret
            exact ⟨by rw [HE.out]; rfl, HB5.out⟩
          | true =>
            cases hl : ((l : Int) == 0) with
            | false =>
              have HE : Hid (liR o t n f x l = false) := by show _ = _; rw [liR_eq]; simp [t1, t2, t3, n3, hz, hl]
              go_wp2_with fail
              go_ret
              exact ⟨by rw [HE.out]; rfl, HB5.out⟩
            | true =>
              have HE : Hid (liR o t n f x l = true) := by show _ = _; rw [liR_eq]; simp [t1, t2, t3, n3, hz, hl]
              go_wp2_with fail
              go_ret
              exact ⟨by rw [HE.out]; rfl, HB5.out⟩
    | true =>
      cases n2 : (decide (0 ≤ n)) with
      | false =>
        have HE : Hid (liR o t n f x l = false) := by show _ = _; rw [liR_eq]; simp [t1, t2, n2]
        go_enter Tryz.func128, Tryz.ntmps128
        go_wp2_with fail
        go_ret
        exact ⟨by rw [HE.out]; rfl, below_new _ _⟩
      | true =>
        go_enter Tryz.func128, Tryz.ntmps128
        go_wp2_with fail
        refine (zero_any _ _ _ _ _ _ _ _ _ _ _).mono ?_
        rintro e w5 ⟨rfl, hb5⟩
        have HB5 : Hid (Below w.heap.size w w5) := below2 (below_new _ _) hb5
        have g6 : w5.cell? ⟨w.heap.size, 6, none⟩ = some (.slice a l c) := cell_of ((hb5.block _ (Array.getElem?_eq_some_iff.1 (heap_new _ _)).1).trans (heap_new _ _)) 6
        clear hb5
        cases hz : (zB o 0 0 f x) with
        | false =>
          have HE : Hid (liR o t n f x l = false) := by show _ = _; rw [liR_eq]; simp [t1, t2, n2, hz]
          go_wp2_with fail
          go_ret
          exact ⟨by rw [HE.out]; rfl, HB5.out⟩
        | true =>
          cases hl : ((l : Int) == 0) with
          | false =>
            have HE : Hid (liR o t n f x l = false) := by show _ = _; rw [liR_eq]; simp [t1, t2, n2, hz, hl]
            go_wp2_with fail
            go_ret
            exact ⟨by rw [HE.out]; rfl, HB5.out⟩
          | true =>
            have HE : Hid (liR o t n f x l = true) := by show _ = _; rw [liR_eq]; simp [t1, t2, n2, hz, hl]
            go_wp2_with fail
            go_ret
            exact ⟨by rw [HE.out]; rfl, HB5.out⟩
  | true =>
    cases n1 : (decide (0 ≤ n)) with
    | false =>
      have HE : Hid (liR o t n f x l = false) := by show _ = _; rw [liR_eq]; simp [t1, n1]
      go_enter Tryz.func128, Tryz.ntmps128
      go_wp2_with fail
      go_ret
      exact ⟨by rw [HE.out]; rfl, below_new _ _⟩
    | true =>
      go_enter Tryz.func128, Tryz.ntmps128
      go_wp2_with fail
      refine (zero_any _ _ _ _ _ _ _ _ _ _ _).mono ?_
      rintro e w5 ⟨rfl, hb5⟩
      have HB5 : Hid (Below w.heap.size w w5) := below2 (below_new _ _) hb5
      have g6 : w5.cell? ⟨w.heap.size, 6, none⟩ = some (.slice a l c) := cell_of ((hb5.block _ (Array.getElem?_eq_some_iff.1 (heap_new _ _)).1).trans (heap_new _ _)) 6
      clear hb5
      cases hz : (zB o 0 0 f x) with
      | false =>
        have HE : Hid (liR o t n f x l = false) := by show _ = _; rw [liR_eq]; simp [t1, n1, hz]
        go_wp2_with fail
        go_ret
        exact ⟨by rw [HE.out]; rfl, HB5.out⟩
      | true =>
        cases hl : ((l : Int) == 0) with
        | false =>
          have HE : Hid (liR o t n f x l = false) := by show _ = _; rw [liR_eq]; simp [t1, n1, hz, hl]
          go_wp2_with fail
          go_ret
          exact ⟨by rw [HE.out]; rfl, HB5.out⟩
        | true =>
          have HE : Hid (liR o t n f x l = true) := by show _ = _; rw [liR_eq]; simp [t1, n1, hz, hl]
          go_wp2_with fail
          go_ret
          exact ⟨by rw [HE.out]; rfl, HB5.out⟩
end Go.Proofs.YtighocmdlifheaaGreatDoor
