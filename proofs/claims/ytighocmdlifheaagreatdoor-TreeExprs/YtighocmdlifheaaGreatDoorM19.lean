import Derived.Test.YtighocmdlifheaaGreatDoorMf
import Derived.Test.YtighocmdlifheaaGreatDoorM2
import Derived.Deep.Slices
import Derived.ProofKit
import Derived.OpenShut
import Derived.ChangeArms
import Derived.SizedLaws
/-
  The document's Formed: one.
-/
namespace Go.Proofs.YtighocmdlifheaaGreatDoor
open Go.RowKit
set_option linter.unusedVariables false
set_option linter.unusedSimpArgs false
theorem oneE_1 (o t n f : Int) (x : ByteArray) (p : Int) (l : Nat) : oneH ⟨1, o, t, n, f, x, p⟩ l = (liR o t n f x l) := by
  simp only [oneH, alike, nm, fitB, zB, liR, empt, numB]
  rw [Bool.eq_iff_iff]
  simp
  constructor <;> intro h <;> simp_all <;> omega
theorem oneE_2 (o t n f : Int) (x : ByteArray) (p : Int) (l : Nat) : oneH ⟨2, o, t, n, f, x, p⟩ l = (nameB x && (zB o t n f ⟨#[]⟩ && ((l : Int) == 0))) := by
  simp only [oneH, alike, nm, fitB, zB, liR, empt, numB]
  rw [Bool.eq_iff_iff]
  simp
  constructor <;> intro h <;> simp_all <;> omega
theorem oneE_3 (o t n f : Int) (x : ByteArray) (p : Int) (l : Nat) : oneH ⟨3, o, t, n, f, x, p⟩ l = ((decide (1 ≤ f) && decide (f ≤ 6)) && (zB o t n 0 x && ((l : Int) == 0))) := by
  simp only [oneH, alike, nm, fitB, zB, liR, empt, numB]
  rw [Bool.eq_iff_iff]
  simp
  constructor <;> intro h <;> simp_all <;> omega
theorem oneE_4 (o t n f : Int) (x : ByteArray) (p : Int) (l : Nat) : oneH ⟨4, o, t, n, f, x, p⟩ l = ((decide (1 ≤ f) && decide (f ≤ 3)) && (zB o t n 0 x && ((l : Int) == 0))) := by
  simp only [oneH, alike, nm, fitB, zB, liR, empt, numB]
  rw [Bool.eq_iff_iff]
  simp
  constructor <;> intro h <;> simp_all <;> omega
theorem oneE_5 (o t n f : Int) (x : ByteArray) (p : Int) (l : Nat) : oneH ⟨5, o, t, n, f, x, p⟩ l = (((o == 1) || (o == 2)) && (zB 0 t n f x && ((l : Int) == 1))) := by
  simp only [oneH, alike, nm, fitB, zB, liR, empt, numB]
  rw [Bool.eq_iff_iff]
  simp
  constructor <;> intro h <;> simp_all <;> omega
theorem oneE_6 (o t n f : Int) (x : ByteArray) (p : Int) (l : Nat) : oneH ⟨6, o, t, n, f, x, p⟩ l = ((decide (6 ≤ o) && decide (o ≤ 18)) && (zB 0 t n f x && ((l : Int) == 2))) := by
  simp only [oneH, alike, nm, fitB, zB, liR, empt, numB]
  rw [Bool.eq_iff_iff]
  simp
  constructor <;> intro h <;> simp_all <;> omega
theorem oneE_7 (o t n f : Int) (x : ByteArray) (p : Int) (l : Nat) : oneH ⟨7, o, t, n, f, x, p⟩ l = (zB o t n f x && ((l : Int) == 3)) := by
  simp only [oneH, alike, nm, fitB, zB, liR, empt, numB]
  rw [Bool.eq_iff_iff]
  simp
  intro h1 h2 h3 h4 h5
  omega
theorem oneE_9 (o t n f : Int) (x : ByteArray) (p : Int) (l : Nat) : oneH ⟨9, o, t, n, f, x, p⟩ l = ((decide (1 ≤ t) && decide (t ≤ 4)) && (zB o 0 n f x && ((l : Int) == 1))) := by
  simp only [oneH, alike, nm, fitB, zB, liR, empt, numB]
  rw [Bool.eq_iff_iff]
  simp
  constructor <;> intro h <;> simp_all <;> omega
theorem oneE_8a (t n f : Int) (x : ByteArray) (p : Int) (l : Nat) : oneH ⟨8, 3, t, n, f, x, p⟩ l = (zB 0 t n f x && ((l : Int) == 1)) := by
  simp only [oneH, alike, nm, fitB, zB, empt]
  rw [Bool.eq_iff_iff]
  simp
  intro h1 h2 h3 h4
  omega
theorem oneE_8b (o t n f : Int) (x : ByteArray) (p : Int) (l : Nat) (h3 : (o == 3) = false) : oneH ⟨8, o, t, n, f, x, p⟩ l = ((decide (3 ≤ o) && decide (o ≤ 5)) && (zB 0 t n f x && ((l : Int) == 2))) := by
  have h3' : ¬ o = 3 := by simpa using h3
  simp only [oneH, alike, nm, fitB, zB, empt]
  rw [Bool.eq_iff_iff]
  simp
  constructor <;> intro h <;> simp_all <;> omega
set_option maxRecDepth 100000 in
set_option maxHeartbeats 4000000 in
theorem one_3 (o t n f : Int) (x : ByteArray) (a : Option Addr) (l c : Nat) (p : Int) (w : World) : Calls Tryz.prog 113 #[.agg #[.int .u8 3, .int .u8 o, .int .u8 t, .int .i64 n, .int .u8 f, .string x, .slice a l c, .int .i64 p]] w fun e w' => e = .returned (.bool (oneH ⟨3, o, t, n, f, x, p⟩ l)) ∧ Below w.heap.size w w' := by
  cases f1 : (decide (1 ≤ f)) with
  | false =>
    have HE : Hid (oneH ⟨3, o, t, n, f, x, p⟩ l = false) := by show _ = _; rw [oneE_3]; simp [f1]
    go_enter Tryz.func113, Tryz.ntmps113
    go_wp2_with fail
    go_ret
    exact ⟨by rw [HE.out]; rfl, below_new _ _⟩
  | true =>
    cases f6 : (decide (f ≤ 6)) with
    | false =>
      have HE : Hid (oneH ⟨3, o, t, n, f, x, p⟩ l = false) := by show _ = _; rw [oneE_3]; simp [f1, f6]
      go_enter Tryz.func113, Tryz.ntmps113
      go_wp2_with fail
      go_ret
      exact ⟨by rw [HE.out]; rfl, below_new _ _⟩
    | true =>
      go_enter Tryz.func113, Tryz.ntmps113
      go_wp2_with fail
      refine (zero_any _ _ _ _ _ _ _ _ _ _ _).mono ?_
      rintro e w5 ⟨rfl, hb5⟩
      have HB5 : Hid (Below w.heap.size w w5) := below2 (below_new _ _) hb5
      have g6 : w5.cell? ⟨w.heap.size, 6, none⟩ = some (.slice a l c) := cell_of ((hb5.block _ (Array.getElem?_eq_some_iff.1 (heap_new _ _)).1).trans (heap_new _ _)) 6
      clear hb5
      cases hz : (zB o t n 0 x) with
      | false =>
        have HE : Hid (oneH ⟨3, o, t, n, f, x, p⟩ l = false) := by show _ = _; rw [oneE_3]; simp [f1, f6, hz]
        go_wp2_with fail
        go_ret
        exact ⟨by rw [HE.out]; rfl, HB5.out⟩
      | true =>
        cases hl : ((l : Int) == 0) with
        | false =>
          have HE : Hid (oneH ⟨3, o, t, n, f, x, p⟩ l = false) := by show _ = _; rw [oneE_3]; simp [f1, f6, hz, hl]
          go_wp2_with fail
          go_ret
          exact ⟨by rw [HE.out]; rfl, HB5.out⟩
        | true =>
          have HE : Hid (oneH ⟨3, o, t, n, f, x, p⟩ l = true) := by show _ = _; rw [oneE_3]; simp [f1, f6, hz, hl]
          go_wp2_with fail
          go_ret
          exact ⟨by rw [HE.out]; rfl, HB5.out⟩
set_option maxRecDepth 100000 in
set_option maxHeartbeats 4000000 in
theorem one_4 (o t n f : Int) (x : ByteArray) (a : Option Addr) (l c : Nat) (p : Int) (w : World) : Calls Tryz.prog 113 #[.agg #[.int .u8 4, .int .u8 o, .int .u8 t, .int .i64 n, .int .u8 f, .string x, .slice a l c, .int .i64 p]] w fun e w' => e = .returned (.bool (oneH ⟨4, o, t, n, f, x, p⟩ l)) ∧ Below w.heap.size w w' := by
  cases f1 : (decide (1 ≤ f)) with
  | false =>
    have HE : Hid (oneH ⟨4, o, t, n, f, x, p⟩ l = false) := by show _ = _; rw [oneE_4]; simp [f1]
    go_enter Tryz.func113, Tryz.ntmps113
    go_wp2_with fail
    go_ret
    exact ⟨by rw [HE.out]; rfl, below_new _ _⟩
  | true =>
    cases f6 : (decide (f ≤ 3)) with
    | false =>
      have HE : Hid (oneH ⟨4, o, t, n, f, x, p⟩ l = false) := by show _ = _; rw [oneE_4]; simp [f1, f6]
      go_enter Tryz.func113, Tryz.ntmps113
      go_wp2_with fail
      go_ret
      exact ⟨by rw [HE.out]; rfl, below_new _ _⟩
    | true =>
      go_enter Tryz.func113, Tryz.ntmps113
      go_wp2_with fail
      refine (zero_any _ _ _ _ _ _ _ _ _ _ _).mono ?_
      rintro e w5 ⟨rfl, hb5⟩
      have HB5 : Hid (Below w.heap.size w w5) := below2 (below_new _ _) hb5
      have g6 : w5.cell? ⟨w.heap.size, 6, none⟩ = some (.slice a l c) := cell_of ((hb5.block _ (Array.getElem?_eq_some_iff.1 (heap_new _ _)).1).trans (heap_new _ _)) 6
      clear hb5
      cases hz : (zB o t n 0 x) with
      | false =>
        have HE : Hid (oneH ⟨4, o, t, n, f, x, p⟩ l = false) := by show _ = _; rw [oneE_4]; simp [f1, f6, hz]
        go_wp2_with fail
        go_ret
        exact ⟨by rw [HE.out]; rfl, HB5.out⟩
      | true =>
        cases hl : ((l : Int) == 0) with
        | false =>
          have HE : Hid (oneH ⟨4, o, t, n, f, x, p⟩ l = false) := by show _ = _; rw [oneE_4]; simp [f1, f6, hz, hl]
          go_wp2_with fail
          go_ret
          exact ⟨by rw [HE.out]; rfl, HB5.out⟩
        | true =>
          have HE : Hid (oneH ⟨4, o, t, n, f, x, p⟩ l = true) := by show _ = _; rw [oneE_4]; simp [f1, f6, hz, hl]
          go_wp2_with fail
          go_ret
          exact ⟨by rw [HE.out]; rfl, HB5.out⟩
set_option maxRecDepth 100000 in
set_option maxHeartbeats 4000000 in
theorem one_5 (o t n f : Int) (x : ByteArray) (a : Option Addr) (l c : Nat) (p : Int) (w : World) : Calls Tryz.prog 113 #[.agg #[.int .u8 5, .int .u8 o, .int .u8 t, .int .i64 n, .int .u8 f, .string x, .slice a l c, .int .i64 p]] w fun e w' => e = .returned (.bool (oneH ⟨5, o, t, n, f, x, p⟩ l)) ∧ Below w.heap.size w w' := by
  cases o1 : (o == 1) with
  | false =>
    cases o2 : (o == 2) with
    | false =>
      have HE : Hid (oneH ⟨5, o, t, n, f, x, p⟩ l = false) := by show _ = _; rw [oneE_5]; simp [o1, o2]
      go_enter Tryz.func113, Tryz.ntmps113
      go_wp2_with fail
      go_ret
      exact ⟨by rw [HE.out]; rfl, below_new _ _⟩
    | true =>
      go_enter Tryz.func113, Tryz.ntmps113
      go_wp2_with fail
      refine (zero_any _ _ _ _ _ _ _ _ _ _ _).mono ?_
      rintro e w5 ⟨rfl, hb5⟩
      have HB5 : Hid (Below w.heap.size w w5) := below2 (below_new _ _) hb5
      have g6 : w5.cell? ⟨w.heap.size, 6, none⟩ = some (.slice a l c) := cell_of ((hb5.block _ (Array.getElem?_eq_some_iff.1 (heap_new _ _)).1).trans (heap_new _ _)) 6
      clear hb5
      cases hz : (zB 0 t n f x) with
      | false =>
        have HE : Hid (oneH ⟨5, o, t, n, f, x, p⟩ l = false) := by show _ = _; rw [oneE_5]; simp [o1, o2, hz]
        go_wp2_with fail
        go_ret
        exact ⟨by rw [HE.out]; rfl, HB5.out⟩
      | true =>
        cases hl : ((l : Int) == 1) with
        | false =>
          have HE : Hid (oneH ⟨5, o, t, n, f, x, p⟩ l = false) := by show _ = _; rw [oneE_5]; simp [o1, o2, hz, hl]
          go_wp2_with fail
          go_ret
          exact ⟨by rw [HE.out]; rfl, HB5.out⟩
        | true =>
          have HE : Hid (oneH ⟨5, o, t, n, f, x, p⟩ l = true) := by show _ = _; rw [oneE_5]; simp [o1, o2, hz, hl]
          go_wp2_with fail
          go_ret
          exact ⟨by rw [HE.out]; rfl, HB5.out⟩
  | true =>
    go_enter Tryz.func113, Tryz.ntmps113
    go_wp2_with fail
    refine (zero_any _ _ _ _ _ _ _ _ _ _ _).mono ?_
    rintro e w5 ⟨rfl, hb5⟩
    have HB5 : Hid (Below w.heap.size w w5) := below2 (below_new _ _) hb5
    have g6 : w5.cell? ⟨w.heap.size, 6, none⟩ = some (.slice a l c) := cell_of ((hb5.block _ (Array.getElem?_eq_some_iff.1 (heap_new _ _)).1).trans (heap_new _ _)) 6
    clear hb5
    cases hz : (zB 0 t n f x) with
    | false =>
      have HE : Hid (oneH ⟨5, o, t, n, f, x, p⟩ l = false) := by show _ = _; rw [oneE_5]; simp [o1, hz]
      go_wp2_with fail
      go_ret
      exact ⟨by rw [HE.out]; rfl, HB5.out⟩
    | true =>
      cases hl : ((l : Int) == 1) with
      | false =>
        have HE : Hid (oneH ⟨5, o, t, n, f, x, p⟩ l = false) := by show _ = _; rw [oneE_5]; simp [o1, hz, hl]
        go_wp2_with fail
        go_ret
        exact ⟨by rw [HE.out]; rfl, HB5.out⟩
      | true =>
        have HE : Hid (oneH ⟨5, o, t, n, f, x, p⟩ l = true) := by show _ = _; rw [oneE_5]; simp [o1, hz, hl]
        go_wp2_with fail
        go_ret
        exact ⟨by rw [HE.out]; rfl, HB5.out⟩
set_option maxRecDepth 100000 in
set_option maxHeartbeats 4000000 in
theorem one_6 (o t n f : Int) (x : ByteArray) (a : Option Addr) (l c : Nat) (p : Int) (w : World) : Calls Tryz.prog 113 #[.agg #[.int .u8 6, .int .u8 o, .int .u8 t, .int .i64 n, .int .u8 f, .string x, .slice a l c, .int .i64 p]] w fun e w' => e = .returned (.bool (oneH ⟨6, o, t, n, f, x, p⟩ l)) ∧ Below w.heap.size w w' := by
  cases o1 : (decide (6 ≤ o)) with
  | false =>
    have HE : Hid (oneH ⟨6, o, t, n, f, x, p⟩ l = false) := by show _ = _; rw [oneE_6]; simp [o1]
    go_enter Tryz.func113, Tryz.ntmps113
    go_wp2_with fail
    go_ret
    exact ⟨by rw [HE.out]; rfl, below_new _ _⟩
  | true =>
    cases o2 : (decide (o ≤ 18)) with
    | false =>
      have HE : Hid (oneH ⟨6, o, t, n, f, x, p⟩ l = false) := by show _ = _; rw [oneE_6]; simp [o1, o2]
      go_enter Tryz.func113, Tryz.ntmps113
      go_wp2_with fail
      go_ret
      exact ⟨by rw [HE.out]; rfl, below_new _ _⟩
    | true =>
      go_enter Tryz.func113, Tryz.ntmps113
      go_wp2_with fail
      refine (zero_any _ _ _ _ _ _ _ _ _ _ _).mono ?_
      rintro e w5 ⟨rfl, hb5⟩
      have HB5 : Hid (Below w.heap.size w w5) := below2 (below_new _ _) hb5
      have g6 : w5.cell? ⟨w.heap.size, 6, none⟩ = some (.slice a l c) := cell_of ((hb5.block _ (Array.getElem?_eq_some_iff.1 (heap_new _ _)).1).trans (heap_new _ _)) 6
      clear hb5
      cases hz : (zB 0 t n f x) with
      | false =>
        have HE : Hid (oneH ⟨6, o, t, n, f, x, p⟩ l = false) := by show _ = _; rw [oneE_6]; simp [o1, o2, hz]
        go_wp2_with fail
        go_ret
        exact ⟨by rw [HE.out]; rfl, HB5.out⟩
      | true =>
        cases hl : ((l : Int) == 2) with
        | false =>
          have HE : Hid (oneH ⟨6, o, t, n, f, x, p⟩ l = false) := by show _ = _; rw [oneE_6]; simp [o1, o2, hz, hl]
          go_wp2_with fail
          go_ret
          exact ⟨by rw [HE.out]; rfl, HB5.out⟩
        | true =>
          have HE : Hid (oneH ⟨6, o, t, n, f, x, p⟩ l = true) := by show _ = _; rw [oneE_6]; simp [o1, o2, hz, hl]
          go_wp2_with fail
          go_ret
          exact ⟨by rw [HE.out]; rfl, HB5.out⟩
set_option maxRecDepth 100000 in
set_option maxHeartbeats 4000000 in
theorem one_7 (o t n f : Int) (x : ByteArray) (a : Option Addr) (l c : Nat) (p : Int) (w : World) : Calls Tryz.prog 113 #[.agg #[.int .u8 7, .int .u8 o, .int .u8 t, .int .i64 n, .int .u8 f, .string x, .slice a l c, .int .i64 p]] w fun e w' => e = .returned (.bool (oneH ⟨7, o, t, n, f, x, p⟩ l)) ∧ Below w.heap.size w w' := by
  go_enter Tryz.func113, Tryz.ntmps113
  go_wp2_with fail
  refine (zero_any _ _ _ _ _ _ _ _ _ _ _).mono ?_
  rintro e w5 ⟨rfl, hb5⟩
  have HB5 : Hid (Below w.heap.size w w5) := below2 (below_new _ _) hb5
  have g6 : w5.cell? ⟨w.heap.size, 6, none⟩ = some (.slice a l c) := cell_of ((hb5.block _ (Array.getElem?_eq_some_iff.1 (heap_new _ _)).1).trans (heap_new _ _)) 6
  clear hb5
  cases hz : (zB o t n f x) with
  | false =>
    have HE : Hid (oneH ⟨7, o, t, n, f, x, p⟩ l = false) := by show _ = _; rw [oneE_7]; simp [hz]
    go_wp2_with fail
    go_ret
    exact ⟨by rw [HE.out]; rfl, HB5.out⟩
  | true =>
    cases hl : ((l : Int) == 3) with
    | false =>
      have HE : Hid (oneH ⟨7, o, t, n, f, x, p⟩ l = false) := by show _ = _; rw [oneE_7]; simp [hz, hl]
      go_wp2_with fail
      go_ret
      exact ⟨by rw [HE.out]; rfl, HB5.out⟩
    | true =>
      have HE : Hid (oneH ⟨7, o, t, n, f, x, p⟩ l = true) := by show _ = _; rw [oneE_7]; simp [hz, hl]
      go_wp2_with fail
      go_ret
      exact ⟨by rw [HE.out]; rfl, HB5.out⟩
set_option maxRecDepth 100000 in
set_option maxHeartbeats 4000000 in
theorem one_9 (o t n f : Int) (x : ByteArray) (a : Option Addr) (l c : Nat) (p : Int) (w : World) : Calls Tryz.prog 113 #[.agg #[.int .u8 9, .int .u8 o, .int .u8 t, .int .i64 n, .int .u8 f, .string x, .slice a l c, .int .i64 p]] w fun e w' => e = .returned (.bool (oneH ⟨9, o, t, n, f, x, p⟩ l)) ∧ Below w.heap.size w w' := by
  cases t1 : (decide (1 ≤ t)) with
  | false =>
    have HE : Hid (oneH ⟨9, o, t, n, f, x, p⟩ l = false) := by show _ = _; rw [oneE_9]; simp [t1]
    go_enter Tryz.func113, Tryz.ntmps113
    go_wp2_with fail
    go_ret
    exact ⟨by rw [HE.out]; rfl, below_new _ _⟩
  | true =>
    cases t4 : (decide (t ≤ 4)) with
    | false =>
      have HE : Hid (oneH ⟨9, o, t, n, f, x, p⟩ l = false) := by show _ = _; rw [oneE_9]; simp [t1, t4]
      go_enter Tryz.func113, Tryz.ntmps113
      go_wp2_with fail
      go_ret
      exact ⟨by rw [HE.out]; rfl, below_new _ _⟩
    | true =>
      go_enter Tryz.func113, Tryz.ntmps113
      go_wp2_with fail
      refine (zero_any _ _ _ _ _ _ _ _ _ _ _).mono ?_
      rintro e w5 ⟨rfl, hb5⟩
      have HB5 : Hid (Below w.heap.size w w5) := below2 (below_new _ _) hb5
      have g6 : w5.cell? ⟨w.heap.size, 6, none⟩ = some (.slice a l c) := cell_of ((hb5.block _ (Array.getElem?_eq_some_iff.1 (heap_new _ _)).1).trans (heap_new _ _)) 6
      clear hb5
      cases hz : (zB o 0 n f x) with
      | false =>
        have HE : Hid (oneH ⟨9, o, t, n, f, x, p⟩ l = false) := by show _ = _; rw [oneE_9]; simp [t1, t4, hz]
        go_wp2_with fail
        go_ret
        exact ⟨by rw [HE.out]; rfl, HB5.out⟩
      | true =>
        cases hl : ((l : Int) == 1) with
        | false =>
          have HE : Hid (oneH ⟨9, o, t, n, f, x, p⟩ l = false) := by show _ = _; rw [oneE_9]; simp [t1, t4, hz, hl]
          go_wp2_with fail
          go_ret
          exact ⟨by rw [HE.out]; rfl, HB5.out⟩
        | true =>
          have HE : Hid (oneH ⟨9, o, t, n, f, x, p⟩ l = true) := by show _ = _; rw [oneE_9]; simp [t1, t4, hz, hl]
          go_wp2_with fail
          go_ret
          exact ⟨by rw [HE.out]; rfl, HB5.out⟩
set_option maxRecDepth 100000 in
set_option maxHeartbeats 4000000 in
theorem one_8a (t n f : Int) (x : ByteArray) (a : Option Addr) (l c : Nat) (p : Int) (w : World) : Calls Tryz.prog 113 #[.agg #[.int .u8 8, .int .u8 3, .int .u8 t, .int .i64 n, .int .u8 f, .string x, .slice a l c, .int .i64 p]] w fun e w' => e = .returned (.bool (oneH ⟨8, 3, t, n, f, x, p⟩ l)) ∧ Below w.heap.size w w' := by
  go_enter Tryz.func113, Tryz.ntmps113
  go_wp2_with fail
  refine (zero_any _ _ _ _ _ _ _ _ _ _ _).mono ?_
  rintro e w5 ⟨rfl, hb5⟩
  have HB5 : Hid (Below w.heap.size w w5) := below2 (below_new _ _) hb5
  have g6 : w5.cell? ⟨w.heap.size, 6, none⟩ = some (.slice a l c) := cell_of ((hb5.block _ (Array.getElem?_eq_some_iff.1 (heap_new _ _)).1).trans (heap_new _ _)) 6
  clear hb5
  cases hz : (zB 0 t n f x) with
  | false =>
    have HE : Hid (oneH ⟨8, 3, t, n, f, x, p⟩ l = false) := by show _ = _; rw [oneE_8a]; simp [hz]
    go_wp2_with fail
    go_ret
    exact ⟨by rw [HE.out]; rfl, HB5.out⟩
  | true =>
    cases hl : ((l : Int) == 1) with
    | false =>
      have HE : Hid (oneH ⟨8, 3, t, n, f, x, p⟩ l = false) := by show _ = _; rw [oneE_8a]; simp [hz, hl]
      go_wp2_with fail
      go_ret
      exact ⟨by rw [HE.out]; rfl, HB5.out⟩
    | true =>
      have HE : Hid (oneH ⟨8, 3, t, n, f, x, p⟩ l = true) := by show _ = _; rw [oneE_8a]; simp [hz, hl]
      go_wp2_with fail
      go_ret
      exact ⟨by rw [HE.out]; rfl, HB5.out⟩
set_option maxRecDepth 100000 in
set_option maxHeartbeats 4000000 in
theorem one_8b (o t n f : Int) (x : ByteArray) (a : Option Addr) (l c : Nat) (p : Int) (w : World) (o3 : (o == 3) = false) : Calls Tryz.prog 113 #[.agg #[.int .u8 8, .int .u8 o, .int .u8 t, .int .i64 n, .int .u8 f, .string x, .slice a l c, .int .i64 p]] w fun e w' => e = .returned (.bool (oneH ⟨8, o, t, n, f, x, p⟩ l)) ∧ Below w.heap.size w w' := by
  cases o1 : (decide (3 ≤ o)) with
  | false =>
    have HE : Hid (oneH ⟨8, o, t, n, f, x, p⟩ l = false) := by show _ = _; rw [oneE_8b _ _ _ _ _ _ _ o3]; simp [o1]
    go_enter Tryz.func113, Tryz.ntmps113
    go_wp2_with fail
    go_ret
    exact ⟨by rw [HE.out]; rfl, below_new _ _⟩
  | true =>
    cases o2 : (decide (o ≤ 5)) with
    | false =>
      have HE : Hid (oneH ⟨8, o, t, n, f, x, p⟩ l = false) := by show _ = _; rw [oneE_8b _ _ _ _ _ _ _ o3]; simp [o1, o2]
      go_enter Tryz.func113, Tryz.ntmps113
      go_wp2_with fail
      go_ret
      exact ⟨by rw [HE.out]; rfl, below_new _ _⟩
    | true =>
      go_enter Tryz.func113, Tryz.ntmps113
      go_wp2_with fail
      refine (zero_any _ _ _ _ _ _ _ _ _ _ _).mono ?_
      rintro e w5 ⟨rfl, hb5⟩
      have HB5 : Hid (Below w.heap.size w w5) := below2 (below_new _ _) hb5
      have g6 : w5.cell? ⟨w.heap.size, 6, none⟩ = some (.slice a l c) := cell_of ((hb5.block _ (Array.getElem?_eq_some_iff.1 (heap_new _ _)).1).trans (heap_new _ _)) 6
      clear hb5
      cases hz : (zB 0 t n f x) with
      | false =>
        have HE : Hid (oneH ⟨8, o, t, n, f, x, p⟩ l = false) := by show _ = _; rw [oneE_8b _ _ _ _ _ _ _ o3]; simp [o1, o2, hz]
        go_wp2_with fail
        go_ret
        exact ⟨by rw [HE.out]; rfl, HB5.out⟩
      | true =>
        cases hl : ((l : Int) == 2) with
        | false =>
          have HE : Hid (oneH ⟨8, o, t, n, f, x, p⟩ l = false) := by show _ = _; rw [oneE_8b _ _ _ _ _ _ _ o3]; simp [o1, o2, hz, hl]
          go_wp2_with fail
          go_ret
          exact ⟨by rw [HE.out]; rfl, HB5.out⟩
        | true =>
          have HE : Hid (oneH ⟨8, o, t, n, f, x, p⟩ l = true) := by show _ = _; rw [oneE_8b _ _ _ _ _ _ _ o3]; simp [o1, o2, hz, hl]
          go_wp2_with fail
          go_ret
          exact ⟨by rw [HE.out]; rfl, HB5.out⟩
set_option maxRecDepth 100000 in
theorem one_1 (o t n f : Int) (x : ByteArray) (a : Option Addr) (l c : Nat) (p : Int) (w : World) : Calls Tryz.prog 113 #[.agg #[.int .u8 1, .int .u8 o, .int .u8 t, .int .i64 n, .int .u8 f, .string x, .slice a l c, .int .i64 p]] w fun e w' => e = .returned (.bool (oneH ⟨1, o, t, n, f, x, p⟩ l)) ∧ Below w.heap.size w w' := by
  have HE : Hid (oneH ⟨1, o, t, n, f, x, p⟩ l = liR o t n f x l) := oneE_1 ..
  go_enter Tryz.func113, Tryz.ntmps113
  go_wp2_with fail
  refine (literal_any _ _ _ _ _ _ _ _ _ _ _).mono ?_
  rintro e w5 ⟨rfl, hb5⟩
  have HB5 : Hid (Below w.heap.size w w5) := below2 (below_new _ _) hb5
  clear hb5
  go_wp2_with fail
  go_ret
  exact ⟨by rw [HE.out]; rfl, HB5.out⟩
set_option maxRecDepth 100000 in
set_option maxHeartbeats 4000000 in
theorem one_2 (o t n f : Int) (x : ByteArray) (a : Option Addr) (l c : Nat) (p : Int) (w : World) (hx : x.size ≤ 140737488355328) : Calls Tryz.prog 113 #[.agg #[.int .u8 2, .int .u8 o, .int .u8 t, .int .i64 n, .int .u8 f, .string x, .slice a l c, .int .i64 p]] w fun e w' => e = .returned (.bool (oneH ⟨2, o, t, n, f, x, p⟩ l)) ∧ Below w.heap.size w w' := by
  have hn1 := heap_new w (.cells #[.int .u8 2, .int .u8 o, .int .u8 t, .int .i64 n, .int .u8 f, .string x, .slice a l c, .int .i64 p] 55)
  have hb1 := below_new w (.cells #[.int .u8 2, .int .u8 o, .int .u8 t, .int .i64 n, .int .u8 f, .string x, .slice a l c, .int .i64 p] 55)
  obtain ⟨W1, e1⟩ : ∃ W, w.alloc (.cells #[.int .u8 2, .int .u8 o, .int .u8 t, .int .i64 n, .int .u8 f, .string x, .slice a l c, .int .i64 p] 55) = W := ⟨_, rfl⟩
  have E1 : Hid (w.alloc (.cells #[.int .u8 2, .int .u8 o, .int .u8 t, .int .i64 n, .int .u8 f, .string x, .slice a l c, .int .i64 p] 55) = W1) := e1
  rw [e1] at hn1 hb1
  have HN : Hid (W1.heap[w.heap.size]? = some (.cells #[.int .u8 2, .int .u8 o, .int .u8 t, .int .i64 n, .int .u8 f, .string x, .slice a l c, .int .i64 p] 55 (0, 0)) ∧ Below w.heap.size w W1) := ⟨hn1, hb1⟩
  have c0 : W1.cell? ⟨w.heap.size, 0, none⟩ = some (.int .u8 2) := cell_of hn1 0
  have c5 : W1.cell? ⟨w.heap.size, 5, none⟩ = some (.string x) := cell_of hn1 5
  have cN := rname_any x hx W1
  clear hn1 hb1 e1
  go_enter Tryz.func113, Tryz.ntmps113
  go_upto_region 1 with fail
  rw [E1.out]
  clear E1
  go_wp2_with fail
  refine cN.mono ?_
  rintro e w2 ⟨rfl, hb2⟩
  have g := (hb2.block _ (Array.getElem?_eq_some_iff.1 HN.out.1).1).trans HN.out.1
  have HB2 : Hid (Below w.heap.size w w2) := below2 HN.out.2 hb2
  have d5 : w2.cell? ⟨w.heap.size, 5, none⟩ = some (.string x) := cell_of g 5
  have f5 : w2.frozen? ⟨w.heap.size, 5, none⟩ = false := frozen_of g 5
  have u := heap_setCell_same w2 w.heap.size 5 _ _ (.string ⟨#[]⟩) g
  have HU : Hid ((w2.setCell ⟨w.heap.size, 5, none⟩ (.string ⟨#[]⟩)).heap[w.heap.size]? = some (.cells #[.int .u8 2, .int .u8 o, .int .u8 t, .int .i64 n, .int .u8 f, .string ⟨#[]⟩, .slice a l c, .int .i64 p] 55 (0, 0)) ∧ Below w.heap.size w (w2.setCell ⟨w.heap.size, 5, none⟩ (.string ⟨#[]⟩))) := ⟨u, HB2.out.setCell (Nat.le_refl _) _⟩
  clear u g hb2 cN c0 c5
  go_upto_region 36 with fail
  generalize w2.setCell ⟨w.heap.size, 5, none⟩ (.string ⟨#[]⟩) = U at HU ⊢
  clear d5 f5
  cases hn : nameB x with
  | false =>
    have HE : Hid (oneH ⟨2, o, t, n, f, x, p⟩ l = false) := by show _ = _; rw [oneE_2]; simp [hn]
    clear hn
    go_wp2_with fail
    go_ret
    exact ⟨by rw [HE.out]; rfl, HU.out.2⟩
  | true =>
    have q0 : U.cell? ⟨w.heap.size, 0, none⟩ = some (.int .u8 2) := cell_of HU.out.1 0
    have q1 : U.cell? ⟨w.heap.size, 1, none⟩ = some (.int .u8 o) := cell_of HU.out.1 1
    have q2 : U.cell? ⟨w.heap.size, 2, none⟩ = some (.int .u8 t) := cell_of HU.out.1 2
    have q3 : U.cell? ⟨w.heap.size, 3, none⟩ = some (.int .i64 n) := cell_of HU.out.1 3
    have q4 : U.cell? ⟨w.heap.size, 4, none⟩ = some (.int .u8 f) := cell_of HU.out.1 4
    have q5 : U.cell? ⟨w.heap.size, 5, none⟩ = some (.string ⟨#[]⟩) := cell_of HU.out.1 5
    have q6 : U.cell? ⟨w.heap.size, 6, none⟩ = some (.slice a l c) := cell_of HU.out.1 6
    have q7 : U.cell? ⟨w.heap.size, 7, none⟩ = some (.int .i64 p) := cell_of HU.out.1 7
    go_wp2_with fail
    refine (zero_any _ _ _ _ _ _ _ _ _ _ _).mono ?_
    rintro e w5 ⟨rfl, hb5⟩
    have HB5 : Hid (Below w.heap.size w w5) := below2 HU.out.2 hb5
    have g6 : w5.cell? ⟨w.heap.size, 6, none⟩ = some (.slice a l c) := cell_of ((hb5.block _ (Array.getElem?_eq_some_iff.1 HU.out.1).1).trans HU.out.1) 6
    clear hb5 q0 q1 q2 q3 q4 q5 q6 q7
    cases hz : (zB o t n f ⟨#[]⟩) with
    | false =>
      have HE : Hid (oneH ⟨2, o, t, n, f, x, p⟩ l = false) := by show _ = _; rw [oneE_2]; simp [hz]
      go_wp2_with fail
      go_ret
      exact ⟨by rw [HE.out]; rfl, HB5.out⟩
    | true =>
      cases hl : ((l : Int) == 0) with
      | false =>
        have HE : Hid (oneH ⟨2, o, t, n, f, x, p⟩ l = false) := by show _ = _; rw [oneE_2]; simp [hz, hl]
        go_wp2_with fail
        go_ret
        exact ⟨by rw [HE.out]; rfl, HB5.out⟩
      | true =>
        have HE : Hid (oneH ⟨2, o, t, n, f, x, p⟩ l = true) := by show _ = _; rw [oneE_2]; simp [hn, hz, hl]
        go_wp2_with fail
        go_ret
        exact ⟨by rw [HE.out]; rfl, HB5.out⟩
theorem oneE_n (k o t n f : Int) (x : ByteArray) (p : Int) (l : Nat) (h1 : ¬ k = 1) (h2 : ¬ k = 2) (h3 : ¬ k = 3) (h4 : ¬ k = 4) (h5 : ¬ k = 5) (h6 : ¬ k = 6) (h7 : ¬ k = 7) (h8 : ¬ k = 8) (h9 : ¬ k = 9) : oneH ⟨k, o, t, n, f, x, p⟩ l = false := by
  simp [oneH, fitB, h1, h2, h3, h4, h5, h6, h7, h8, h9]
set_option maxRecDepth 100000 in
theorem one_n (k : Int) (o t n f : Int) (x : ByteArray) (a : Option Addr) (l c : Nat) (p : Int) (w : World) (h1 : ¬ k = 1) (h2 : ¬ k = 2) (h3 : ¬ k = 3) (h4 : ¬ k = 4) (h5 : ¬ k = 5) (h6 : ¬ k = 6) (h7 : ¬ k = 7) (h8 : ¬ k = 8) (h9 : ¬ k = 9) : Calls Tryz.prog 113 #[.agg #[.int .u8 k, .int .u8 o, .int .u8 t, .int .i64 n, .int .u8 f, .string x, .slice a l c, .int .i64 p]] w fun e w' => e = .returned (.bool (oneH ⟨k, o, t, n, f, x, p⟩ l)) ∧ Below w.heap.size w w' := by
  have HE : Hid (oneH ⟨k, o, t, n, f, x, p⟩ l = false) := oneE_n _ _ _ _ _ _ _ _ h1 h2 h3 h4 h5 h6 h7 h8 h9
  have e1 : (k == 1) = false := by simpa using h1
  have e2 : (k == 2) = false := by simpa using h2
  have e3 : (k == 3) = false := by simpa using h3
  have e4 : (k == 4) = false := by simpa using h4
  have e5 : (k == 5) = false := by simpa using h5
  have e6 : (k == 6) = false := by simpa using h6
  have e7 : (k == 7) = false := by simpa using h7
  have e8 : (k == 8) = false := by simpa using h8
  have e9 : (k == 9) = false := by simpa using h9
  clear h1 h2 h3 h4 h5 h6 h7 h8 h9
  go_enter Tryz.func113, Tryz.ntmps113
  go_wp2_with fail
  go_ret
  exact ⟨by rw [HE.out]; rfl, below_new _ _⟩
theorem rone_any (h : Hd) (a : Option Addr) (l c : Nat) (w : World) (hx : h.x.size ≤ 140737488355328) : Calls Tryz.prog 113 #[.agg #[.int .u8 h.k, .int .u8 h.o, .int .u8 h.t, .int .i64 h.n, .int .u8 h.f, .string h.x, .slice a l c, .int .i64 h.p]] w fun e w' => e = .returned (.bool (oneH h l)) ∧ Below w.heap.size w w' := by
  obtain ⟨k, o, t, n, f, x, p⟩ := h
  by_cases h1 : k = 1
  · subst h1; exact one_1 o t n f x a l c p w
  by_cases h2 : k = 2
  · subst h2; exact one_2 o t n f x a l c p w hx
  by_cases h3 : k = 3
  · subst h3; exact one_3 o t n f x a l c p w
  by_cases h4 : k = 4
  · subst h4; exact one_4 o t n f x a l c p w
  by_cases h5 : k = 5
  · subst h5; exact one_5 o t n f x a l c p w
  by_cases h6 : k = 6
  · subst h6; exact one_6 o t n f x a l c p w
  by_cases h7 : k = 7
  · subst h7; exact one_7 o t n f x a l c p w
  by_cases h8 : k = 8
  · subst h8
    by_cases q3 : o = 3
    · subst q3; exact one_8a t n f x a l c p w
    · exact one_8b o t n f x a l c p w (by simpa using q3)
  by_cases h9 : k = 9
  · subst h9; exact one_9 o t n f x a l c p w
  · exact one_n k o t n f x a l c p w h1 h2 h3 h4 h5 h6 h7 h8 h9
end Go.Proofs.YtighocmdlifheaaGreatDoor

/-
  Expressions that came in, opened.
-/
namespace Go.Proofs.YtighocmdlifheaaGreatDoor
open Go.ChangeShapes Go.WideShapes Go.ChangeAt Go.RowKit
theorem mem_all {H : Type} {P : Program} {e : TypeId} : ∀ {l : List (DataW H)} {j : Nat} {d : DataW H}, l[j]? = some d → ∀ n ∈ d.weights P e, n ∈ DataW.weightsAll P e l
  | d0 :: l, 0, d, hd, n, hn => by
    simp only [List.getElem?_cons_zero, Option.some.injEq] at hd
    subst hd
    simp only [DataW.weightsAll, List.mem_append]
    exact Or.inl hn
  | d0 :: l, j + 1, d, hd, n, hn => by
    simp only [List.getElem?_cons_succ] at hd
    simp only [DataW.weightsAll, List.mem_append]
    exact Or.inr (mem_all hd n hn)
  | [], _, _, hd, _, _ => by simp at hd
set_option maxRecDepth 100000 in
theorem nd_open {H : Type} {enc : TypeId × Value → H} {W : World} {held : Bool} : ∀ (fuel : Nat) (cs : List Value) (x : DataW H × List MemPlace), DataW.trod enc Tryz.prog W 0 (fun _ => true) held fuel 55 cs = some x →
    (∀ z ∈ x.1.weights Tryz.prog 55, z ≤ reachBytes) → ∃ m : Nd, cs = m.vals.toList ∧ Lies W m := by
  intro fuel
  induction fuel using Nat.strongRecOn with
  | _ fuel ih =>
  intro cs x h hz
  obtain ⟨xs, k, hk, hx, hlen, hxl, hf⟩ := DataW.trod_struct Tryz.underlying55 h
  rw [show Tryz.prog.cellsOf 55 = 8 by kernel_rfl] at hlen
  match cs, hlen with
  | [v0, v1, v2, v3, v4, v5, v6, v7], _ =>
    have hx8 : xs.length = 8 := hxl
    match xs, hx8 with
    | [y0, y1, y2, y3, y4, y5, y6, y7], _ =>
      have g0 : DataW.trod enc Tryz.prog W 0 (fun _ => true) held k 49 (([v0, v1, v2, v3, v4, v5, v6, v7].drop 0).take (Tryz.prog.cellsOf 49)) = some y0 := hf 0 _ rfl
      have g1 : DataW.trod enc Tryz.prog W 0 (fun _ => true) held k 50 (([v0, v1, v2, v3, v4, v5, v6, v7].drop 1).take (Tryz.prog.cellsOf 50)) = some y1 := hf 1 _ rfl
      have g2 : DataW.trod enc Tryz.prog W 0 (fun _ => true) held k 51 (([v0, v1, v2, v3, v4, v5, v6, v7].drop 2).take (Tryz.prog.cellsOf 51)) = some y2 := hf 2 _ rfl
      have g3 : DataW.trod enc Tryz.prog W 0 (fun _ => true) held k 2 (([v0, v1, v2, v3, v4, v5, v6, v7].drop 3).take (Tryz.prog.cellsOf 2)) = some y3 := hf 3 _ rfl
      have g4 : DataW.trod enc Tryz.prog W 0 (fun _ => true) held k 52 (([v0, v1, v2, v3, v4, v5, v6, v7].drop 4).take (Tryz.prog.cellsOf 52)) = some y4 := hf 4 _ rfl
      have g5 : DataW.trod enc Tryz.prog W 0 (fun _ => true) held k 9 (([v0, v1, v2, v3, v4, v5, v6, v7].drop 5).take (Tryz.prog.cellsOf 9)) = some y5 := hf 5 _ rfl
      have g6 : DataW.trod enc Tryz.prog W 0 (fun _ => true) held k 53 (([v0, v1, v2, v3, v4, v5, v6, v7].drop 6).take (Tryz.prog.cellsOf 53)) = some y6 := hf 6 _ rfl
      have g7 : DataW.trod enc Tryz.prog W 0 (fun _ => true) held k 3 (([v0, v1, v2, v3, v4, v5, v6, v7].drop 7).take (Tryz.prog.cellsOf 3)) = some y7 := hf 7 _ rfl
      rw [show Tryz.prog.cellsOf 49 = 1 by kernel_rfl] at g0
      rw [show Tryz.prog.cellsOf 50 = 1 by kernel_rfl] at g1
      rw [show Tryz.prog.cellsOf 51 = 1 by kernel_rfl] at g2
      rw [show Tryz.prog.cellsOf 2 = 1 by kernel_rfl] at g3
      rw [show Tryz.prog.cellsOf 52 = 1 by kernel_rfl] at g4
      rw [show Tryz.prog.cellsOf 9 = 1 by kernel_rfl] at g5
      rw [show Tryz.prog.cellsOf 53 = 1 by kernel_rfl] at g6
      rw [show Tryz.prog.cellsOf 3 = 1 by kernel_rfl] at g7
      obtain ⟨n0, e0, _, w0⟩ := DataW.trod_int (show Tryz.prog.underlying 49 = some (.int .u8) by kernel_rfl) (show DataW.trod enc Tryz.prog W 0 (fun _ => true) held k 49 [v0] = some y0 from g0)
      obtain ⟨n1, e1, _, w1⟩ := DataW.trod_int (show Tryz.prog.underlying 50 = some (.int .u8) by kernel_rfl) (show DataW.trod enc Tryz.prog W 0 (fun _ => true) held k 50 [v1] = some y1 from g1)
      obtain ⟨n2, e2, _, w2⟩ := DataW.trod_int (show Tryz.prog.underlying 51 = some (.int .u8) by kernel_rfl) (show DataW.trod enc Tryz.prog W 0 (fun _ => true) held k 51 [v2] = some y2 from g2)
      obtain ⟨n3, e3, _, w3⟩ := DataW.trod_int (show Tryz.prog.underlying 2 = some (.int .i64) by kernel_rfl) (show DataW.trod enc Tryz.prog W 0 (fun _ => true) held k 2 [v3] = some y3 from g3)
      obtain ⟨n4, e4, _, w4⟩ := DataW.trod_int (show Tryz.prog.underlying 52 = some (.int .u8) by kernel_rfl) (show DataW.trod enc Tryz.prog W 0 (fun _ => true) held k 52 [v4] = some y4 from g4)
      obtain ⟨n5, e5, d5, w5⟩ := DataW.trod_string (show Tryz.prog.underlying 9 = some .string by kernel_rfl) (show DataW.trod enc Tryz.prog W 0 (fun _ => true) held k 9 [v5] = some y5 from g5)
      obtain ⟨n7, e7, _, w7⟩ := DataW.trod_int (show Tryz.prog.underlying 3 = some (.int .i64) by kernel_rfl) (show DataW.trod enc Tryz.prog W 0 (fun _ => true) held k 3 [v7] = some y7 from g7)
      cases e0; cases e1; cases e2; cases e3; cases e4; cases e5; cases e7
      have hz' : ∀ (j : Nat) (t : TypeId) (d : DataW H), [49, 50, 51, 2, 52, 9, 53, 3][j]? = some t → ([y0, y1, y2, y3, y4, y5, y6, y7].map (·.1))[j]? = some d → ∀ z ∈ d.weights Tryz.prog t, z ≤ reachBytes := by
        intro j t d h1 h2 z hz1
        refine hz z ?_
        rw [hx]
        have := DataW.weights_mem_each (P := Tryz.prog) h1 h2 z hz1
        rw [show (DataW.weights Tryz.prog 55 (.agg ([y0, y1, y2, y3, y4, y5, y6, y7].map (·.1)) : DataW H)) = DataW.weightsEach Tryz.prog [49, 50, 51, 2, 52, 9, 53, 3] ([y0, y1, y2, y3, y4, y5, y6, y7].map (·.1)) by
          rw [DataW.weights, Tryz.underlying55]; rfl]
        exact this
      have hr : Rg ⟨n0, n1, n2, n3, n4, n5, n7⟩ := by
        refine ⟨(bounds_u8 w0).1, (bounds_u8 w0).2, (bounds_u8 w1).1, (bounds_u8 w1).2, (bounds_u8 w2).1, (bounds_u8 w2).2, (bounds_i64 w3).1, (bounds_i64 w3).2, (bounds_u8 w4).1, (bounds_u8 w4).2, (bounds_i64 w7).1, (bounds_i64 w7).2, ?_⟩
        have := hz' 5 9 y5.1 rfl rfl n5.size (by rw [d5]; simp [DataW.weights])
        have h2 : reachBytes ≤ 140737488355328 := by decide
        exact Nat.le_trans this h2
      rcases DataW.trod_slice Tryz.underlying53 (show DataW.trod enc Tryz.prog W 0 (fun _ => true) held k 53 [v6] = some y6 from g6) with ⟨hcs, _⟩ | ⟨a, len, cap, elems, rest, n, hn, hcs, hx6, hb, hl, hm, hlen', hel, hsp, hns⟩
      · cases hcs
        exact ⟨.mk ⟨n0, n1, n2, n3, n4, n5, n7⟩ none 0 [], rfl, .mk _ _ _ _ hr (Nat.le_refl _) (by decide) (fun i hi => by simp at hi) (fun k hk => by cases hk)⟩
      · cases hcs
        have each : ∀ i, i < len → ∃ q : Nd, (∀ j, j < 8 → W.cell? (a.add (i * 8 + j)) = q.vals.toList[j]?) ∧ Lies W q := by
          intro i hi
          have h1 := hel i hi
          rw [show Tryz.prog.cellsOf 55 = 8 by kernel_rfl] at h1
          have h2 : elems[i]? = some elems[i] := List.getElem?_eq_getElem (by omega)
          rw [h2] at h1
          obtain ⟨cs', h3, h4⟩ := Option.bind_eq_some_iff.1 h1
          obtain ⟨q, hq, hlq⟩ := ih n (by omega) cs' elems[i] h4 (fun z hz1 => hz' 6 53 y6.1 rfl rfl z (by
            rw [hx6, DataW.weights, Tryz.underlying53]
            refine List.mem_cons_of_mem _ (List.mem_append_left _ ?_)
            exact mem_all (j := i) (by simp [h2]) z hz1))
          obtain ⟨_, hlen, hcell⟩ := World.cells?_some h3
          refine ⟨q, fun j hj => ?_, hlq⟩
          have e0 := hcell j (by omega)
          rw [Go.Deep.add_add] at e0
          rw [e0, hq]
        have : Inhabited Nd := ⟨.mk ⟨0, 0, 0, 0, 0, ⟨#[]⟩, 0⟩ none 0 []⟩
        obtain ⟨A, hA⟩ := Go.Deep.choose_lt each
        refine ⟨.mk ⟨n0, n1, n2, n3, n4, n5, n7⟩ (some a) cap ((List.range len).map A), by simp [Nd.vals, hdA, Nd.h, Nd.a, Nd.ks, Nd.c], .mk _ _ _ _ hr (by simpa using hl) (by unfold maxLen at hm; omega) (fun i hi => ?_) (fun k hk => ?_)⟩
        · have hi' : i < len := by simpa using hi
          have g := (hA i hi').1
          have hc0 := (hA 0 (by omega)).1 0 (by omega)
          obtain ⟨b, off, spot⟩ := a
          have hspot : spot = none := by simpa [Addr.add] using World.cell?_spot hc0
          subst hspot
          refine ⟨b, off, rfl, ?_⟩
          rw [List.getElem_map, List.getElem_range]
          refine ⟨?_, ?_, ?_, ?_, ?_, ?_, ?_, ?_⟩
          · have := g 0 (by omega); rw [Addr.add_lit] at this; exact this
          · have := g 1 (by omega); rw [Addr.add_lit, ← Nat.add_assoc] at this; exact this
          · have := g 2 (by omega); rw [Addr.add_lit, ← Nat.add_assoc] at this; exact this
          · have := g 3 (by omega); rw [Addr.add_lit, ← Nat.add_assoc] at this; exact this
          · have := g 4 (by omega); rw [Addr.add_lit, ← Nat.add_assoc] at this; exact this
          · have := g 5 (by omega); rw [Addr.add_lit, ← Nat.add_assoc] at this; exact this
          · have := g 6 (by omega); rw [Addr.add_lit, ← Nat.add_assoc] at this; exact this
          · have := g 7 (by omega); rw [Addr.add_lit, ← Nat.add_assoc] at this; exact this
        · obtain ⟨i, hi, rfl⟩ := List.mem_map.1 hk
          exact (hA i (List.mem_range.1 hi)).2
theorem nd_in {H : Type} {enc : TypeId × Value → H} {W : World} {held : Bool} {fuel : Nat} {cs : Array Value} {x : DataW H × List MemPlace}
    (h : DataW.trod enc Tryz.prog W 0 (fun _ => true) held fuel 55 (Value.agg cs).cells.toList = some x) (hz : ∀ z ∈ x.1.weights Tryz.prog 55, z ≤ reachBytes) : ∃ m : Nd, cs = m.vals ∧ Lies W m := by
  obtain ⟨m, hm, hl⟩ := nd_open fuel _ x h hz
  exact ⟨m, Array.toList_inj.1 hm, hl⟩
end Go.Proofs.YtighocmdlifheaaGreatDoor
