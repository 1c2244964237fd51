/-
  The walk of lex.mark.
-/
import Derived.Test.YtighocmdlifheaaDoorPg
namespace Go.Proofs.YtighocmdlifheaaDoor
open Go.RowKit

def marks1 : List UInt8 := [123, 125, 40, 41, 44, 59, 63, 58, 61, 33, 60, 62, 43, 45, 42, 47, 37]
theorem index_mem : ∀ (l : List UInt8) (c : UInt8), c ∈ l → 0 ≤ Lib.indexByte l c
  | [], c, h => by simp at h
  | b :: l, c, h => by
    unfold Lib.indexByte
    by_cases hb : b == c
    · rw [if_pos hb]; exact Int.le_refl _
    · rw [if_neg hb]
      rw [List.mem_cons] at h
      rcases h with rfl | h
      · simp at hb
      · have := index_mem l c h
        rw [if_neg (by simp; omega)]; omega
theorem index_no : ∀ (l : List UInt8) (c : UInt8), c ∉ l → Lib.indexByte l c = -1
  | [], c, h => rfl
  | b :: l, c, h => by
    rw [List.mem_cons, not_or] at h
    have := index_no l c h.2
    unfold Lib.indexByte
    rw [if_neg (by simpa using (fun e : b = c => h.1 e.symm)), this]
    rfl
theorem mkO_at {s : ByteArray} {a i : Nat} (h : mkO s a = some i) : i < 23 ∧ mkB s a i = true ∧ ∀ j, j < i → mkB s a j = false := by
  unfold mkO at h
  rw [List.find?_range_eq_some] at h
  exact ⟨by simpa using h.2.1, h.1, fun j hj => by simpa using h.2.2 j hj⟩
theorem mkB_at {s : ByteArray} {a i : Nat} (h : mkB s a i = true) : a + (mk i).size ≤ s.size ∧ s.extract a (a + (mk i).size) = mk i := by
  unfold mkB at h
  rw [Bool.and_eq_true] at h
  exact ⟨of_decide_eq_true h.1, str_eq (by simpa using h.2)⟩
/-- A mark of two. -/
theorem mark_two {s : ByteArray} {a : Nat} (h : pairB s a = true) : a + 2 ≤ s.size ∧ mkT s a = ⟨4, s.extract a (a + 2), 0, 0, a⟩ ∧ mkE s a = 0 := by
  unfold pairB at h
  rw [List.any_eq_true] at h
  obtain ⟨j, hj, hm⟩ := h
  have hj6 : j < 6 := by simpa using hj
  cases ho : mkO s a with
  | none =>
    unfold mkO at ho
    rw [List.find?_eq_none] at ho
    exact absurd hm (ho j (by simp; omega))
  | some i =>
    obtain ⟨h1, h2, h3⟩ := mkO_at ho
    have hi6 : i < 6 := by
      by_cases hij : i ≤ j
      · omega
      · rw [h3 j (by omega)] at hm; cases hm
    obtain ⟨h4, h5⟩ := mkB_at h2
    rw [mk_two i hi6] at h4 h5
    refine ⟨h4, ?_, ?_⟩
    · unfold mkT; rw [ho, h5]
    · unfold mkE; rw [ho]
theorem ext_one {s : ByteArray} {a : Nat} {c : UInt8} (ha : a < s.size) (hc : s[a] = c) : s.extract a (a + 1) = ⟨#[c]⟩ := by
  rw [ext_eq, rest_at s a ha, hc]; rfl
/-- A mark of one. -/
theorem mark_one {s : ByteArray} {a : Nat} {c : UInt8} (ha : a < s.size) (hc : s[a] = c) (h : pairB s a = false) (hm : c ∈ marks1) : mkT s a = ⟨4, s.extract a (a + 1), 0, 0, a⟩ ∧ mkE s a = 0 := by
  have hex := ext_one ha hc
  have hj : ∃ j, 6 ≤ j ∧ j < 23 ∧ mk j = ⟨#[c]⟩ := by
    have : ∀ c ∈ marks1, ∃ j, j < 23 ∧ (6 ≤ j ∧ (mk j).data.toList = [c]) := by decide
    obtain ⟨j, h1, h2, h3⟩ := this c hm
    exact ⟨j, h2, h1, str_eq h3⟩
  obtain ⟨j, j1, j2, j3⟩ := hj
  have hB : mkB s a j = true := by
    unfold mkB
    rw [mk_one j j1 j2, hex, j3, decide_eq_true (by omega)]; simp
  cases ho : mkO s a with
  | none =>
    unfold mkO at ho
    rw [List.find?_eq_none] at ho
    exact absurd hB (ho j (by simp; omega))
  | some i =>
    obtain ⟨h1, h2, _⟩ := mkO_at ho
    have hi6 : 6 ≤ i := by
      by_cases hi : 6 ≤ i
      · exact hi
      · unfold pairB at h
        rw [List.any_eq_false] at h
        exact absurd h2 (h i (by simp; omega))
    obtain ⟨h4, h5⟩ := mkB_at h2
    rw [mk_one i hi6 h1] at h4 h5
    refine ⟨?_, ?_⟩
    · unfold mkT; rw [ho, h5]
    · unfold mkE; rw [ho]
theorem mark_no {s : ByteArray} {a : Nat} {c : UInt8} (ha : a < s.size) (hc : s[a] = c) (h : pairB s a = false) (hm : c ∉ marks1) : mkE s a = 111 := by
  have hex := ext_one ha hc
  cases ho : mkO s a with
  | none => unfold mkE; rw [ho]
  | some i =>
    exfalso
    obtain ⟨h1, h2, _⟩ := mkO_at ho
    have hi6 : 6 ≤ i := by
      by_cases hi : 6 ≤ i
      · exact hi
      · unfold pairB at h
        rw [List.any_eq_false] at h
        exact absurd h2 (h i (by simp; omega))
    obtain ⟨h4, h5⟩ := mkB_at h2
    rw [mk_one i hi6 h1, hex] at h5
    have : ∀ i, i < 23 → 6 ≤ i → ∀ c ∈ (mk i).data.toList, c ∈ marks1 := by decide
    exact hm (this i h1 hi6 c (by rw [← h5]; simp))
def pmT (s : ByteArray) (a : Nat) : Tk := if mkE s a = 0 then mkT s a else tkP a
theorem box_one (w : World) : ∃ W, w.alloc (.cells #[.int .u8 0, .string ⟨#[]⟩, .int .u8 0, .int .i64 0, .int .i64 0] 160) = W ∧
    Hid (TkH W w.heap.size tk0) ∧ Hid (Below w.heap.size w W) ∧ W.heap.size = w.heap.size + 1 :=
  ⟨_, rfl, heap_new w _, below_new w _, by rw [size_alloc]⟩
set_option maxRecDepth 100000 in
set_option maxHeartbeats 2000000 in
theorem markp_any (s : ByteArray) (a : Nat) (hs : s.size ≤ 140737488355328) (ha : a < s.size) (w : World) :
    Calls Tryd.prog 86 #[.string s, .int .i64 a] w fun e w' => e = .returned (.tuple #[.agg (tkA (pmT s a)), .int .i64 (mkE s a)]) ∧ Below w.heap.size w w' := by
  have haI : (a : Int) < (s.size : Int) := by omega
  obtain ⟨c, hc⟩ : ∃ c, s[a] = c := ⟨_, rfl⟩
  have cI := indexByte_any ⟨#[123, 125, 40, 41, 44, 59, 63, 58, 61, 33, 60, 62, 43, 45, 42, 47, 37]⟩ (c.toNat : Int)
  have hcc : ((c.toNat : Int)).toNat.toUInt8 = c := by simp
  have cP := isPair_any s a hs (Nat.le_of_lt ha)
  obtain ⟨W, eW, HR, HB, hz⟩ := box_one w
  obtain ⟨r0, r1, r2, r3, r4⟩ := HR.out.cells
  obtain ⟨f0, f1, f2, f3, f4⟩ := HR.out.froz
  cases hp : pairB s a
  · rw [hp] at cP
    by_cases hm : c ∈ marks1
    · obtain ⟨m1, m2⟩ := mark_one ha hc hp hm
      have hi : 0 ≤ Lib.indexByte marks1 c := index_mem _ _ hm
      obtain ⟨g, hg⟩ : ∃ g, Lib.indexByte marks1 c = g := ⟨_, rfl⟩
      rw [hg] at hi
      have cI2 : ∀ w, Calls Tryd.prog 100 #[.string ⟨#[123, 125, 40, 41, 44, 59, 63, 58, 61, 33, 60, 62, 43, 45, 42, 47, 37]⟩, .int .u8 (c.toNat : Int)] w fun e w' => e = .returned (.int .i64 g) ∧ w' = w := fun w => by
        have := cI w
        rw [hcc, show (ByteArray.mk #[123, 125, 40, 41, 44, 59, 63, 58, 61, 33, 60, 62, 43, 45, 42, 47, 37]).data.toList = marks1 from rfl, hg] at this
        exact this
      obtain ⟨d, hd⟩ : ∃ d, d = a + 1 := ⟨_, rfl⟩
      have hdI : (a : Int) + 1 = (d : Int) := by omega
      have hd1 : a ≤ d := by omega
      have hd2 : d ≤ s.size := by omega
      obtain ⟨x, ex⟩ : ∃ x, s.extract a d = x := ⟨_, rfl⟩
      have K : Hid (pmT s a = ⟨4, x, 0, 0, a⟩ ∧ mkE s a = 0) := ⟨by unfold pmT; rw [m2, if_pos rfl, m1, ← hd, ex], m2⟩
      clear m1 m2 hd hm cI hg hcc hp
      go_enter Tryd.func86, Tryd.ntmps86
      go_wp2_with (first | (go_at_call 99; refine (cP _).mono ?_; rintro _ v ⟨rfl, q⟩; obtain rfl := q.symm) | (go_at_call 100; refine (cI2 _).mono ?_; rintro _ v ⟨rfl, q⟩; obtain rfl := q.symm))
      exact bodyPost_ret (results_two (p := 4) (u := 5) (ty := 160) rfl _ _ w.heap.size 160 (tkA ⟨4, x, 0, 0, a⟩) (0, 0) _ rfl (HR.out.put ⟨4, x, 0, 0, a⟩) Tryd.underlying160 rfl (by kernel_rfl)) rfl ⟨by rw [K.out.1, K.out.2]; rfl, below_put HB.out (Nat.le_refl _) _ _ _ _ _⟩
    · have m2 := mark_no ha hc hp hm
      have hi : Lib.indexByte marks1 c = -1 := index_no _ _ hm
      have cI2 : ∀ w, Calls Tryd.prog 100 #[.string ⟨#[123, 125, 40, 41, 44, 59, 63, 58, 61, 33, 60, 62, 43, 45, 42, 47, 37]⟩, .int .u8 (c.toNat : Int)] w fun e w' => e = .returned (.int .i64 (-1)) ∧ w' = w := fun w => by
        have := cI w
        rw [hcc, show (ByteArray.mk #[123, 125, 40, 41, 44, 59, 63, 58, 61, 33, 60, 62, 43, 45, 42, 47, 37]).data.toList = marks1 from rfl, hi] at this
        exact this
      have K : Hid (pmT s a = tkP a ∧ mkE s a = 111) := ⟨by unfold pmT; rw [m2, if_neg (by decide)], m2⟩
      clear m2 hm cI hi hcc hp
      go_enter Tryd.func86, Tryd.ntmps86
      go_wp2_with (first | (go_at_call 99; refine (cP _).mono ?_; rintro _ v ⟨rfl, q⟩; obtain rfl := q.symm) | (go_at_call 100; refine (cI2 _).mono ?_; rintro _ v ⟨rfl, q⟩; obtain rfl := q.symm))
      exact bodyPost_ret (results_two (p := 4) (u := 5) (ty := 160) rfl _ _ w.heap.size 160 (tkA (tkP a)) (0, 0) _ rfl (HR.out.put (tkP a)) Tryd.underlying160 rfl (by kernel_rfl)) rfl ⟨by rw [K.out.1, K.out.2]; rfl, below_put HB.out (Nat.le_refl _) _ _ _ _ _⟩
  · rw [hp] at cP
    obtain ⟨m0, m1, m2⟩ := mark_two hp
    obtain ⟨d, hd⟩ : ∃ d, d = a + 2 := ⟨_, rfl⟩
    have hdI : (a : Int) + 2 = (d : Int) := by omega
    have hd1 : a ≤ d := by omega
    have hd2 : d ≤ s.size := by omega
    obtain ⟨x, ex⟩ : ∃ x, s.extract a d = x := ⟨_, rfl⟩
    have K : Hid (pmT s a = ⟨4, x, 0, 0, a⟩ ∧ mkE s a = 0) := ⟨by unfold pmT; rw [m2, if_pos rfl, m1, ← hd, ex], m2⟩
    clear m0 m1 m2 hd cI hcc hp
    go_enter Tryd.func86, Tryd.ntmps86
    go_wp2_with (go_at_call 99; refine (cP _).mono ?_; rintro _ v ⟨rfl, q⟩; obtain rfl := q.symm)
    exact bodyPost_ret (results_two (p := 4) (u := 5) (ty := 160) rfl _ _ w.heap.size 160 (tkA ⟨4, x, 0, 0, a⟩) (0, 0) _ rfl (HR.out.put ⟨4, x, 0, 0, a⟩) Tryd.underlying160 rfl (by kernel_rfl)) rfl ⟨by rw [K.out.1, K.out.2]; rfl, below_put HB.out (Nat.le_refl _) _ _ _ _ _⟩
end Go.Proofs.YtighocmdlifheaaDoor
