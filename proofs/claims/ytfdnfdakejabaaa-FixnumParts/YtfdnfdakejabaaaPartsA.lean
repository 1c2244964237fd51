/-
  What FixnumParts gathers; its ways without a list, and with one that is too long.
-/
import Derived.Test.YtfdnfdakejabaaaSums
import Derived.Test.YtfdnfdakejabaaaOrd
import Derived.Deep.DeepCutAuto
namespace Go.Proofs.Ytfdnfdakejabaaa
open Go.RowKit

/-- The numbers that can be turned about, each beside its turned one. -/
def both (zs : List Int) (k : Nat) : List Int := (zs.take k).flatMap fun z => if fitB (-z) = true then [z, fitN (-z)] else []
theorem both_succ (zs : List Int) (k : Nat) (h : k < zs.length) : both zs (k + 1) = both zs k ++ (if fitB (-(zs.getD k 0)) = true then [zs.getD k 0, fitN (-(zs.getD k 0))] else []) := by
  unfold both
  rw [List.take_succ_eq_append_getElem h, List.flatMap_append]
  simp [List.getD, h]
theorem both_length (zs : List Int) (k : Nat) (h : k ≤ zs.length) : (both zs k).length ≤ 2 * k := by
  induction k with
  | zero => simp [both]
  | succ k ih =>
    rw [both_succ zs k (by omega), List.length_append]
    have := ih (by omega)
    split <;> simp <;> omega
theorem both_sum (zs : List Int) (k : Nat) (h : k ≤ zs.length) : (both zs k).sum = 0 := by
  induction k with
  | zero => simp [both]
  | succ k ih =>
    rw [both_succ zs k (by omega), List.sum_append, ih (by omega)]
    split
    · rename_i hf
      rw [fitN_true hf]; simp; omega
    · simp
theorem both_fits (zs : List Int) (k : Nat) (h : k ≤ zs.length) (hF : Fits zs) : ∀ x ∈ both zs k, -9223372036854775808 ≤ x ∧ x ≤ 9223372036854775807 := by
  induction k with
  | zero => intro x hx; simp [both] at hx
  | succ k ih =>
    intro x hx
    rw [both_succ zs k (by omega)] at hx
    rcases List.mem_append.1 hx with hx | hx
    · exact ih (by omega) x hx
    · split at hx
      · simp at hx
        rcases hx with rfl | rfl
        · exact hF k
        · exact fitN_bounds _
      · simp at hx
theorem fits_of_mem (xs : List Int) (h : ∀ x ∈ xs, -9223372036854775808 ≤ x ∧ x ≤ 9223372036854775807) : Fits xs := by
  intro j
  by_cases hj : j < xs.length
  · rw [List.getElem?_eq_getElem hj, Option.getD_some]; exact h _ (List.getElem_mem hj)
  · rw [List.getElem?_eq_none (by omega)]; simp
theorem fits_take (zs : List Int) (c : Nat) (h : Fits zs) : Fits (zs.take c) := by
  intro j
  by_cases hj : j < c
  · rw [List.getElem?_take, if_pos hj]; exact h j
  · rw [List.getElem?_take, if_neg hj]; simp
theorem fits_drop (zs : List Int) (c : Nat) (h : Fits zs) : Fits (zs.drop c) := by
  intro j; rw [List.getElem?_drop]; exact h _

theorem Lies.take {w : World} {ao : Option Addr} {len : Nat} {zs : List Int} (h : Lies w ao len zs) (c : Nat) (hc : c ≤ len) : Lies w ao c (zs.take c) := by
  have hl := h.1
  refine ⟨by rw [List.length_take]; omega, fun e => by have := h.2.1 e; omega, fun ad had j hj => ?_⟩
  rw [h.2.2 ad had j (by omega)]
  simp [List.getD, hj]
theorem Lies.drop {w : World} {b off len cap : Nat} {zs : List Int} (h : Lies w (some ⟨b, off, none⟩) len zs) (c : Nat) (hc : c ≤ len) (hcap : len ≤ cap) (ao : Option Addr) (hao : ao = if cap = c then some ⟨b, off, none⟩ else some ⟨b, off + c, none⟩) :
    Lies w ao (len - c) (zs.drop c) := by
  have hl := h.1
  refine ⟨by rw [List.length_drop]; omega, ?_, fun ad had j hj => ?_⟩
  · intro e; rw [e] at hao; split at hao <;> cases hao
  · rw [hao, if_neg (by omega)] at had
    cases had
    have := h.2.2 _ rfl (c + j) (by omega)
    rw [Addr.add_lit] at this ⊢
    rw [Nat.add_assoc, this]
    simp [List.getD]
/-- Whatever the call itself has gathered. -/
theorem own_lies {w : World} {base n : Nat} {v : Value} {xs : List Int} (h : w.ownsRow base 2 1 v n (xs.map (Value.int .i64))) : ∃ ao cap, v = .slice ao n cap ∧ Lies w ao n xs := by
  have hl : xs.length = n := by have := h.1; simpa using this
  rcases h.2 with ⟨e, h0⟩ | ⟨g, cap, cur, e, _⟩
  · refine ⟨none, 0, by rw [e, h0], hl, fun _ => h0, (fun ad had => by cases had)⟩
  · refine ⟨some ⟨g, 0, none⟩, cap, e, ?_⟩
    rw [e] at h
    have := Lies.own h n (Nat.le_refl _)
    rw [List.take_of_length_le (by omega)] at this
    exact this

/-- The last clause's three ways. -/
def Last (a b : Int) : Prop := fitB (a * b) = false ∨ (fitB (a * b) = true ∧ fitB (-fitN (a * b)) = false) ∨
  (fitB (a * b) = true ∧ fitB (-fitN (a * b)) = true ∧ byB (a * b) (-1) = true ∧ byN (a * b) (-1) = fitN (-fitN (a * b)))
theorem last_all (a b : Int) : Last a b := by
  cases h1 : fitB (a * b)
  · exact .inl h1
  · cases h2 : fitB (-fitN (a * b))
    · exact .inr (.inl ⟨h1, h2⟩)
    · refine .inr (.inr ⟨h1, h2, ?_, ?_⟩)
      · rw [byB_1 _ (by decide), Int.tdiv_neg, Int.tdiv_one, ← h2, fitN_true h1]
      · rw [byN_1 _ (by decide), Int.tdiv_neg, Int.tdiv_one, fitN_true h1]
theorem below_drew2 {B : Nat} {a w : World} (h : Below B a w) (n m : Nat) : Below B a ((w.drewN n).drewN m) := below_drewN (below_drewN h n) m

set_option maxRecDepth 100000 in
set_option maxHeartbeats 1000000 in
theorem parts_big (ao : Option Addr) (len cap : Nat) (cut a b : Int) (w : World) (hbig : 67108863 < len) :
    Calls Try.prog 7 #[.slice ao len cap, .int .i64 cut, .int .i64 a, .int .i64 b] w fun e w' => e = .returned (.bool true) ∧ Below w.heap.size w w' := by
  go_enter Try.func7, Try.ntmps7
  go_wp2_with fail
  refine (works_any _).mono ?_
  rintro e w1 ⟨rfl, ⟨n, rfl⟩⟩
  go_wp2_with fail
  go_ret
  exact ⟨rfl, works_below _ _ _ _⟩

set_option maxRecDepth 100000 in
set_option maxHeartbeats 2000000 in
theorem parts_none_neg (ao : Option Addr) (cap : Nat) (cut a b : Int) (w : World) (a1 : -9223372036854775808 ≤ a) (a2 : a ≤ 9223372036854775807) (b1 : -9223372036854775808 ≤ b) (b2 : b ≤ 9223372036854775807)
    (_t1 : -9223372036854775808 ≤ cut) (_t2 : cut ≤ 9223372036854775807) (_ht : cut < 0) :
    Calls Try.prog 7 #[.slice ao 0 cap, .int .i64 cut, .int .i64 a, .int .i64 b] w fun e w' => e = .returned (.bool true) ∧ Below w.heap.size w w' := by
  have hlast : Hid (Last a b) := last_all a b
  have e1 : fitN (0 + 0) = 0 := by decide +kernel
  have e2 : fitB (0 + 0) = true := by decide +kernel
  go_enter Try.func7, Try.ntmps7
  go_wp2_with fail
  refine (works_any _).mono ?_
  rintro e w1 ⟨rfl, ⟨n, rfl⟩⟩
  go_wp2_with fail
  refine (sum_none _ _ _).mono ?_
  rintro e w1 ⟨rfl, rfl⟩
  go_wp2_with fail
  refine (sum_none _ _ _).mono ?_
  rintro e w1 ⟨rfl, rfl⟩
  go_wp2_with fail
  refine (sum_none _ _ _).mono ?_
  rintro e w1 ⟨rfl, rfl⟩
  go_wp2_with fail
  refine (add_any _ _ (by decide) (by decide) (by decide) (by decide) _).mono ?_
  rintro e w1 ⟨rfl, rfl⟩
  rw [e1, e2]
  go_wp2_with fail
  refine wp_loop_rounds 1 ?_
  rw [rounds_succ]
  go_wp2_with fail
  refine (sum_none _ _ _).mono ?_
  rintro e w6 ⟨rfl, rfl⟩
  go_wp2_with fail
  refine (mul_any _ _ a1 a2 b1 b2 _).mono ?_
  rintro e w6 ⟨rfl, rfl⟩
  go_wp2_with fail
  refine (muldiv_any _ _ _ a1 a2 b1 b2 (by decide) (by decide) _).mono ?_
  rintro e w6 ⟨rfl, ⟨m1, rfl⟩⟩
  rw [byN_one, byB_one]
  go_wp2_with fail
  refine (muldiv_any _ _ _ a1 a2 b1 b2 (by decide) (by decide) _).mono ?_
  rintro e w6 ⟨rfl, ⟨m2, rfl⟩⟩
  go_wp2_with fail
  refine (neg_any _ (fitN_bounds _).1 (fitN_bounds _).2 _).mono ?_
  rintro e w6 ⟨rfl, rfl⟩
  rcases hlast.out with h1 | ⟨h1, h2⟩ | ⟨h1, h2, h3, h4⟩
  all_goals
    go_wp2_with fail
    go_ret
    exact ⟨rfl, below_drewN ((Below.refl _ _).alloc (Nat.le_refl _) _) _⟩

set_option maxRecDepth 100000 in
set_option maxHeartbeats 2000000 in
theorem parts_none_pos (ao : Option Addr) (cap : Nat) (cut a b : Int) (w : World) (a1 : -9223372036854775808 ≤ a) (a2 : a ≤ 9223372036854775807) (b1 : -9223372036854775808 ≤ b) (b2 : b ≤ 9223372036854775807)
    (_t1 : -9223372036854775808 ≤ cut) (_t2 : cut ≤ 9223372036854775807) (_ht : 0 ≤ cut) :
    Calls Try.prog 7 #[.slice ao 0 cap, .int .i64 cut, .int .i64 a, .int .i64 b] w fun e w' => e = .returned (.bool true) ∧ Below w.heap.size w w' := by
  have hlast : Hid (Last a b) := last_all a b
  have e1 : fitN (0 + 0) = 0 := by decide +kernel
  have e2 : fitB (0 + 0) = true := by decide +kernel
  go_enter Try.func7, Try.ntmps7
  go_wp2_with fail
  refine (works_any _).mono ?_
  rintro e w1 ⟨rfl, ⟨n, rfl⟩⟩
  go_wp2_with fail
  refine (sum_none _ _ _).mono ?_
  rintro e w1 ⟨rfl, rfl⟩
  go_wp2_with fail
  refine (sum_none _ _ _).mono ?_
  rintro e w1 ⟨rfl, rfl⟩
  go_wp2_with fail
  refine (sum_none _ _ _).mono ?_
  rintro e w1 ⟨rfl, rfl⟩
  go_wp2_with fail
  refine (add_any _ _ (by decide) (by decide) (by decide) (by decide) _).mono ?_
  rintro e w1 ⟨rfl, rfl⟩
  rw [e1, e2]
  go_wp2_with fail
  refine wp_loop_rounds 1 ?_
  rw [rounds_succ]
  go_wp2_with fail
  refine (sum_none _ _ _).mono ?_
  rintro e w6 ⟨rfl, rfl⟩
  go_wp2_with fail
  refine (mul_any _ _ a1 a2 b1 b2 _).mono ?_
  rintro e w6 ⟨rfl, rfl⟩
  go_wp2_with fail
  refine (muldiv_any _ _ _ a1 a2 b1 b2 (by decide) (by decide) _).mono ?_
  rintro e w6 ⟨rfl, ⟨m1, rfl⟩⟩
  rw [byN_one, byB_one]
  go_wp2_with fail
  refine (muldiv_any _ _ _ a1 a2 b1 b2 (by decide) (by decide) _).mono ?_
  rintro e w6 ⟨rfl, ⟨m2, rfl⟩⟩
  go_wp2_with fail
  refine (neg_any _ (fitN_bounds _).1 (fitN_bounds _).2 _).mono ?_
  rintro e w6 ⟨rfl, rfl⟩
  rcases hlast.out with h1 | ⟨h1, h2⟩ | ⟨h1, h2, h3, h4⟩
  all_goals
    go_wp2_with fail
    go_ret
    exact ⟨rfl, below_drewN ((Below.refl _ _).alloc (Nat.le_refl _) _) _⟩

end Go.Proofs.Ytfdnfdakejabaaa
