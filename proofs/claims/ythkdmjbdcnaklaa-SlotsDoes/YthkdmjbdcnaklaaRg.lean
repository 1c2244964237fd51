/-
  The document's arena: Get, Row, First, Next, Len, Free, Set, Clear.
-/
import Derived.Test.YthkdmjbdcnaklaaRf
namespace Go.Proofs.Ythkdmjbdcnaklaa
open Go.RowKit
set_option linter.unusedVariables false

variable {w : World} {f : Rf} {nr room : Nat} {q : Nat → List Nat} {th : Nat → Int}

theorem nth_toNat {l : List Nat} {k n : Nat} (h : l[k]? = some n) : (nth l k).toNat = n := by rw [nth_some h, Int.toNat_natCast]

theorem rget_yes (h : RefAt w f nr room q th) (hq : Qk nr room q) {i k n : Nat} (hi : i < nr) (hk : (q i)[k]? = some n) :
    Calls Try.prog 33 #[.pointer (some ⟨f.A, 0, none⟩), .int .i64 n] w fun e w' => e = .returned (.tuple #[.int .i64 (th n), .bool true]) ∧ w' = w := by
  have h0 := h.a0
  have hv := h.v hi
  have hkl := some_lt hk
  obtain ⟨ao, c, hV, hat⟩ := h.form hi
  obtain ⟨g, rfl⟩ := hat (by omega)
  rw [hV] at hv
  obtain ⟨_, t1⟩ := h.thing hi hkl hV
  rw [nth_toNat hk] at t1
  have hb : (i : Int) < (nr : Int) := by omega
  have hb2 : (k : Int) < ((q i).length : Int) := by omega
  go_enter Try.func33, Try.ntmps33
  go_wp2_with fail
  refine (where_yes h hq hi hk).mono ?_
  rintro e w1 ⟨rfl, rfl⟩
  go_wp2_with fail
  go_ret2
  exact ⟨rfl, rfl⟩
theorem rget_no (h : RefAt w f nr room q th) {n : Int} (hn : Non nr q n) :
    Calls Try.prog 33 #[.pointer (some ⟨f.A, 0, none⟩), .int .i64 n] w fun e w' => e = .returned (.tuple #[.int .i64 0, .bool false]) ∧ w' = w := by
  go_enter Try.func33, Try.ntmps33
  go_wp2_with fail
  refine (where_no h hn).mono ?_
  rintro e w1 ⟨rfl, rfl⟩
  go_wp2_with fail
  go_ret2
  exact ⟨rfl, rfl⟩
theorem rrow_yes (h : RefAt w f nr room q th) (hq : Qk nr room q) {i k n : Nat} (hi : i < nr) (hk : (q i)[k]? = some n) :
    Calls Try.prog 37 #[.pointer (some ⟨f.A, 0, none⟩), .int .i64 n] w fun e w' => e = .returned (.int .i64 i) ∧ w' = w := by
  go_enter Try.func37, Try.ntmps37
  go_wp2_with fail
  refine (where_yes h hq hi hk).mono ?_
  rintro e w1 ⟨rfl, rfl⟩
  go_wp2_with fail
  go_ret
  exact ⟨rfl, rfl⟩
theorem rrow_no (h : RefAt w f nr room q th) {n : Int} (hn : Non nr q n) :
    Calls Try.prog 37 #[.pointer (some ⟨f.A, 0, none⟩), .int .i64 n] w fun e w' => e = .returned (.int .i64 (-1)) ∧ w' = w := by
  go_enter Try.func37, Try.ntmps37
  go_wp2_with fail
  refine (where_no h hn).mono ?_
  rintro e w1 ⟨rfl, rfl⟩
  go_wp2_with fail
  go_ret
  exact ⟨rfl, rfl⟩
theorem rnext_no (h : RefAt w f nr room q th) {n : Int} (hn : Non nr q n) :
    Calls Try.prog 39 #[.pointer (some ⟨f.A, 0, none⟩), .int .i64 n] w fun e w' => e = .returned (.int .i64 (-1)) ∧ w' = w := by
  go_enter Try.func39, Try.ntmps39
  go_wp2_with fail
  refine (where_no h hn).mono ?_
  rintro e w1 ⟨rfl, rfl⟩
  go_wp2_with fail
  go_ret
  exact ⟨rfl, rfl⟩
theorem rnext_yes (h : RefAt w f nr room q th) (hq : Qk nr room q) {i k n : Nat} (hi : i < nr) (hk : (q i)[k]? = some n) :
    Calls Try.prog 39 #[.pointer (some ⟨f.A, 0, none⟩), .int .i64 n] w fun e w' => e = .returned (.int .i64 (nth (q i) (k + 1))) ∧ w' = w := by
  have h0 := h.a0
  have hv := h.v hi
  have hkl := some_lt hk
  have hlen := hq.len hi
  obtain ⟨ao, c, hV, hat⟩ := h.form hi
  obtain ⟨g, rfl⟩ := hat (by omega)
  rw [hV] at hv
  have hb : (i : Int) < (nr : Int) := by omega
  by_cases hk1 : k + 1 < (q i).length
  · obtain ⟨t0, _⟩ := h.thing hi hk1 hV
    have hb2 : ((k : Int) + 1) < ((q i).length : Int) := by omega
    have hb3 : (((k : Int) + 1) == ((q i).length : Int)) = false := beq_false_of_ne (by omega)
    obtain ⟨m, hm⟩ : ∃ m : Nat, m = k + 1 := ⟨_, rfl⟩
    have hmI : (k : Int) + 1 = (m : Int) := by omega
    rw [← hm] at t0 ⊢
    rw [hmI] at hb2 hb3
    clear hm
    go_enter Try.func39, Try.ntmps39
    go_wp2_with fail
    refine (where_yes h hq hi hk).mono ?_
    rintro e w1 ⟨rfl, rfl⟩
    go_wp2_with fail
    go_ret
    exact ⟨rfl, rfl⟩
  · have hb3 : (((k : Int) + 1) == ((q i).length : Int)) = true := by rw [show (k : Int) + 1 = ((q i).length : Int) by omega]; simp
    have hend : nth (q i) (k + 1) = -1 := nth_none (by omega)
    rw [hend]
    clear hend
    go_enter Try.func39, Try.ntmps39
    go_wp2_with fail
    refine (where_yes h hq hi hk).mono ?_
    rintro e w1 ⟨rfl, rfl⟩
    go_wp2_with fail
    go_ret
    exact ⟨rfl, rfl⟩
theorem rfirst_yes (h : RefAt w f nr room q th) {i : Nat} (hi : i < nr) :
    Calls Try.prog 38 #[.pointer (some ⟨f.A, 0, none⟩), .int .i64 i] w fun e w' => e = .returned (.int .i64 (nth (q i) 0)) ∧ w' = w := by
  have h0 := h.a0
  have hv := h.v hi
  obtain ⟨ao, c, hV, hat⟩ := h.form hi
  rw [hV] at hv
  have hb : (i : Int) < (nr : Int) := by omega
  by_cases hl : 0 < (q i).length
  · obtain ⟨g, rfl⟩ := hat hl
    obtain ⟨t0, _⟩ := h.thing hi hl hV
    rw [Nat.zero_mul] at t0
    have hb2 : (0 : Int) < ((q i).length : Int) := by omega
    have hb3 : (((q i).length : Int) == 0) = false := beq_false_of_ne (by omega)
    go_enter Try.func38, Try.ntmps38
    go_wp2_with fail
    refine (is_yes h hi).mono ?_
    rintro e w1 ⟨rfl, rfl⟩
    go_wp2_with fail
    go_ret
    exact ⟨rfl, rfl⟩
  · have hend : nth (q i) 0 = -1 := nth_none (by omega)
    have hb3 : (((q i).length : Int) == 0) = true := by rw [show ((q i).length : Int) = 0 by omega]; rfl
    rw [hend]
    clear hend
    go_enter Try.func38, Try.ntmps38
    go_wp2_with fail
    refine (is_yes h hi).mono ?_
    rintro e w1 ⟨rfl, rfl⟩
    go_wp2_with fail
    go_ret
    exact ⟨rfl, rfl⟩
theorem rfirst_no (h : RefAt w f nr room q th) {i : Int} (hi : i < 0 ∨ (nr : Int) ≤ i) :
    Calls Try.prog 38 #[.pointer (some ⟨f.A, 0, none⟩), .int .i64 i] w fun e w' => e = .returned (.int .i64 (-1)) ∧ w' = w := by
  go_enter Try.func38, Try.ntmps38
  go_wp2_with fail
  refine (is_no h hi).mono ?_
  rintro e w1 ⟨rfl, rfl⟩
  go_wp2_with fail
  go_ret
  exact ⟨rfl, rfl⟩
theorem rlen_yes (h : RefAt w f nr room q th) {i : Nat} (hi : i < nr) :
    Calls Try.prog 40 #[.pointer (some ⟨f.A, 0, none⟩), .int .i64 i] w fun e w' => e = .returned (.int .i64 (q i).length) ∧ w' = w := by
  have h0 := h.a0
  have hv := h.v hi
  obtain ⟨ao, c, hV, hat⟩ := h.form hi
  rw [hV] at hv
  have hb : (i : Int) < (nr : Int) := by omega
  go_enter Try.func40, Try.ntmps40
  go_wp2_with fail
  refine (is_yes h hi).mono ?_
  rintro e w1 ⟨rfl, rfl⟩
  go_wp2_with fail
  go_ret
  exact ⟨rfl, rfl⟩
theorem rlen_no (h : RefAt w f nr room q th) {i : Int} (hi : i < 0 ∨ (nr : Int) ≤ i) :
    Calls Try.prog 40 #[.pointer (some ⟨f.A, 0, none⟩), .int .i64 i] w fun e w' => e = .returned (.int .i64 0) ∧ w' = w := by
  go_enter Try.func40, Try.ntmps40
  go_wp2_with fail
  refine (is_no h hi).mono ?_
  rintro e w1 ⟨rfl, rfl⟩
  go_wp2_with fail
  go_ret
  exact ⟨rfl, rfl⟩
set_option maxRecDepth 100000 in
theorem rfree (h : RefAt w f nr room q th) (hq : Qk nr room q) :
    Calls Try.prog 41 #[.pointer (some ⟨f.A, 0, none⟩)] w fun e w' => e = .returned (.int .i64 ((room : Int) - total q nr)) ∧ w' = w := by
  have h0 := h.a0
  have h1 := h.a1
  have hqn := hq.nr
  have hqr := hq.room
  go_enter Try.func41, Try.ntmps41
  go_wp2_with fail
  go_loop [3, 4] (fun vn vr => ∃ r : Nat, r ≤ nr ∧ vr = .int .i64 r ∧ vn = .int .i64 ((room : Int) - total q r)) (fun _ vr => nr - (intOf vr).toNat)
  case atStart => exact ⟨0, by omega, rfl, by simp [total]⟩
  case round =>
    obtain ⟨r, hr, rfl, rfl⟩ := hrel
    by_cases hlt : r < nr
    · have hv := h.v hlt
      obtain ⟨ao, c, hV, hat⟩ := h.form hlt
      rw [hV] at hv
      have hb : (r : Int) < (nr : Int) := by omega
      have ht : total q (r + 1) = total q r + (q r).length := rfl
      have ht2 := total_le q (r + 1) nr hlt
      have ht3 := hq.tot
      obtain ⟨T, hT⟩ : ∃ T : Int, (total q r : Int) = T := ⟨_, rfl⟩
      have hT0 : 0 ≤ T ∧ T + (q r).length ≤ 65536 := by omega
      have HT : Hid (((total q (r + 1) : Nat) : Int) = T + (q r).length) := by show _ = _; omega
      rw [hT]
      clear ht ht2 ht3 hT
      obtain ⟨hT1, hT2⟩ := hT0
      go_wp2_with fail
      go_round
      case rel => exact ⟨r + 1, by omega, by go_num, by rw [HT.out]; go_num⟩
      case measure => simp [intOf]; omega
    · have hre : r = nr := by omega
      subst hre
      have hb : ¬ (r : Int) < (r : Int) := by omega
      go_wp2_with fail
      go_ret
      exact ⟨rfl, rfl⟩

theorem thF_upd {l : List Nat} {th : Nat → Int} {k n : Nat} (hd : l.Nodup) (hk : l[k]? = some n) (x : Int) (j : Nat) (hj : j < l.length * 2) : (if j = k * 2 + 1 then Value.int .i64 x else thF l th j) = thF l (upd th n x) j := by
  unfold thF
  have hkl := some_lt hk
  by_cases h0 : j % 2 = 0
  · rw [if_neg (by omega), if_pos h0, if_pos h0]
  · rw [if_neg h0, if_neg h0]
    by_cases h1 : j = k * 2 + 1
    · rw [if_pos h1, show j / 2 = k by omega, nth_toNat hk, upd_same]
    · rw [if_neg h1]
      obtain ⟨m, hm, hv⟩ := nth_lt (l := l) (k := j / 2) (by omega)
      rw [hv, Int.toNat_natCast, upd_other]
      rintro rfl
      have := pos_inj hd hm hk
      omega
theorem thF_other {l : List Nat} {th : Nat → Int} {n : Nat} (hn : n ∉ l) (x : Int) (j : Nat) (hj : j < l.length * 2) : thF l th j = thF l (upd th n x) j := by
  unfold thF
  by_cases h0 : j % 2 = 0
  · rw [if_pos h0, if_pos h0]
  · rw [if_neg h0, if_neg h0]
    obtain ⟨m, hm, hv⟩ := nth_lt (l := l) (k := j / 2) (by omega)
    rw [hv, Int.toNat_natCast, upd_other]
    rintro rfl
    exact hn (some_mem hm)

theorem rset_yes (h : RefAt w f nr room q th) (hq : Qk nr room q) {i k n : Nat} (hi : i < nr) (hk : (q i)[k]? = some n) (x : Int) :
    Calls Try.prog 35 #[.pointer (some ⟨f.A, 0, none⟩), .int .i64 n, .int .i64 x] w fun e w' => e = .returned (.bool true) ∧ RefAt w' f nr room q (upd th n x) ∧ RStp w f w' f nr := by
  have h0 := h.a0
  have hv := h.v hi
  have hkl := some_lt hk
  obtain ⟨ao, c, hV, hat⟩ := h.form hi
  obtain ⟨g, rfl⟩ := hat (by omega)
  rw [hV] at hv
  obtain ⟨_, t1⟩ := h.thing hi hkl hV
  have hrow := h.row i hi
  rw [hV] at hrow
  have fz := hrow.frozen (k * 2 + 1)
  have hb : (i : Int) < (nr : Int) := by omega
  have hb2 : (k : Int) < ((q i).length : Int) := by omega
  have m1 : Mv w (w.setCell ⟨g, k * 2 + 1, none⟩ (.int .i64 x)) (fun b => b = g) := (Mv.refl w (fun b => b = g)).setCell (a := ⟨g, k * 2 + 1, none⟩) (Or.inl (rfl : g = g)) _
  have hgf : RFoot f nr g := .inr (.inr (.inr ⟨i, hi, by rw [hV]; rfl⟩))
  have hg79 : ∃ cc fz, w.heap[g]? = some (.cells cc 79 fz) := hrow.kind g rfl
  have hne : ∀ {k2 : Nat} {t2 : TypeId} {c2 : Array Value} {z2 : Nat × Nat}, w.heap[k2]? = some (.cells c2 t2 z2) → t2 ≠ 79 → k2 ≠ g := by
    intro k2 t2 c2 z2 e ht eq
    subst eq
    obtain ⟨cc, fz, e2⟩ := hg79
    rw [e] at e2
    simp at e2
    exact ht e2.2.1
  have HR : Hid (RefAt (w.setCell ⟨g, k * 2 + 1, none⟩ (.int .i64 x)) f nr room q (upd th n x)) := by
    refine ⟨(m1.block _ h.ltA (hne h.own (by decide))).trans h.own, m1.row h.rows (fun b hb => ?_), fun j hj => ?_, m1.row h.used (fun b hb => ?_), h.apart⟩
    · obtain ⟨c2, z2, e⟩ := h.rows.kind b hb
      exact hne e (by decide)
    · by_cases e : j = i
      · subst e
        rw [hV]
        exact (hrow.set (k * 2 + 1) _).congr (fun j' hj' => thF_upd (hq.nodup j hj) hk x j' hj')
      · refine (m1.row (h.row j hj) (fun b hb => ?_)).congr (fun j' hj' => thF_other ?_ x j' hj')
        · rintro rfl
          exact h.apart j i hj hi e _ hb (by rw [hV]; rfl)
        · intro hm
          exact e (hq.apart j i n hj hi hm (some_mem hk))
    · obtain ⟨c2, z2, e⟩ := h.used.kind b hb
      exact hne e (by decide)
  have HS : Hid (RStp w f (w.setCell ⟨g, k * 2 + 1, none⟩ (.int .i64 x)) f nr) := ⟨rfl, m1.mono (fun b e => by rw [e]; exact hgf), fun _ hk => .inl hk⟩
  clear m1 hne
  go_enter Try.func35, Try.ntmps35
  go_wp2_with fail
  refine (where_yes h hq hi hk).mono ?_
  rintro e w1 ⟨rfl, rfl⟩
  go_wp2_with fail
  go_ret
  exact ⟨rfl, HR.out, HS.out⟩
theorem rset_no (h : RefAt w f nr room q th) {n : Int} (hn : Non nr q n) (x : Int) :
    Calls Try.prog 35 #[.pointer (some ⟨f.A, 0, none⟩), .int .i64 n, .int .i64 x] w fun e w' => e = .returned (.bool false) ∧ w' = w := by
  go_enter Try.func35, Try.ntmps35
  go_wp2_with fail
  refine (where_no h hn).mono ?_
  rintro e w1 ⟨rfl, rfl⟩
  go_wp2_with fail
  go_ret
  exact ⟨rfl, rfl⟩

end Go.Proofs.Ythkdmjbdcnaklaa
