/-
  The walk of the statement DecimalBack.
-/
import Derived.Test.YtkbadigpagijjaaDoorWorks
import Derived.Test.YtkbadigpagijjaaDoorText
namespace Go.Proofs.YtkbadigpagijjaaDoor
open Go.RowKit

set_option maxRecDepth 100000 in
set_option maxHeartbeats 2000000 in
theorem back_turn (s A B : ByteArray) (n : Int) (q : Nat) (hq9 : q ≤ 9) (hs : (s.size : Int) ≤ 1073741824) (hz : 0 < s.size) (h45 : (s[0].toNat : Int) = 45) (R : ByteArray) (hR : s.extract 1 s.size = R) (hle : R.size ≤ B.size) (hcut : B.extract 0 R.size = R) (hB : ∀ i (h : i < B.size), R.size ≤ i → B[i] = 48 ∨ (B[i] = 46 ∧ i = R.size)) (hBs : B.size ≤ 40) (w : World) (ht : Tab w)
    (cA : ∀ w, Tab w → Calls Tryd.prog 10 #[.int .i64 n, .int .i64 q] w fun e w' => e = .returned (.tuple #[.string A, .int .i64 0]) ∧ Below w.heap.size w w')
    (cPA : ∀ w, Calls Tryd.prog 8 #[.string A, .int .i64 q] w fun e w' => e = .returned (.tuple #[.int .i64 n, .int .i64 0, .int .i64 0]) ∧ w' = w)
    (cPs : ∀ w, Calls Tryd.prog 8 #[.string s, .int .i64 q] w fun e w' => e = .returned (.tuple #[.int .i64 0, .int .i64 0, .int .i64 0]) ∧ w' = w)
    (cB : ∀ w, Tab w → Calls Tryd.prog 10 #[.int .i64 0, .int .i64 q] w fun e w' => e = .returned (.tuple #[.string B, .int .i64 0]) ∧ Below w.heap.size w w') :
    Calls Tryd.prog 4 #[.string s, .int .i64 n, .int .i64 q] w fun e w' => e = .returned (.bool true) ∧ Below w.heap.size w w' := by
  have cW := works_any w ht
  have HB : Hid (∀ i (h : i < B.size), R.size ≤ i → B[i] = 48 ∨ (B[i] = 46 ∧ i = R.size)) := hB
  clear hB
  go_enter Tryd.func4, Tryd.ntmps4
  go_wp2_with fail
  refine cW.mono ?_
  rintro e w1 ⟨rfl, hb1⟩
  go_wp2_with fail
  refine (cA _ (ht.on hb1)).mono ?_
  rintro e w2 ⟨rfl, hb2⟩
  go_wp2_with fail
  refine (cPA _).mono ?_
  rintro e w3 ⟨rfl, rfl⟩
  go_wp2_with fail
  refine (cPs _).mono ?_
  rintro e w3 ⟨rfl, rfl⟩
  go_wp2_with fail
  refine (cB _ ((ht.on hb1).on hb2)).mono ?_
  rintro e w4 ⟨rfl, hb4⟩
  go_wp2_with fail
  go_loop [21] (fun t => ∃ i : Nat, R.size ≤ i ∧ i ≤ B.size ∧ t = .int .i64 i) (fun t => B.size - (intOf t).toNat)
  case atStart => exact ⟨R.size, Nat.le_refl _, hle, rfl⟩
  case round =>
    obtain ⟨i, hi1, hi2, rfl⟩ := hrel
    by_cases hlt : i < B.size
    · rcases HB.out i hlt hi1 with h48 | ⟨h46, hi⟩
      · have hc : (B[i].toNat : Int) = 48 := (byte_is (d := 48) rfl).2 h48
        go_wp2_with fail
        go_round
        case rel => exact ⟨i + 1, by omega, by omega, by go_num⟩
        case measure => simp [intOf]; omega
      · have hc : (B[i].toNat : Int) = 46 := (byte_is (d := 46) rfl).2 h46
        have hni : ¬ (R.size : Int) < (i : Int) := by omega
        clear hi
        go_wp2_with fail
        go_round
        case rel => exact ⟨i + 1, by omega, by omega, by go_num⟩
        case measure => simp [intOf]; omega
    · go_wp2_with fail
      go_ret
      exact ⟨rfl, below2 (below2 hb1 hb2) hb4⟩

set_option maxRecDepth 100000 in
set_option maxHeartbeats 2000000 in
theorem back_nought (s A B : ByteArray) (n : Int) (q : Nat) (hq9 : q ≤ 9) (hs : (s.size : Int) ≤ 1073741824) (hz : 0 < s.size) (h45 : ¬ (s[0].toNat : Int) = 45) (hle : s.size ≤ B.size) (hcut : B.extract 0 s.size = s) (hB : ∀ i (h : i < B.size), s.size ≤ i → B[i] = 48 ∨ (B[i] = 46 ∧ i = s.size)) (hBs : B.size ≤ 40) (w : World) (ht : Tab w)
    (cA : ∀ w, Tab w → Calls Tryd.prog 10 #[.int .i64 n, .int .i64 q] w fun e w' => e = .returned (.tuple #[.string A, .int .i64 0]) ∧ Below w.heap.size w w')
    (cPA : ∀ w, Calls Tryd.prog 8 #[.string A, .int .i64 q] w fun e w' => e = .returned (.tuple #[.int .i64 n, .int .i64 0, .int .i64 0]) ∧ w' = w)
    (cPs : ∀ w, Calls Tryd.prog 8 #[.string s, .int .i64 q] w fun e w' => e = .returned (.tuple #[.int .i64 0, .int .i64 0, .int .i64 0]) ∧ w' = w)
    (cB : ∀ w, Tab w → Calls Tryd.prog 10 #[.int .i64 0, .int .i64 q] w fun e w' => e = .returned (.tuple #[.string B, .int .i64 0]) ∧ Below w.heap.size w w') :
    Calls Tryd.prog 4 #[.string s, .int .i64 n, .int .i64 q] w fun e w' => e = .returned (.bool true) ∧ Below w.heap.size w w' := by
  have cW := works_any w ht
  have HB : Hid (∀ i (h : i < B.size), s.size ≤ i → B[i] = 48 ∨ (B[i] = 46 ∧ i = s.size)) := hB
  clear hB
  go_enter Tryd.func4, Tryd.ntmps4
  go_wp2_with fail
  refine cW.mono ?_
  rintro e w1 ⟨rfl, hb1⟩
  go_wp2_with fail
  refine (cA _ (ht.on hb1)).mono ?_
  rintro e w2 ⟨rfl, hb2⟩
  go_wp2_with fail
  refine (cPA _).mono ?_
  rintro e w3 ⟨rfl, rfl⟩
  go_wp2_with fail
  refine (cPs _).mono ?_
  rintro e w3 ⟨rfl, rfl⟩
  go_wp2_with fail
  refine (cB _ ((ht.on hb1).on hb2)).mono ?_
  rintro e w4 ⟨rfl, hb4⟩
  go_wp2_with fail
  go_loop [21] (fun t => ∃ i : Nat, s.size ≤ i ∧ i ≤ B.size ∧ t = .int .i64 i) (fun t => B.size - (intOf t).toNat)
  case atStart => exact ⟨s.size, Nat.le_refl _, hle, rfl⟩
  case round =>
    obtain ⟨i, hi1, hi2, rfl⟩ := hrel
    by_cases hlt : i < B.size
    · rcases HB.out i hlt hi1 with h48 | ⟨h46, hi⟩
      · have hc : (B[i].toNat : Int) = 48 := (byte_is (d := 48) rfl).2 h48
        go_wp2_with fail
        go_round
        case rel => exact ⟨i + 1, by omega, by omega, by go_num⟩
        case measure => simp [intOf]; omega
      · have hc : (B[i].toNat : Int) = 46 := (byte_is (d := 46) rfl).2 h46
        have hni : ¬ (s.size : Int) < (i : Int) := by omega
        clear hi
        go_wp2_with fail
        go_round
        case rel => exact ⟨i + 1, by omega, by omega, by go_num⟩
        case measure => simp [intOf]; omega
    · go_wp2_with fail
      go_ret
      exact ⟨rfl, below2 (below2 hb1 hb2) hb4⟩

set_option maxRecDepth 100000 in
set_option maxHeartbeats 2000000 in
theorem back_plain (s A B : ByteArray) (n : Int) (x : Int) (hx : ¬ x = 0) (q : Nat) (hq9 : q ≤ 9) (hs : (s.size : Int) ≤ 1073741824) (hz : 0 < s.size) (hle : s.size ≤ B.size) (hcut : B.extract 0 s.size = s) (hB : ∀ i (h : i < B.size), s.size ≤ i → B[i] = 48 ∨ (B[i] = 46 ∧ i = s.size)) (hBs : B.size ≤ 40) (w : World) (ht : Tab w)
    (cA : ∀ w, Tab w → Calls Tryd.prog 10 #[.int .i64 n, .int .i64 q] w fun e w' => e = .returned (.tuple #[.string A, .int .i64 0]) ∧ Below w.heap.size w w')
    (cPA : ∀ w, Calls Tryd.prog 8 #[.string A, .int .i64 q] w fun e w' => e = .returned (.tuple #[.int .i64 n, .int .i64 0, .int .i64 0]) ∧ w' = w)
    (cPs : ∀ w, Calls Tryd.prog 8 #[.string s, .int .i64 q] w fun e w' => e = .returned (.tuple #[.int .i64 x, .int .i64 0, .int .i64 0]) ∧ w' = w)
    (cB : ∀ w, Tab w → Calls Tryd.prog 10 #[.int .i64 x, .int .i64 q] w fun e w' => e = .returned (.tuple #[.string B, .int .i64 0]) ∧ Below w.heap.size w w') :
    Calls Tryd.prog 4 #[.string s, .int .i64 n, .int .i64 q] w fun e w' => e = .returned (.bool true) ∧ Below w.heap.size w w' := by
  have cW := works_any w ht
  have HB : Hid (∀ i (h : i < B.size), s.size ≤ i → B[i] = 48 ∨ (B[i] = 46 ∧ i = s.size)) := hB
  clear hB
  go_enter Tryd.func4, Tryd.ntmps4
  go_wp2_with fail
  refine cW.mono ?_
  rintro e w1 ⟨rfl, hb1⟩
  go_wp2_with fail
  refine (cA _ (ht.on hb1)).mono ?_
  rintro e w2 ⟨rfl, hb2⟩
  go_wp2_with fail
  refine (cPA _).mono ?_
  rintro e w3 ⟨rfl, rfl⟩
  go_wp2_with fail
  refine (cPs _).mono ?_
  rintro e w3 ⟨rfl, rfl⟩
  go_wp2_with fail
  refine (cB _ ((ht.on hb1).on hb2)).mono ?_
  rintro e w4 ⟨rfl, hb4⟩
  go_wp2_with fail
  go_loop [21] (fun t => ∃ i : Nat, s.size ≤ i ∧ i ≤ B.size ∧ t = .int .i64 i) (fun t => B.size - (intOf t).toNat)
  case atStart => exact ⟨s.size, Nat.le_refl _, hle, rfl⟩
  case round =>
    obtain ⟨i, hi1, hi2, rfl⟩ := hrel
    by_cases hlt : i < B.size
    · rcases HB.out i hlt hi1 with h48 | ⟨h46, hi⟩
      · have hc : (B[i].toNat : Int) = 48 := (byte_is (d := 48) rfl).2 h48
        go_wp2_with fail
        go_round
        case rel => exact ⟨i + 1, by omega, by omega, by go_num⟩
        case measure => simp [intOf]; omega
      · have hc : (B[i].toNat : Int) = 46 := (byte_is (d := 46) rfl).2 h46
        have hni : ¬ (s.size : Int) < (i : Int) := by omega
        clear hi
        go_wp2_with fail
        go_round
        case rel => exact ⟨i + 1, by omega, by omega, by go_num⟩
        case measure => simp [intOf]; omega
    · go_wp2_with fail
      go_ret
      exact ⟨rfl, below2 (below2 hb1 hb2) hb4⟩

set_option maxRecDepth 100000 in
set_option maxHeartbeats 1000000 in
theorem back_wrong (s A : ByteArray) (n E : Int) (a q : Nat) (hq9 : q ≤ 9) (hs : (s.size : Int) ≤ 1073741824) (hE : ¬ E = 0) (ha : (a : Int) ≤ s.size) (w : World) (ht : Tab w)
    (cA : ∀ w, Tab w → Calls Tryd.prog 10 #[.int .i64 n, .int .i64 q] w fun e w' => e = .returned (.tuple #[.string A, .int .i64 0]) ∧ Below w.heap.size w w')
    (cPA : ∀ w, Calls Tryd.prog 8 #[.string A, .int .i64 q] w fun e w' => e = .returned (.tuple #[.int .i64 n, .int .i64 0, .int .i64 0]) ∧ w' = w)
    (cPs : ∀ w, Calls Tryd.prog 8 #[.string s, .int .i64 q] w fun e w' => e = .returned (.tuple #[.int .i64 0, .int .i64 E, .int .i64 a]) ∧ w' = w) :
    Calls Tryd.prog 4 #[.string s, .int .i64 n, .int .i64 q] w fun e w' => e = .returned (.bool true) ∧ Below w.heap.size w w' := by
  have cW := works_any w ht
  go_enter Tryd.func4, Tryd.ntmps4
  go_wp2_with fail
  refine cW.mono ?_
  rintro e w1 ⟨rfl, hb1⟩
  go_wp2_with fail
  refine (cA _ (ht.on hb1)).mono ?_
  rintro e w2 ⟨rfl, hb2⟩
  go_wp2_with fail
  refine (cPA _).mono ?_
  rintro e w3 ⟨rfl, rfl⟩
  go_wp2_with fail
  refine (cPs _).mono ?_
  rintro e w3 ⟨rfl, rfl⟩
  go_wp2_with fail
  go_ret
  exact ⟨retb (by first | rfl | exact decide_eq_true ha | simp), below2 hb1 hb2⟩

set_option maxRecDepth 100000 in
set_option maxHeartbeats 1000000 in
theorem back_arg (s : ByteArray) (n p : Int) (hp : p < 0 ∨ 9 < p) (hs : (s.size : Int) ≤ 1073741824) (h0 : -9223372036854775808 ≤ n) (h1 : n ≤ 9223372036854775807) (w : World) (ht : Tab w) :
    Calls Tryd.prog 4 #[.string s, .int .i64 n, .int .i64 p] w fun e w' => e = .returned (.bool true) ∧ Below w.heap.size w w' := by
  have cW := works_any w ht
  have hpl := plB_false hp
  have cA := fun w ht => print_any n p h0 h1 w ht
  rw [prL_no hpl, prE_no hpl] at cA
  obtain ⟨r1, r2, r3⟩ := par_arg (l := s.data.toList) hpl
  have cP := fun w => parse_any s p (by omega) w
  rw [r1, r2, r3] at cP
  have cA2 : ∀ w, Tab w → Calls Tryd.prog 10 #[.int .i64 n, .int .i64 p] w fun e w' => e = .returned (.tuple #[.string ⟨#[]⟩, .int .i64 1]) ∧ Below w.heap.size w w' := cA
  have cP2 : ∀ w, Calls Tryd.prog 8 #[.string s, .int .i64 p] w fun e w' => e = .returned (.tuple #[.int .i64 0, .int .i64 1, .int .i64 0]) ∧ w' = w := cP
  clear cA cP r1 r2 r3
  rcases hp with hp | hp
  all_goals
    go_enter Tryd.func4, Tryd.ntmps4
    go_wp2_with fail
    refine cW.mono ?_
    rintro e w1 ⟨rfl, hb1⟩
    go_wp2_with fail
    refine (cA2 _ (ht.on hb1)).mono ?_
    rintro e w2 ⟨rfl, hb2⟩
    go_wp2_with fail
    refine (cP2 _).mono ?_
    rintro e w3 ⟨rfl, rfl⟩
    go_wp2_with fail
    go_ret
    exact ⟨retb (by first | rfl | simp), below2 hb1 hb2⟩

set_option maxRecDepth 100000 in
theorem back_big (s : ByteArray) (n p : Int) (hbig : 1073741824 < (s.size : Int)) (w : World) (ht : Tab w) :
    Calls Tryd.prog 4 #[.string s, .int .i64 n, .int .i64 p] w fun e w' => e = .returned (.bool true) ∧ Below w.heap.size w w' := by
  have cW := works_any w ht
  go_enter Tryd.func4, Tryd.ntmps4
  go_wp2_with fail
  refine cW.mono ?_
  rintro e w1 ⟨rfl, hb1⟩
  go_wp2_with fail
  go_ret
  exact ⟨rfl, hb1⟩

/-- What the printed text is, held against what was read. -/
theorem back_facts {R B : ByteArray} {ext : List UInt8} (h : B.data.toList = R.data.toList ++ ext) (hx : ExtOk ext) :
    R.size ≤ B.size ∧ B.extract 0 R.size = R ∧ ∀ i (h : i < B.size), R.size ≤ i → B[i] = 48 ∨ (B[i] = 46 ∧ i = R.size) := by
  have hl : B.size = R.size + ext.length := by rw [← len_of, h, List.length_append, len_of]
  refine ⟨by omega, ?_, fun i hi hr => ?_⟩
  · apply ba_ext
    have e : (B.extract 0 R.size).data.toList = B.data.toList.take R.size := by simp
    rw [e, h, ← len_of, List.take_left]
  · have hg := get_at B i hi
    rw [h, List.getElem?_append_right (by rw [len_of]; exact hr), len_of] at hg
    rcases hx _ _ hg with e | ⟨e, e2⟩
    · exact Or.inl e
    · exact Or.inr ⟨e, by omega⟩

theorem back_law (s : ByteArray) (n p : Int) (h0 : -9223372036854775808 ≤ n) (h1 : n ≤ 9223372036854775807) (w : World) (ht : Tab w) :
    Calls Tryd.prog 4 #[.string s, .int .i64 n, .int .i64 p] w fun e w' => e = .returned (.bool true) ∧ Below w.heap.size w w' := by
  by_cases hbig : (s.size : Int) ≤ 1073741824
  · by_cases hpl : plB p = true
    · have hb := plB_iff.1 hpl
      obtain ⟨q, rfl⟩ : ∃ q : Nat, p = q := ⟨p.toNat, by omega⟩
      have hq : q ≤ 9 := by omega
      have cPr : ∀ x : Int, -9223372036854775808 ≤ x → x ≤ 9223372036854775807 → ∀ w, Tab w → Calls Tryd.prog 10 #[.int .i64 x, .int .i64 q] w fun e w' => e = .returned (.tuple #[.string (bytes (printL x q)), .int .i64 0]) ∧ Below w.heap.size w w' := fun x x0 x1 w ht => by
        have := print_any x q x0 x1 w ht
        rwa [prL_yes hpl, prE_yes hpl] at this
      have cPA : ∀ w, Calls Tryd.prog 8 #[.string (bytes (printL n q)), .int .i64 q] w fun e w' => e = .returned (.tuple #[.int .i64 n, .int .i64 0, .int .i64 0]) ∧ w' = w := fun w => by
        have := parse_any (bytes (printL n q)) q (by rw [bytes_size]; have := printL_len n q h0 h1 hq; omega) w
        obtain ⟨a1, a2, a3⟩ := print_again n q hq h0 h1
        rwa [bytes_list, a1, a2, a3] at this
      have cPs := fun w => parse_any s q (by omega) w
      cases hf : formB s.data.toList q with
      | false =>
        obtain ⟨r1, r2, r3⟩ := par_form (l := s.data.toList) hpl hf
        rw [r1, r2, r3] at cPs
        have hle := (place_facts hf).1
        rw [len_of] at hle
        exact back_wrong s _ n 20 _ q hq hbig (by decide) (by show ((formA s.data.toList q : Nat) : Int) ≤ _; omega) w ht (cPr n h0 h1) cPA cPs
      | true =>
        cases hw : worthB s.data.toList q with
        | false =>
          obtain ⟨r1, r2, r3⟩ := par_range (l := s.data.toList) hpl hf hw
          rw [r1, r2, r3] at cPs
          exact back_wrong s _ n 21 0 q hq hbig (by decide) (by omega) w ht (cPr n h0 h1) cPA cPs
        | true =>
          obtain ⟨r1, r2, r3⟩ := par_ok (l := s.data.toList) hpl hf hw
          rw [r1, r2, r3] at cPs
          obtain ⟨r, ext, e1, e2, e3, e4, e5⟩ := back_text hf hw
          have cPs2 : ∀ w, Calls Tryd.prog 8 #[.string s, .int .i64 q] w fun e w' => e = .returned (.tuple #[.int .i64 (worthN s.data.toList q), .int .i64 0, .int .i64 0]) ∧ w' = w := cPs
          clear cPs r1 r2 r3
          obtain ⟨x, ex⟩ : ∃ x, x = worthN s.data.toList q := ⟨_, rfl⟩
          rw [← ex] at e1 e2 e3 e5 cPs2
          have hfx := fitB_iff.1 e5
          have hz : 0 < s.size := by
            by_cases hz : 0 < s.size
            · exact hz
            · exfalso
              have e : s.data.toList = [] := by rw [← List.drop_zero (l := s.data.toList)]; exact drop_end s 0 (by omega)
              rw [e] at hf
              have := form_n (neg := false) (b := []) (fun _ h => by cases h) NoDig.nil q
              have h2 : formB [] q = false := this.2
              rw [h2] at hf; cases hf
          have hhd : s.data.toList.head? = some s[0] := by rw [← List.drop_zero (l := s.data.toList)]; exact head_at s 0 hz
          have hBs : (bytes (printL x q)).size ≤ 40 := by rw [bytes_size]; exact printL_len x q hfx.1 hfx.2 hq
          have cB := cPr x hfx.1 hfx.2
          by_cases hx0 : x = 0
          · rw [hx0] at cPs2 cB
            by_cases h45 : s[0] = 45
            · have el := e1 ⟨hx0, by rw [hhd, h45]⟩
              obtain ⟨R, hR⟩ : ∃ R, s.extract 1 s.size = R := ⟨_, rfl⟩
              have hRl : R.data.toList = r := by
                rw [← hR]
                have e : (s.extract 1 s.size).data.toList = (s.data.toList.drop 1).take (s.size - 1) := by simp
                rw [e, el, List.drop_succ_cons, List.drop_zero]
                apply List.take_of_length_le
                have := congrArg List.length el
                rw [len_of, List.length_cons] at this; omega
              obtain ⟨f1, f2, f3⟩ := back_facts (R := R) (B := bytes (printL x q)) (by rw [bytes_list, hRl]; exact e3) e4
              rw [hx0] at f1 f2 f3 hBs
              exact back_turn s _ (bytes (printL 0 q)) n q hq hbig hz ((byte_is (d := 45) rfl).2 h45) R hR f1 f2 f3 hBs w ht (cPr n h0 h1) cPA cPs2 cB
            · have el := e2 (fun h => h45 (by have := h.2; rw [hhd] at this; exact Option.some.inj this))
              obtain ⟨f1, f2, f3⟩ := back_facts (R := s) (B := bytes (printL x q)) (by rw [bytes_list, el]; exact e3) e4
              rw [hx0] at f1 f2 f3 hBs
              exact back_nought s _ (bytes (printL 0 q)) n q hq hbig hz (fun h => h45 ((byte_is (d := 45) rfl).1 h)) f1 f2 f3 hBs w ht (cPr n h0 h1) cPA cPs2 cB
          · have el := e2 (fun h => hx0 h.1)
            obtain ⟨f1, f2, f3⟩ := back_facts (R := s) (B := bytes (printL x q)) (by rw [bytes_list, el]; exact e3) e4
            exact back_plain s _ (bytes (printL x q)) n x hx0 q hq hbig hz f1 f2 f3 hBs w ht (cPr n h0 h1) cPA cPs2 cB
    · have hpl : plB p = false := by simpa using hpl
      have hp : p < 0 ∨ 9 < p := by
        by_cases h : p < 0
        · exact Or.inl h
        · by_cases h9 : 9 < p
          · exact Or.inr h9
          · exact absurd (plB_true (p := p) (by omega) (by omega)) (by rw [hpl]; decide)
      exact back_arg s n p hp hbig h0 h1 w ht
  · exact back_big s n p (by omega) w ht
end Go.Proofs.YtkbadigpagijjaaDoor
