/-
  The walk of the document's answer for layer 2: Parse.
-/
import Derived.Test.YtkbadigpagijjaaDoorRval
import Derived.Test.YtkbadigpagijjaaDoorBegins
import Derived.Test.YtkbadigpagijjaaDoorRefMul
import Derived.Test.YtkbadigpagijjaaDoorPrint
namespace Go.Proofs.YtkbadigpagijjaaDoor
open Go.RowKit

theorem rmul_b (a b : Int) (a1 : -9223372036854775808 ≤ a) (a2 : a ≤ 9223372036854775807) (b1 : -9223372036854775808 ≤ b) (b2 : b ≤ 9223372036854775807) (w : World) :
    Calls Tryd.prog 17 #[.int .i64 a, .int .i64 b] w fun e w' => e = .returned (.tuple #[.int .i64 (fitN (a * b)), .bool (fitB (a * b))]) ∧ Below w.heap.size w w' := by
  refine (rmul_any a b a1 a2 b1 b2 w).mono ?_
  rintro e w' ⟨rfl, n, rfl⟩
  exact ⟨rfl, below_d (Below.refl _ _) n⟩

theorem restR_in {s : ByteArray} {k : Nat} (h : k < s.size) {mb : Bool} {p n left : Int} : restR mb p (s.data.toList.drop k) n left = restR mb p (s[k] :: s.data.toList.drop (k + 1)) n left := by rw [drop_at s k h]
theorem restR_other {mb : Bool} {p n left : Int} {c : UInt8} {l : List UInt8} (h : dig c = false) : restR mb p (c :: l) n left = restR mb p l n (if c = 46 then p else left) := by
  unfold restR; rw [goR_other l h]
theorem restR_dig {mb : Bool} {p n left : Int} {c : UInt8} {l : List UInt8} (h : dig c = true) (h1 : fitB (n * 10) = true) (h2 : fitB (n * 10 - digV c) = true) : restR mb p (c :: l) n left = restR mb p l (n * 10 - digV c) (left - 1) := by
  unfold restR; rw [goR_dig l h h1 h2]
theorem restR_out {mb : Bool} {p n left : Int} {c : UInt8} {l : List UInt8} (h : dig c = true) (h1 : fitB (n * 10) = false ∨ fitB (n * 10 - digV c) = false) : restR mb p (c :: l) n left = none := by
  unfold restR; rw [goR_out l h h1]; rfl
theorem restR_end {mb : Bool} {p n left : Int} : restR mb p [] n left = (padR (cntR p left) n).bind (finR mb) := rfl

set_option maxHeartbeats 2000000 in
theorem rparse_right (s : ByteArray) (p : Nat) (hs : s.size ≤ 140737488355328) (hp : p ≤ 9) (hz : 0 < s.size) (hf : Hid (true = formB s.data.toList p)) (mb : Bool) (hmb : ((s[0].toNat : Int) == 45) = mb) (R : Option Int) (HR : Hid (restR mb p s.data.toList 0 (-1) = R))
    (N E A : Int) (HN : Hid (R = none → N = 0 ∧ E = 21 ∧ A = 0)) (HS : Hid (∀ v, R = some v → N = v ∧ E = 0 ∧ A = 0)) (w : World) :
    Calls Tryd.prog 9 #[.string s, .int .i64 p] w fun e w' => e = .returned (.tuple #[.int .i64 N, .int .i64 E, .int .i64 A]) ∧ Below w.heap.size w w' := by
  obtain ⟨d, ed⟩ : ∃ d, d = formA s.data.toList p := ⟨_, rfl⟩
  have HD : Hid (d = formA s.data.toList p) := ed
  clear ed
  go_enter Tryd.func9, Tryd.ntmps9
  go_wp2_with (go_at_call 16; refine (begins_any s p hs hp d true HD hf _).mono ?_; rintro e w1 ⟨rfl, rfl⟩)
  go_loopw [10, 11, 12] (fun n left i wr => ∃ (k : Nat) (nn ll : Int), k ≤ s.size ∧ i = .int .i64 k ∧ n = .int .i64 nn ∧ left = .int .i64 ll ∧ -9223372036854775808 ≤ nn ∧ nn ≤ 9223372036854775807 ∧ -1 - (k : Int) ≤ ll ∧ ll ≤ 9 ∧ Hid (restR mb p (s.data.toList.drop k) nn ll = R) ∧ Below w1.heap.size w1 wr) (fun _ _ i _ => s.size - (intOf i).toNat)
  case atStart => exact ⟨0, 0, -1, Nat.zero_le _, rfl, rfl, rfl, by omega, by omega, by omega, by omega, HR, Below.refl _ _⟩
  case round =>
    obtain ⟨k, nn, ll, hk, rfl, rfl, rfl, n1, n2, l1, l2, HK, hbel⟩ := hrel
    by_cases hlt : k < s.size
    · have HK2 := HK.out
      rw [restR_in hlt] at HK2
      have HK3 : Hid (restR mb p (s[k] :: s.data.toList.drop (k + 1)) nn ll = R) := HK2
      clear HK2 HK
      by_cases h46 : s[k] = 46
      · have hc : (s[k].toNat : Int) = 46 := (byte_is (d := 46) rfl).2 h46
        go_wp2_with fail
        go_round
        case rel => exact ⟨k + 1, nn, p, by omega, by go_num, rfl, rfl, n1, n2, by omega, by omega, by show _ = _; rw [← HK3.out, restR_other (by rw [h46]; decide), if_pos h46], hbel⟩
        case measure => simp [intOf]; omega
      · have hc : ¬ (s[k].toNat : Int) = 46 := fun h => h46 ((byte_is (d := 46) rfl).1 h)
        by_cases h48 : (s[k].toNat : Int) < 48
        · go_wp2_with fail
          go_round
          case rel => exact ⟨k + 1, nn, ll, by omega, by go_num, rfl, rfl, n1, n2, by omega, by omega, by show _ = _; rw [← HK3.out, restR_other (dig_lo h48), if_neg h46], hbel⟩
          case measure => simp [intOf]; omega
        · by_cases h57 : 57 < (s[k].toNat : Int)
          · go_wp2_with fail
            go_round
            case rel => exact ⟨k + 1, nn, ll, by omega, by go_num, rfl, rfl, n1, n2, by omega, by omega, by show _ = _; rw [← HK3.out, restR_other (dig_hi h57), if_neg h46], hbel⟩
            case measure => simp [intOf]; omega
          · have hdg : dig s[k] = true := dig_yes (by omega) (by omega)
            obtain ⟨x, hx⟩ : ∃ x, (s[k].toNat : Int) - 48 = x := ⟨_, rfl⟩
            have HV : Hid (digV s[k] = x) := by show _ = _; unfold digV; omega
            have hx1 : 0 ≤ x := by omega
            have hx2 : x ≤ 9 := by omega
            have hT := fitN_bd (nn * 10)
            cases hf1 : fitB (nn * 10) with
            | false =>
              have hN := HN.out (by rw [← HK3.out, restR_out hdg (Or.inl hf1)])
              obtain ⟨rfl, rfl, rfl⟩ := hN
              clear HN HS HR
              go_wp2_with (first | (go_at_call 17; refine (rmul_b _ _ n1 n2 (by omega) (by omega) _).mono ?_; rintro e w2 ⟨rfl, hb2⟩) | (go_at_call 18; refine (rsub_any _ x (by first | exact hT.1 | omega) (by first | exact hT.2 | omega) (by omega) (by omega) _).mono ?_; rintro e w3 ⟨rfl, rfl⟩))
              go_ret3
              exact ⟨rfl, below2 hbel hb2⟩
            | true =>
              have e10 : fitN (nn * 10) = nn * 10 := fitN_true hf1
              have hb1 := fitB_iff.1 hf1
              cases hf2 : fitB (nn * 10 - x) with
              | false =>
                have hN := HN.out (by rw [← HK3.out, restR_out hdg (Or.inr (by rw [HV.out]; exact hf2))])
                obtain ⟨rfl, rfl, rfl⟩ := hN
                clear HN HS HR
                go_wp2_with (first | (go_at_call 17; refine (rmul_b _ _ n1 n2 (by omega) (by omega) _).mono ?_; rintro e w2 ⟨rfl, hb2⟩) | (go_at_call 18; refine (rsub_any _ x (by first | exact hT.1 | omega) (by first | exact hT.2 | omega) (by omega) (by omega) _).mono ?_; rintro e w3 ⟨rfl, rfl⟩))
                go_ret3
                exact ⟨rfl, below2 hbel hb2⟩
              | true =>
                have e11 : fitN (nn * 10 - x) = nn * 10 - x := fitN_true hf2
                have hb2 := fitB_iff.1 hf2
                go_wp2_with (first | (go_at_call 17; refine (rmul_b _ _ n1 n2 (by omega) (by omega) _).mono ?_; rintro e w2 ⟨rfl, hb2⟩) | (go_at_call 18; refine (rsub_any _ x (by first | exact hT.1 | omega) (by first | exact hT.2 | omega) (by omega) (by omega) _).mono ?_; rintro e w3 ⟨rfl, rfl⟩))
                go_round
                case rel => exact ⟨k + 1, nn * 10 - x, ll - 1, by omega, by go_num, rfl, rfl, by omega, by omega, by omega, by omega, by show _ = _; rw [← HK3.out, restR_dig hdg hf1 (by rw [HV.out]; exact hf2), HV.out], below2 hbel hb2⟩
                case measure => simp [intOf]; omega
    · have HE : Hid ((padR (cntR p ll) nn).bind (finR mb) = R) := by show _ = _; rw [← HK.out, drop_end s k (by omega), restR_end]
      clear HK HR
      obtain ⟨c, ec⟩ : ∃ c, c = cntR p ll := ⟨_, rfl⟩
      have hc9 : c ≤ 9 := by rw [ec]; unfold cntR; split <;> omega
      have HC : Hid ((padR c nn).bind (finR mb) = R) := by rw [ec]; exact HE
      clear HE
      by_cases hl : ll < 0
      · have hcc : c = p := by rw [ec]; unfold cntR; rw [if_pos hl]; omega
        subst hcc
        clear ec
        go_wp2_with fail
        go_loopw [10, 17] (fun n i wr => ∃ (j : Nat) (mm : Int), j ≤ c ∧ i = .int .i64 j ∧ n = .int .i64 mm ∧ -9223372036854775808 ≤ mm ∧ mm ≤ 9223372036854775807 ∧ Hid ((padR (c - j) mm).bind (finR mb) = R) ∧ Below w1.heap.size w1 wr) (fun _ i _ => c - (intOf i).toNat)
        case atStart => exact ⟨0, nn, Nat.zero_le _, rfl, rfl, n1, n2, HC, hbel⟩
        case round =>
          clear hbel HC
          obtain ⟨j, mm, hj, rfl, rfl, m1, m2, HJ, hbel⟩ := hrel
          by_cases hjc : j < c
          · have hjc' : (j : Int) < c := by omega
            have HJ2 : Hid (((if fitB (mm * 10) = true then padR (c - (j + 1)) (mm * 10) else none).bind (finR mb)) = R) := by
              show _ = _
              rw [← HJ.out, show c - j = (c - (j + 1)) + 1 by omega]; rfl
            cases hf1 : fitB (mm * 10) with
            | false =>
              have hN := HN.out (by rw [← HJ2.out, hf1, if_neg (by decide)]; rfl)
              obtain ⟨rfl, rfl, rfl⟩ := hN
              clear HN HS
              go_wp2_with (go_at_call 17; refine (rmul_b _ _ m1 m2 (by omega) (by omega) _).mono ?_; rintro e w2 ⟨rfl, hb2⟩)
              go_ret3
              exact ⟨rfl, below2 hbel hb2⟩
            | true =>
              have e10 : fitN (mm * 10) = mm * 10 := fitN_true hf1
              have hb1 := fitB_iff.1 hf1
              go_wp2_with (go_at_call 17; refine (rmul_b _ _ m1 m2 (by omega) (by omega) _).mono ?_; rintro e w2 ⟨rfl, hb2⟩)
              go_round
              case rel => exact ⟨j + 1, mm * 10, by omega, by go_num, rfl, by omega, by omega, by show _ = _; rw [← HJ2.out, hf1, if_pos rfl], below2 hbel hb2⟩
              case measure => simp [intOf]; omega
          · have hjc' : ¬ (j : Int) < c := by omega
            have HF : Hid (finR mb mm = R) := by show _ = _; rw [← HJ.out, show c - j = 0 by omega]; rfl
            clear HJ
            cases mb with
            | true =>
              have hN := HS.out mm (by rw [← HF.out]; rfl)
              obtain ⟨rfl, rfl, rfl⟩ := hN
              clear HN HS
              go_wp2_with fail
              go_ret3
              exact ⟨rfl, hbel⟩
            | false =>
              cases hf1 : fitB (-mm) with
              | false =>
                have hN := HN.out (by rw [← HF.out]; unfold finR; rw [if_neg (by decide), hf1, if_neg (by decide)])
                obtain ⟨rfl, rfl, rfl⟩ := hN
                clear HN HS
                go_wp2_with (go_at_call 19; refine (rneg_any _ m1 m2 _).mono ?_; rintro e w2 ⟨rfl, rfl⟩)
                go_ret3
                exact ⟨rfl, hbel⟩
              | true =>
                have hN := HS.out (-mm) (by rw [← HF.out]; unfold finR; rw [if_neg (by decide), hf1, if_pos rfl])
                obtain ⟨rfl, rfl, rfl⟩ := hN
                clear HN HS
                have e10 : fitN (-mm) = -mm := fitN_true hf1
                go_wp2_with (go_at_call 19; refine (rneg_any _ m1 m2 _).mono ?_; rintro e w2 ⟨rfl, rfl⟩)
                go_ret3
                exact ⟨rfl, hbel⟩
      · have hcc : ll = c := by rw [ec]; unfold cntR; rw [if_neg hl]; omega
        subst hcc
        clear ec
        go_wp2_with fail
        go_loopw [10, 17] (fun n i wr => ∃ (j : Nat) (mm : Int), j ≤ c ∧ i = .int .i64 j ∧ n = .int .i64 mm ∧ -9223372036854775808 ≤ mm ∧ mm ≤ 9223372036854775807 ∧ Hid ((padR (c - j) mm).bind (finR mb) = R) ∧ Below w1.heap.size w1 wr) (fun _ i _ => c - (intOf i).toNat)
        case atStart => exact ⟨0, nn, Nat.zero_le _, rfl, rfl, n1, n2, HC, hbel⟩
        case round =>
          clear hbel HC
          obtain ⟨j, mm, hj, rfl, rfl, m1, m2, HJ, hbel⟩ := hrel
          by_cases hjc : j < c
          · have hjc' : (j : Int) < c := by omega
            have HJ2 : Hid (((if fitB (mm * 10) = true then padR (c - (j + 1)) (mm * 10) else none).bind (finR mb)) = R) := by
              show _ = _
              rw [← HJ.out, show c - j = (c - (j + 1)) + 1 by omega]; rfl
            cases hf1 : fitB (mm * 10) with
            | false =>
              have hN := HN.out (by rw [← HJ2.out, hf1, if_neg (by decide)]; rfl)
              obtain ⟨rfl, rfl, rfl⟩ := hN
              clear HN HS
              go_wp2_with (go_at_call 17; refine (rmul_b _ _ m1 m2 (by omega) (by omega) _).mono ?_; rintro e w2 ⟨rfl, hb2⟩)
              go_ret3
              exact ⟨rfl, below2 hbel hb2⟩
            | true =>
              have e10 : fitN (mm * 10) = mm * 10 := fitN_true hf1
              have hb1 := fitB_iff.1 hf1
              go_wp2_with (go_at_call 17; refine (rmul_b _ _ m1 m2 (by omega) (by omega) _).mono ?_; rintro e w2 ⟨rfl, hb2⟩)
              go_round
              case rel => exact ⟨j + 1, mm * 10, by omega, by go_num, rfl, by omega, by omega, by show _ = _; rw [← HJ2.out, hf1, if_pos rfl], below2 hbel hb2⟩
              case measure => simp [intOf]; omega
          · have hjc' : ¬ (j : Int) < c := by omega
            have HF : Hid (finR mb mm = R) := by show _ = _; rw [← HJ.out, show c - j = 0 by omega]; rfl
            clear HJ
            cases mb with
            | true =>
              have hN := HS.out mm (by rw [← HF.out]; rfl)
              obtain ⟨rfl, rfl, rfl⟩ := hN
              clear HN HS
              go_wp2_with fail
              go_ret3
              exact ⟨rfl, hbel⟩
            | false =>
              cases hf1 : fitB (-mm) with
              | false =>
                have hN := HN.out (by rw [← HF.out]; unfold finR; rw [if_neg (by decide), hf1, if_neg (by decide)])
                obtain ⟨rfl, rfl, rfl⟩ := hN
                clear HN HS
                go_wp2_with (go_at_call 19; refine (rneg_any _ m1 m2 _).mono ?_; rintro e w2 ⟨rfl, rfl⟩)
                go_ret3
                exact ⟨rfl, hbel⟩
              | true =>
                have hN := HS.out (-mm) (by rw [← HF.out]; unfold finR; rw [if_neg (by decide), hf1, if_pos rfl])
                obtain ⟨rfl, rfl, rfl⟩ := hN
                clear HN HS
                have e10 : fitN (-mm) = -mm := fitN_true hf1
                go_wp2_with (go_at_call 19; refine (rneg_any _ m1 m2 _).mono ?_; rintro e w2 ⟨rfl, rfl⟩)
                go_ret3
                exact ⟨rfl, hbel⟩

theorem rparse_any (s : ByteArray) (p : Int) (hs : s.size ≤ 140737488355328) (w : World) :
    Calls Tryd.prog 9 #[.string s, .int .i64 p] w fun e w' => e = .returned (.tuple #[.int .i64 (parN s.data.toList p), .int .i64 (parE s.data.toList p), .int .i64 (parA s.data.toList p)]) ∧ Below w.heap.size w w' := by
  by_cases hpl : plB p = true
  · have hb := plB_iff.1 hpl
    obtain ⟨q, rfl⟩ : ∃ q : Nat, p = q := ⟨p.toNat, by omega⟩
    have hq : q ≤ 9 := by omega
    cases hf : formB s.data.toList q with
    | true =>
      have hz : 0 < s.size := by
        by_cases hz : 0 < s.size
        · exact hz
        · exfalso
          have e : s.data.toList = [] := by rw [← List.drop_zero (l := s.data.toList)]; exact drop_end s 0 (by omega)
          rw [e] at hf
          have := form_n (neg := false) (b := []) (fun _ h => by cases h) NoDig.nil q
          have h2 : formB [] q = false := this.2
          rw [h2] at hf; cases hf
      obtain ⟨R, hR, hN, hS⟩ := par_rest hpl hf
      refine rparse_right s q hs hq hz hf.symm (decide (s.data.toList.head? = some 45)) ?_ R hR _ _ _ (fun h => ⟨(hN h).1, (hN h).2.1, by rw [(hN h).2.2]; rfl⟩) (fun v h => ⟨(hS v h).1, (hS v h).2.1, by rw [(hS v h).2.2]; rfl⟩) w
      rw [← List.drop_zero (l := s.data.toList), head_at s 0 hz]
      by_cases h45 : s[0] = 45
      · rw [h45]; rfl
      · rw [decide_eq_false (fun h => h45 (Option.some.inj h))]
        exact beq_false_of_ne (fun h => h45 ((byte_is (d := 45) rfl).1 h))
    | false =>
      obtain ⟨d, ed⟩ : ∃ d, d = formA s.data.toList q := ⟨_, rfl⟩
      have HD : Hid (d = formA s.data.toList q) := ed
      have HF : Hid (false = formB s.data.toList q) := hf.symm
      obtain ⟨r1, r2, r3⟩ := par_form (l := s.data.toList) hpl hf
      rw [r1, r2, r3]
      clear r1 r2 r3 hf ed
      go_enter Tryd.func9, Tryd.ntmps9
      go_wp2_with (go_at_call 16; refine (begins_any s q hs hq d false HD HF _).mono ?_; rintro e w1 ⟨rfl, rfl⟩)
      go_ret3
      exact ⟨ret3 rfl rfl (by rw [HD.out]; rfl), Below.refl _ _⟩
  · have hpl : plB p = false := by simpa using hpl
    obtain ⟨r1, r2, r3⟩ := par_arg (l := s.data.toList) hpl
    rw [r1, r2, r3]
    clear r1 r2 r3
    by_cases hp : p < 0
    · go_enter Tryd.func9, Tryd.ntmps9
      go_wp2_with fail
      go_ret3
      exact ⟨rfl, Below.refl _ _⟩
    · have h9 : 9 < p := by
        by_cases h9 : 9 < p
        · exact h9
        · exact absurd (plB_true (p := p) (by omega) (by omega)) (by rw [hpl]; decide)
      go_enter Tryd.func9, Tryd.ntmps9
      go_wp2_with fail
      go_ret3
      exact ⟨rfl, Below.refl _ _⟩
end Go.Proofs.YtkbadigpagijjaaDoor
