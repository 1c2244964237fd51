/-
  The walk of the statement DecimalPlace.
-/
import Derived.Test.YtkbadigpagijjaaDoorWorks
import Derived.Test.YtkbadigpagijjaaDoorAt
namespace Go.Proofs.YtkbadigpagijjaaDoor
open Go.RowKit

/-- Parse of a right text: the error is not that of a wrong one. -/
theorem parse_right (s : ByteArray) (q : Nat) (hs : s.size ≤ 140737488355328) (hq : q ≤ 9) (hf : formB s.data.toList q = true) : ∃ N E : Int, ¬ E = 20 ∧ ∀ w,
    Calls Tryd.prog 8 #[.string s, .int .i64 q] w fun e w' => e = .returned (.tuple #[.int .i64 N, .int .i64 E, .int .i64 0]) ∧ w' = w := by
  have hpl := plB_true (p := (q : Int)) (by omega) (by omega)
  cases hw : worthB s.data.toList q with
  | true =>
    obtain ⟨r1, r2, r3⟩ := par_ok (l := s.data.toList) hpl hf hw
    refine ⟨worthN s.data.toList (q : Int).toNat, 0, by decide, fun w => ?_⟩
    have := parse_any s q hs w
    rwa [r1, r2, r3] at this
  | false =>
    obtain ⟨r1, r2, r3⟩ := par_range (l := s.data.toList) hpl hf hw
    refine ⟨0, 21, by decide, fun w => ?_⟩
    have := parse_any s q hs w
    rwa [r1, r2, r3] at this
theorem parse_wrong (s : ByteArray) (q : Nat) (hs : s.size ≤ 140737488355328) (hq : q ≤ 9) (hf : formB s.data.toList q = false) (a : Nat) (ha : formA s.data.toList q = a) (w : World) :
    Calls Tryd.prog 8 #[.string s, .int .i64 q] w fun e w' => e = .returned (.tuple #[.int .i64 0, .int .i64 20, .int .i64 a]) ∧ w' = w := by
  have hpl := plB_true (p := (q : Int)) (by omega) (by omega)
  obtain ⟨r1, r2, r3⟩ := par_form (l := s.data.toList) hpl hf
  have := parse_any s q hs w
  rw [r1, r2, r3] at this
  rw [← ha]; exact this
theorem parse_some (s : ByteArray) (q : Nat) (hs : s.size ≤ 140737488355328) : ∃ N E A : Int, ∀ w,
    Calls Tryd.prog 8 #[.string s, .int .i64 q] w fun e w' => e = .returned (.tuple #[.int .i64 N, .int .i64 E, .int .i64 A]) ∧ w' = w :=
  ⟨_, _, _, fun w => parse_any s q hs w⟩

set_option maxHeartbeats 1000000 in
theorem place_any (s : ByteArray) (p : Int) (hs0 : s.size ≤ 9223372036854775807) (w : World) (ht : Tab w) :
    Calls Tryd.prog 5 #[.string s, .int .i64 p] w fun e w' => e = .returned (.bool true) ∧ Below w.heap.size w w' := by
  have cW := works_any w ht
  by_cases hbig : 65536 < (s.size : Int)
  · go_enter Tryd.func5, Tryd.ntmps5
    go_wp2_with fail
    refine cW.mono ?_
    rintro e w1 ⟨rfl, hb1⟩
    go_wp2_with fail
    go_ret
    exact ⟨rfl, hb1⟩
  · by_cases hneg : p < 0
    · go_enter Tryd.func5, Tryd.ntmps5
      go_wp2_with fail
      refine cW.mono ?_
      rintro e w1 ⟨rfl, hb1⟩
      go_wp2_with fail
      go_ret
      exact ⟨rfl, hb1⟩
    · by_cases h9 : 9 < p
      · go_enter Tryd.func5, Tryd.ntmps5
        go_wp2_with fail
        refine cW.mono ?_
        rintro e w1 ⟨rfl, hb1⟩
        go_wp2_with fail
        go_ret
        exact ⟨rfl, hb1⟩
      · obtain ⟨q, rfl⟩ : ∃ q : Nat, p = q := ⟨p.toNat, by omega⟩
        have hq : q ≤ 9 := by omega
        have hs : s.size ≤ 140737488355328 := by omega
        cases hf : formB s.data.toList q with
        | true =>
          obtain ⟨N, E, hE, cP⟩ := parse_right s q hs hq hf
          clear hf
          go_enter Tryd.func5, Tryd.ntmps5
          go_wp2_with fail
          refine cW.mono ?_
          rintro e w1 ⟨rfl, hb1⟩
          go_wp2_with fail
          refine (cP _).mono ?_
          rintro e w2 ⟨rfl, rfl⟩
          go_wp2_with fail
          go_ret
          exact ⟨rfl, hb1⟩
        | false =>
          obtain ⟨a, ea⟩ : ∃ a, formA s.data.toList q = a := ⟨_, rfl⟩
          obtain ⟨f1, f2, f3⟩ := place_facts hf
          rw [ea, len_of] at f1 f3
          rw [ea] at f2
          have cP := parse_wrong s q hs hq hf a ea
          obtain ⟨T, hT⟩ : ∃ T, s.extract 0 a = T := ⟨_, rfl⟩
          have hTl : T.data.toList = s.data.toList.take a := by rw [← hT]; simp
          have hTs : T.size = a := by rw [← len_of, hTl, List.length_take, len_of]; omega
          obtain ⟨U, hU⟩ : ∃ U, T ++ (⟨#[48]⟩ : ByteArray) = U := ⟨_, rfl⟩
          have hUl : U.data.toList = s.data.toList.take a ++ [48] := by rw [← hU, ← hTl]; simp
          have hUs : U.size = a + 1 := by rw [← len_of, hUl, List.length_append, ← hTl, len_of, hTs]; rfl
          by_cases ha : (a : Int) = s.size
          · obtain rfl : a = s.size := by omega
            have hTe : T = s := ba_ext (by rw [hTl, List.take_of_length_le (by rw [len_of]; omega)])
            subst hTe
            have hfU : formB U.data.toList q = true := by
              rcases f2 with h | h
              · rw [← hTl, hf] at h; cases h
              · rw [hUl]; exact h
            obtain ⟨N2, E2, hE2, cU⟩ := parse_right U q (by omega) hq hfU
            clear hf f1 f2 f3 hTl hUl hfU ea
            go_enter Tryd.func5, Tryd.ntmps5
            go_wp2_with fail
            refine cW.mono ?_
            rintro e w1 ⟨rfl, hb1⟩
            go_wp2_with fail
            refine (cP _).mono ?_
            rintro e w2 ⟨rfl, rfl⟩
            go_wp2_with fail
            refine (cP _).mono ?_
            rintro e w2 ⟨rfl, rfl⟩
            go_wp2_with fail
            refine (cU _).mono ?_
            rintro e w2 ⟨rfl, rfl⟩
            go_wp2_with fail
            go_ret
            exact ⟨retb (by first | rfl | exact bne_iff_ne.2 hE2), hb1⟩
          · obtain ⟨g1, g2⟩ := f3 (by omega)
            obtain ⟨V, hV⟩ : ∃ V, s.extract 0 (a + 1) = V := ⟨_, rfl⟩
            have hVl : V.data.toList = s.data.toList.take (a + 1) := by rw [← hV]; simp
            have hVs : V.size = a + 1 := by rw [← len_of, hVl, List.length_take, len_of]; omega
            have cV := parse_wrong V q (by omega) hq (by rw [hVl]; exact g1) a (by rw [hVl]; exact g2)
            obtain ⟨N1, E1, A1, cT⟩ := parse_some T q (by omega)
            cases hfT : formB T.data.toList q with
            | true =>
              obtain ⟨N1, E1, hE1, cT⟩ := parse_right T q (by omega) hq hfT
              obtain ⟨N2, E2, A2, cU⟩ := parse_some U q (by omega)
              clear hf f2 f3 hTl hUl hfT ea g1 g2 hVl
              go_enter Tryd.func5, Tryd.ntmps5
              go_wp2_with fail
              refine cW.mono ?_
              rintro e w1 ⟨rfl, hb1⟩
              go_wp2_with fail
              refine (cP _).mono ?_
              rintro e w2 ⟨rfl, rfl⟩
              go_wp2_with fail
              refine (cT _).mono ?_
              rintro e w2 ⟨rfl, rfl⟩
              go_wp2_with fail
              refine (cU _).mono ?_
              rintro e w2 ⟨rfl, rfl⟩
              go_wp2_with fail
              refine (cV _).mono ?_
              rintro e w2 ⟨rfl, rfl⟩
              go_wp2_with fail
              go_ret
              exact ⟨retb (by first | rfl | exact bne_iff_ne.2 hE2), hb1⟩
            | false =>
              have hfU : formB U.data.toList q = true := by
                rcases f2 with h | h
                · rw [← hTl, hfT] at h; cases h
                · rw [hUl]; exact h
              obtain ⟨aT, eT⟩ : ∃ aT, formA T.data.toList q = aT := ⟨_, rfl⟩
              have cT := parse_wrong T q (by omega) hq hfT aT eT
              obtain ⟨N2, E2, hE2, cU⟩ := parse_right U q (by omega) hq hfU
              clear hf f2 f3 hTl hUl hfT hfU ea eT g1 g2 hVl
              go_enter Tryd.func5, Tryd.ntmps5
              go_wp2_with fail
              refine cW.mono ?_
              rintro e w1 ⟨rfl, hb1⟩
              go_wp2_with fail
              refine (cP _).mono ?_
              rintro e w2 ⟨rfl, rfl⟩
              go_wp2_with fail
              refine (cT _).mono ?_
              rintro e w2 ⟨rfl, rfl⟩
              go_wp2_with fail
              refine (cU _).mono ?_
              rintro e w2 ⟨rfl, rfl⟩
              go_wp2_with fail
              refine (cV _).mono ?_
              rintro e w2 ⟨rfl, rfl⟩
              go_wp2_with fail
              go_ret
              exact ⟨retb (by first | rfl | exact bne_iff_ne.2 hE2), hb1⟩
end Go.Proofs.YtkbadigpagijjaaDoor
