/-
  The walk of decimal.Parse.
-/
import Derived.Test.YtkbadigpagijjaaDoorWalk
namespace Go.Proofs.YtkbadigpagijjaaDoor
open Go.RowKit

def parN (l : List UInt8) (p : Int) : Int := if plB p = true then if formB l p.toNat = true then if worthB l p.toNat = true then worthN l p.toNat else 0 else 0 else 0
def parE (l : List UInt8) (p : Int) : Int := if plB p = true then if formB l p.toNat = true then if worthB l p.toNat = true then 0 else 21 else 20 else 1
def parA (l : List UInt8) (p : Int) : Nat := if plB p = true then if formB l p.toNat = true then 0 else formA l p.toNat else 0
theorem par_arg {l : List UInt8} {p : Int} (h : plB p = false) : parN l p = 0 ∧ parE l p = 1 ∧ parA l p = 0 := by
  unfold parN parE parA; simp [h]
theorem par_form {l : List UInt8} {p : Int} (h : plB p = true) (h1 : formB l p.toNat = false) : parN l p = 0 ∧ parE l p = 20 ∧ parA l p = formA l p.toNat := by
  unfold parN parE parA; simp [h, h1]
theorem par_range {l : List UInt8} {p : Int} (h : plB p = true) (h1 : formB l p.toNat = true) (h2 : worthB l p.toNat = false) : parN l p = 0 ∧ parE l p = 21 ∧ parA l p = 0 := by
  unfold parN parE parA; simp [h, h1, h2]
theorem par_ok {l : List UInt8} {p : Int} (h : plB p = true) (h1 : formB l p.toNat = true) (h2 : worthB l p.toNat = true) : parN l p = worthN l p.toNat ∧ parE l p = 0 ∧ parA l p = 0 := by
  unfold parN parE parA; simp [h, h1, h2]

theorem ret3 {a b c a' b' c' : Int} (h1 : a = a') (h2 : b = b') (h3 : c = c') : Ending.returned (.tuple #[.int .i64 a, .int .i64 b, .int .i64 c]) = .returned (.tuple #[.int .i64 a', .int .i64 b', .int .i64 c']) := by rw [h1, h2, h3]

theorem parse_any (s : ByteArray) (p : Int) (hs : s.size ≤ 140737488355328) (w : World) :
    Calls Tryd.prog 8 #[.string s, .int .i64 p] w fun e w' => e = .returned (.tuple #[.int .i64 (parN s.data.toList p), .int .i64 (parE s.data.toList p), .int .i64 (parA s.data.toList p)]) ∧ w' = w := by
  by_cases hpl : plB p = true
  · have hb : 0 ≤ p ∧ p ≤ 9 := by unfold plB at hpl; exact of_decide_eq_true hpl
    obtain ⟨q, rfl⟩ : ∃ q : Nat, p = q := ⟨p.toNat, by omega⟩
    have hq : q ≤ 9 := by omega
    obtain ⟨d, ed⟩ : ∃ d, d = formA s.data.toList q := ⟨_, rfl⟩
    have HD : Hid (d = formA s.data.toList q) := ed
    clear ed
    by_cases hf : formB s.data.toList q = true
    · have HF : Hid (true = formB s.data.toList q) := hf.symm
      by_cases hw : worthB s.data.toList q = true
      · obtain ⟨r1, r2, r3⟩ := par_ok (l := s.data.toList) hpl hf hw
        rw [r1, r2, r3]
        clear r1 r2 r3 hf
        go_enter Tryd.func8, Tryd.ntmps8
        go_wp2_with (first | (go_at_call 13; refine (places_any _ _).mono ?_; rintro e w1 ⟨rfl, rfl⟩) | (go_at_call 14; refine (formOf_any s q hs hq d true HD HF _).mono ?_; rintro e w1 ⟨rfl, rfl⟩) | (go_at_call 15; refine (worthOf_any s q hs hq _).mono ?_; rintro e w1 ⟨rfl, rfl⟩))
        go_ret3
        exact ⟨ret3 (by first | rfl | omega) (by first | rfl | omega) (by first | rfl | omega | (rw [HD.out]; rfl)), rfl⟩
      · have hw : worthB s.data.toList q = false := by simpa using hw
        obtain ⟨r1, r2, r3⟩ := par_range (l := s.data.toList) hpl hf hw
        rw [r1, r2, r3]
        clear r1 r2 r3 hf
        go_enter Tryd.func8, Tryd.ntmps8
        go_wp2_with (first | (go_at_call 13; refine (places_any _ _).mono ?_; rintro e w1 ⟨rfl, rfl⟩) | (go_at_call 14; refine (formOf_any s q hs hq d true HD HF _).mono ?_; rintro e w1 ⟨rfl, rfl⟩) | (go_at_call 15; refine (worthOf_any s q hs hq _).mono ?_; rintro e w1 ⟨rfl, rfl⟩))
        go_ret3
        exact ⟨ret3 (by first | rfl | omega) (by first | rfl | omega) (by first | rfl | omega | (rw [HD.out]; rfl)), rfl⟩
    · have hf : formB s.data.toList q = false := by simpa using hf
      have HF : Hid (false = formB s.data.toList q) := hf.symm
      obtain ⟨r1, r2, r3⟩ := par_form (l := s.data.toList) hpl hf
      rw [r1, r2, r3]
      clear r1 r2 r3 hf
      go_enter Tryd.func8, Tryd.ntmps8
      go_wp2_with (first | (go_at_call 13; refine (places_any _ _).mono ?_; rintro e w1 ⟨rfl, rfl⟩) | (go_at_call 14; refine (formOf_any s q hs hq d false HD HF _).mono ?_; rintro e w1 ⟨rfl, rfl⟩) | (go_at_call 15; refine (worthOf_any s q hs hq _).mono ?_; rintro e w1 ⟨rfl, rfl⟩))
      go_ret3
      exact ⟨ret3 (by first | rfl | omega) (by first | rfl | omega) (by first | rfl | omega | (rw [HD.out]; rfl)), rfl⟩
  · have hpl : plB p = false := by simpa using hpl
    obtain ⟨r1, r2, r3⟩ := par_arg (l := s.data.toList) hpl
    rw [r1, r2, r3]
    clear r1 r2 r3
    go_enter Tryd.func8, Tryd.ntmps8
    go_wp2_with (go_at_call 13; refine (places_any _ _).mono ?_; rintro e w1 ⟨rfl, rfl⟩)
    go_ret3
    exact ⟨rfl, rfl⟩
end Go.Proofs.YtkbadigpagijjaaDoor
