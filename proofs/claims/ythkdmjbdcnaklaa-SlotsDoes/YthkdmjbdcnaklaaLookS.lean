/-
  Walks of an arena's calls that only look: hasRow, hasThing, Get, First, Next, Len, Free.
-/
import Derived.Test.YthkdmjbdcnaklaaArs
import Derived.Test.YthkdmjbdcnaklaaLookI
namespace Go.Proofs.Ythkdmjbdcnaklaa
open Go.RowKit

abbrev encS (x : ByteArray) : Value := .string x
abbrev ArS (w : World) (p : Pl) (s : St ByteArray) : Prop := Ar 67 70 encS w p s
theorem tysS : Tys 67 70 := ⟨by decide, by decide, by decide, by decide, by decide⟩

theorem hasRowS {p : Pl} {s : St ByteArray} {w : World} (h : ArS w p s) (n : Int) :
    Calls Try.prog 28 #[.pointer (some ⟨p.A, 0, none⟩), .int .i64 n] w fun e w' => e = .returned (.bool (rowN s n)) ∧ w' = w := by
  have h0 := h.c0
  by_cases a : 0 ≤ n
  · by_cases b : n < s.nr
    · have hh : rowN s n = true := (rowN_iff s n).2 ⟨a, b⟩
      go_enter Try.func28, Try.ntmps28
      go_wp2_with fail
      go_ret
      exact ⟨by first | rfl | (rw [hh]; rfl), rfl⟩
    · have hh : rowN s n = false := by simp [rowN, b]
      go_enter Try.func28, Try.ntmps28
      go_wp2_with fail
      go_ret
      exact ⟨by first | rfl | (rw [hh]; rfl), rfl⟩
  · have hh : rowN s n = false := by simp [rowN, a]
    go_enter Try.func28, Try.ntmps28
    go_wp2_with fail
    go_ret
    exact ⟨by first | rfl | (rw [hh]; rfl), rfl⟩

theorem hasThingS {p : Pl} {s : St ByteArray} {w : World} (h : ArS w p s) (n : Int) :
    Calls Try.prog 44 #[.pointer (some ⟨p.A, 0, none⟩), .int .i64 n] w fun e w' => e = .returned (.bool (hasN s n)) ∧ w' = w := by
  have h2 := h.c2
  by_cases a : 0 ≤ n
  · by_cases b : n < s.nc
    · obtain ⟨m, rfl⟩ : ∃ m : Nat, n = m := ⟨n.toNat, by omega⟩
      obtain ⟨g, hg⟩ := h.at (by omega)
      rw [hg] at h2
      have h3 := h.rw hg (i := m) (by omega)
      by_cases c : s.rw m = -1
      · have hh : hasN s m = false := by simp [hasN, c]
        go_enter Try.func44, Try.ntmps44
        go_wp2_with fail
        go_ret
        exact ⟨by first | rfl | (rw [hh]; rfl), rfl⟩
      · have hh : hasN s m = true := (hasN_iff s m).2 ⟨a, b, by simpa using c⟩
        have c2 : (s.rw m != -1) = true := bne_iff_ne.2 c
        go_enter Try.func44, Try.ntmps44
        go_wp2_with fail
        go_ret
        exact ⟨by first | rfl | (rw [hh]; rfl), rfl⟩
    · have hh : hasN s n = false := by simp [hasN, b]
      go_enter Try.func44, Try.ntmps44
      go_wp2_with fail
      go_ret
      exact ⟨by first | rfl | (rw [hh]; rfl), rfl⟩
  · have hh : hasN s n = false := by simp [hasN, a]
    go_enter Try.func44, Try.ntmps44
    go_wp2_with fail
    go_ret
    exact ⟨by first | rfl | (rw [hh]; rfl), rfl⟩

def getS (s : St ByteArray) (n : Int) : ByteArray := if hasN s n = true then s.th n.toNat else (⟨#[]⟩ : ByteArray)

theorem getS_any {p : Pl} {s : St ByteArray} {w : World} (h : ArS w p s) (n : Int) :
    Calls Try.prog 12 #[.pointer (some ⟨p.A, 0, none⟩), .int .i64 n] w fun e w' => e = .returned (.tuple #[encS (getS s n), .bool (hasN s n)]) ∧ w' = w := by
  have h2 := h.c2
  by_cases a : hasN s n = true
  · have hv : getS s n = s.th n.toNat := if_pos a
    obtain ⟨a1, a2, a3⟩ := (hasN_iff s n).1 a
    obtain ⟨m, rfl⟩ : ∃ m : Nat, n = m := ⟨n.toNat, by omega⟩
    obtain ⟨g, hg⟩ := h.at (by omega)
    rw [hg] at h2
    have h3 := h.th hg (i := m) (by omega)
    go_enter Try.func12, Try.ntmps12
    go_wp2_with fail
    refine (hasThingS h _).mono ?_
    rintro e w1 ⟨rfl, rfl⟩
    go_wp2_with fail
    go_ret2
    exact ⟨by first | rfl | (rw [hv, a]; rfl), rfl⟩
  · have a' : hasN s n = false := by simpa using a
    have hv : getS s n = (⟨#[]⟩ : ByteArray) := if_neg a
    go_enter Try.func12, Try.ntmps12
    go_wp2_with fail
    refine (hasThingS h _).mono ?_
    rintro e w1 ⟨rfl, rfl⟩
    go_wp2_with fail
    go_ret2
    exact ⟨by first | rfl | (rw [hv, a']; rfl), rfl⟩



theorem firstS {p : Pl} {s : St ByteArray} {w : World} (h : ArS w p s) (n : Int) :
    Calls Try.prog 27 #[.pointer (some ⟨p.A, 0, none⟩), .int .i64 n] w fun e w' => e = .returned (.int .i64 (firstN s n)) ∧ w' = w := by
  have h0 := h.c0
  by_cases a : rowN s n = true
  · have hv : firstN s n = s.fi n.toNat := if_pos a
    obtain ⟨a1, a2⟩ := (rowN_iff s n).1 a
    obtain ⟨m, rfl⟩ : ∃ m : Nat, n = m := ⟨n.toNat, by omega⟩
    have h3 := h.fi (i := m) (by omega)
    go_enter Try.func27, Try.ntmps27
    go_wp2_with fail
    refine (hasRowS h _).mono ?_
    rintro e w1 ⟨rfl, rfl⟩
    go_wp2_with fail
    go_ret
    exact ⟨by first | rfl | (rw [hv]; rfl), rfl⟩
  · have a' : rowN s n = false := by simpa using a
    have hv : firstN s n = -1 := if_neg a
    go_enter Try.func27, Try.ntmps27
    go_wp2_with fail
    refine (hasRowS h _).mono ?_
    rintro e w1 ⟨rfl, rfl⟩
    go_wp2_with fail
    go_ret
    exact ⟨by first | rfl | (rw [hv]; rfl), rfl⟩

theorem lenS {p : Pl} {s : St ByteArray} {w : World} (h : ArS w p s) (n : Int) :
    Calls Try.prog 13 #[.pointer (some ⟨p.A, 0, none⟩), .int .i64 n] w fun e w' => e = .returned (.int .i64 (lenN s n)) ∧ w' = w := by
  have h0 := h.c0
  by_cases a : rowN s n = true
  · have hv : lenN s n = s.co n.toNat := if_pos a
    obtain ⟨a1, a2⟩ := (rowN_iff s n).1 a
    obtain ⟨m, rfl⟩ : ∃ m : Nat, n = m := ⟨n.toNat, by omega⟩
    have h3 := h.co (i := m) (by omega)
    go_enter Try.func13, Try.ntmps13
    go_wp2_with fail
    refine (hasRowS h _).mono ?_
    rintro e w1 ⟨rfl, rfl⟩
    go_wp2_with fail
    go_ret
    exact ⟨by first | rfl | (rw [hv]; rfl), rfl⟩
  · have a' : rowN s n = false := by simpa using a
    have hv : lenN s n = 0 := if_neg a
    go_enter Try.func13, Try.ntmps13
    go_wp2_with fail
    refine (hasRowS h _).mono ?_
    rintro e w1 ⟨rfl, rfl⟩
    go_wp2_with fail
    go_ret
    exact ⟨by first | rfl | (rw [hv]; rfl), rfl⟩

theorem nextS {p : Pl} {s : St ByteArray} {w : World} (h : ArS w p s) (n : Int) :
    Calls Try.prog 25 #[.pointer (some ⟨p.A, 0, none⟩), .int .i64 n] w fun e w' => e = .returned (.int .i64 (nextN s n)) ∧ w' = w := by
  have h2 := h.c2
  by_cases a : hasN s n = true
  · have hv : nextN s n = s.nx n.toNat := if_pos a
    obtain ⟨a1, a2, a3⟩ := (hasN_iff s n).1 a
    obtain ⟨m, rfl⟩ : ∃ m : Nat, n = m := ⟨n.toNat, by omega⟩
    obtain ⟨g, hg⟩ := h.at (by omega)
    rw [hg] at h2
    have h3 := h.nx hg (i := m) (by omega)
    go_enter Try.func25, Try.ntmps25
    go_wp2_with fail
    refine (hasThingS h _).mono ?_
    rintro e w1 ⟨rfl, rfl⟩
    go_wp2_with fail
    go_ret
    exact ⟨by first | rfl | (rw [hv]; rfl), rfl⟩
  · have a' : hasN s n = false := by simpa using a
    have hv : nextN s n = -1 := if_neg a
    go_enter Try.func25, Try.ntmps25
    go_wp2_with fail
    refine (hasThingS h _).mono ?_
    rintro e w1 ⟨rfl, rfl⟩
    go_wp2_with fail
    go_ret
    exact ⟨by first | rfl | (rw [hv]; rfl), rfl⟩

theorem freeS {p : Pl} {s : St ByteArray} {w : World} (h : ArS w p s) (hr : 0 ≤ s.room ∧ s.room ≤ 65536) (hc : s.nc ≤ 65536) (hf : s.nf ≤ 65536) :
    Calls Try.prog 29 #[.pointer (some ⟨p.A, 0, none⟩)] w fun e w' => e = .returned (.int .i64 (s.room - s.nc + s.nf)) ∧ Mv w w' (fun _ => False) := by
  have h1 := h.c1
  have h2 := h.c2
  have h3 := h.c3
  go_enter Try.func29, Try.ntmps29
  go_wp2_with fail
  go_quiet (fail)
  go_wp2_with fail
  go_ret
  exact ⟨rfl, mv_drewN _ _ _⟩

end Go.Proofs.Ythkdmjbdcnaklaa
