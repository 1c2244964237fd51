/-
  The program's small functions for numbers: typed, worth, isPadded, isGlued; and what they come to together.
-/
import Derived.Test.YtighocmdlifheaaDoorPa
namespace Go.Proofs.YtighocmdlifheaaDoor
open Go.RowKit

/-- What digits come to, as long as it stays within 64 bits. -/
def wv : List UInt8 → Nat → Option Nat
  | [], n => some n
  | c :: l, n => if 10 * n + (c.toNat - 48) > 9223372036854775807 then none else wv l (10 * n + (c.toNat - 48))
theorem nmS_mono : ∀ (l : List UInt8) (n k n' k' : Nat), nmS l n k = some (n', k') → n ≤ n' ∧ k' = k + lead digB l
  | [], n, k, n', k', h => by
    simp only [nmS, Option.some.injEq, Prod.mk.injEq] at h
    obtain ⟨rfl, rfl⟩ := h
    exact ⟨Nat.le_refl _, rfl⟩
  | c :: l, n, k, n', k', h => by
    unfold nmS at h
    unfold lead
    by_cases hg : digB c = true
    · rw [if_pos hg] at h ⊢
      by_cases hn : n > 922337203685477580
      · rw [if_pos hn] at h; exact absurd h (by simp)
      · rw [if_neg hn] at h
        have := nmS_mono l _ _ _ _ h
        exact ⟨by omega, by omega⟩
    · rw [if_neg hg] at h ⊢
      simp only [Option.some.injEq, Prod.mk.injEq] at h
      obtain ⟨rfl, rfl⟩ := h
      exact ⟨Nat.le_refl _, rfl⟩
theorem wv_nmS : ∀ (l : List UInt8) (n k : Nat), n ≤ 9223372036854775807 →
    wv (l.take (lead digB l)) n = (match nmS l n k with | none => none | some (n', _) => if n' > 9223372036854775807 then none else some n')
  | [], n, k, h => by simp only [nmS, lead, List.take_zero, wv]; rw [if_neg (by omega)]
  | c :: l, n, k, h => by
    unfold lead nmS
    by_cases hg : digB c = true
    · rw [if_pos hg, if_pos hg, List.take_succ_cons]
      have hdc : 48 ≤ c.toNat ∧ c.toNat ≤ 57 := by unfold digB at hg; exact of_decide_eq_true hg
      unfold wv
      by_cases ho : 10 * n + (c.toNat - 48) > 9223372036854775807
      · rw [if_pos ho]
        by_cases hn : n > 922337203685477580
        · rw [if_pos hn]
        · rw [if_neg hn]
          cases hm : nmS l (10 * n + (c.toNat - 48)) (k + 1) with
          | none => rfl
          | some q =>
            obtain ⟨n', k'⟩ := q
            have := (nmS_mono _ _ _ _ _ hm).1
            simp only
            rw [if_pos (by omega)]
      · rw [if_neg ho, if_neg (by omega)]
        exact wv_nmS l _ _ (by omega)
    · rw [if_neg hg, if_neg hg]
      simp only [List.take_zero, wv]
      rw [if_neg (by omega)]
theorem lead_all {p : UInt8 → Bool} : ∀ (l : List UInt8) (c : UInt8), c ∈ l.take (lead p l) → p c = true
  | [], c, h => by simp at h
  | x :: l, c, h => by
    unfold lead at h
    by_cases hx : p x = true
    · rw [if_pos hx, List.take_succ_cons, List.mem_cons] at h
      rcases h with rfl | h
      · exact hx
      · exact lead_all l c h
    · rw [if_neg hx] at h; simp at h
/-- A number at a place, by the program's parts. -/
theorem nbO_parts (s : ByteArray) (a d e : Nat) (hd : d = a + lead digB (rest s a)) (he : e = if nbTy (rest s d) = 1 then d else d + 1) :
    nbO s a = (match wv ((rest s a).take (lead digB (rest s a))) 0 with | none => none | some n => if (d - a > 1 ∧ hd0 (rest s a) = true) then none else if badH (rest s e) = true then none else some (n, e, nbTy (rest s d))) := by
  rw [wv_nmS (rest s a) 0 0 (by omega)]
  cases hm : nmS (rest s a) 0 0 with
  | none => unfold nbO; rw [hm]
  | some q =>
    obtain ⟨n, k⟩ := q
    obtain ⟨_, hk⟩ := nmS_mono _ _ _ _ _ hm
    have hk2 : d - a = k := by omega
    rw [nbO_of (i := d) (by rw [hm, hk2]) (by omega), ← he]
    simp only
    by_cases hb : n > 9223372036854775807
    · simp [hb]
    · simp only [hb, false_or, if_false]

set_option maxHeartbeats 2000000 in
theorem typed_any (s : ByteArray) (a : Nat) (hs : s.size ≤ 140737488355328) (ha : a ≤ s.size) (w : World) :
    Calls Tryd.prog 95 #[.string s, .int .i64 a] w fun e w' => e = .returned (.tuple #[.int .u8 (nbTy (rest s a)), .int .i64 ((if nbTy (rest s a) = 1 then a else a + 1 : Nat) : Int)]) ∧ w' = w := by
  by_cases hlt : a < s.size
  · have hne : ((a : Int) == (s.size : Int)) = false := beq_false_of_ne (by omega)
    have hlt' : (a : Int) < (s.size : Int) := by omega
    have hr := rest_at s a hlt
    obtain ⟨c, hc⟩ : ∃ c, s[a] = c := ⟨_, rfl⟩
    rw [hc] at hr
    rw [hr]
    have K : nbTy (c :: rest s (a + 1)) = if c.toNat = 113 then 2 else if c.toNat = 112 then 3 else if c.toNat = 116 then 4 else 1 := rfl
    rw [K]
    clear K hr
    by_cases kt : c.toNat = 116
    · have xt : ((c.toNat : Int) == 116) = true := by rw [kt]; rfl
      rw [if_neg (by omega), if_neg (by omega), if_pos kt, if_neg (by decide)]
      go_enter Tryd.func95, Tryd.ntmps95
      go_wp2_with fail
      exact bodyPost_ret (by simp [results]) rfl ⟨rfl, rfl⟩
    · have xt : ((c.toNat : Int) == 116) = false := beq_false_of_ne (by omega)
      by_cases kp : c.toNat = 112
      · have xp : ((c.toNat : Int) == 112) = true := by rw [kp]; rfl
        rw [if_neg (by omega), if_pos kp, if_neg (by decide)]
        go_enter Tryd.func95, Tryd.ntmps95
        go_wp2_with fail
        exact bodyPost_ret (by simp [results]) rfl ⟨rfl, rfl⟩
      · have xp : ((c.toNat : Int) == 112) = false := beq_false_of_ne (by omega)
        by_cases kq : c.toNat = 113
        · have xq : ((c.toNat : Int) == 113) = true := by rw [kq]; rfl
          rw [if_pos kq, if_neg (by decide)]
          go_enter Tryd.func95, Tryd.ntmps95
          go_wp2_with fail
          exact bodyPost_ret (by simp [results]) rfl ⟨rfl, rfl⟩
        · have xq : ((c.toNat : Int) == 113) = false := beq_false_of_ne (by omega)
          rw [if_neg kq, if_neg kp, if_neg kt, if_pos rfl]
          go_enter Tryd.func95, Tryd.ntmps95
          go_wp2_with fail
          exact bodyPost_ret (by simp [results]) rfl ⟨rfl, rfl⟩
  · obtain rfl : a = s.size := by omega
    rw [rest_end s s.size (Nat.le_refl _)]
    show Calls Tryd.prog 95 #[.string s, .int .i64 s.size] w fun e w' => e = .returned (.tuple #[.int .u8 1, .int .i64 (s.size : Int)]) ∧ w' = w
    go_enter Tryd.func95, Tryd.ntmps95
    go_wp2_with fail
    exact bodyPost_ret (by simp [results]) rfl ⟨rfl, rfl⟩
end Go.Proofs.YtighocmdlifheaaDoor
