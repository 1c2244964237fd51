/-
  The walk of the statement WireOne.
-/
import Derived.Test.YtldipdbcmehioaaWorks
namespace Go.Proofs.Ytldipdbcmehioaa
open Go.RowKit

/-- One number written by itself. -/
theorem put_alone (x : Int) (h0 : 0 ≤ x) (h1 : x ≤ 18446744073709551615) (w : World) :
    Calls Try.prog 11 #[.string ⟨#[]⟩, .slice (some ⟨w.heap.size, 0, none⟩) 1 1] (w.alloc (.cells #[.int .u64 x] 29)) fun e w' => e = .returned (.string (bytes (put1 x.toNat))) ∧ Below w.heap.size w w' :=
  (put_one ⟨#[]⟩ x h0 h1 (by decide) w).mono (fun e w' h => ⟨h.1, below_one h.2⟩)
theorem text_alone (t : ByteArray) (ht : t.size ≤ 65536) (w : World) :
    Calls Try.prog 18 #[.string ⟨#[]⟩, .string t] w fun e w' => e = .returned (.string (bytes (text1 t.data.toList))) ∧ Below w.heap.size w w' :=
  (putText_any ⟨#[]⟩ t (by decide) (by omega) w).mono (fun e w' h => h)
theorem frame_ok (t : ByteArray) (ht : t.size ≤ 65536) (w : World) :
    Calls Try.prog 24 #[.string t] w fun e w' => e = .returned (.tuple #[.string (bytes (frameL t.data.toList)), .int .i64 0]) ∧ Below w.heap.size w w' := by
  have h := frame_any t w
  have hl := len_of t
  have e1 : frS t.data.toList = frameL t.data.toList := by unfold frS; rw [if_neg (by omega)]
  have e2 : frE t.data.toList = 0 := by unfold frE; rw [if_neg (by omega)]
  rw [e1, e2] at h
  exact h

/-- A piece of a text. -/
theorem piece (s : ByteArray) (A P : Nat) : s.extract A P = bytes ((s.data.toList.drop A).take (P - A)) := by
  rw [← list_bytes s, bytes_ext, bytes_list]

/-- What the three calls read at a place, and what is written again. -/
theorem one_take {s : ByteArray} {a : Int} (h : takeE s.data.toList a = 0) :
    ∃ A P : Nat, a = (A : Int) ∧ takeP s.data.toList a = (P : Int) ∧ A < P ∧ P ≤ s.size ∧ takeN s.data.toList a < 18446744073709551616 ∧
      s.extract A P = bytes (put1 (takeN s.data.toList a)) ∧ (((put1 (takeN s.data.toList a)).length : Nat) : Int) = (P : Int) - (A : Int) := by
  obtain ⟨g1, g2, g3, g4, g5, g6⟩ := take_one h
  have hl := len_of s
  refine ⟨a.toNat, (takeP s.data.toList a).toNat, by omega, by omega, by omega, by omega, g4, ?_, by omega⟩
  rw [piece, g5]
theorem one_text {s : ByteArray} {a : Int} (h : textE s.data.toList a = 0) :
    ∃ A P : Nat, a = (A : Int) ∧ textP s.data.toList a = (P : Int) ∧ A < P ∧ P ≤ s.size ∧ (textS s.data.toList a).length ≤ 65536 ∧
      s.extract A P = bytes (text1 (textS s.data.toList a)) := by
  obtain ⟨g1, g2, g3, g4, g5⟩ := text_one h
  have hl := len_of s
  refine ⟨a.toNat, (textP s.data.toList a).toNat, by omega, by omega, by omega, by omega, g4, ?_⟩
  rw [piece, g5]
theorem one_un {s : ByteArray} {a : Int} (h : unE s.data.toList a = 0) :
    ∃ A P : Nat, a = (A : Int) ∧ unP s.data.toList a = (P : Int) ∧ A < P ∧ P ≤ s.size ∧ (unS s.data.toList a).length ≤ 65536 ∧
      s.extract A P = bytes (frameL (unS s.data.toList a)) := by
  obtain ⟨g1, g2, g3, g4, g5⟩ := un_one h
  have hl := len_of s
  refine ⟨a.toNat, (unP s.data.toList a).toNat, by omega, by omega, by omega, by omega, g4, ?_⟩
  rw [piece, g5]

/-- The three ways that Take, TakeText, Unframe go here, in the walk's words. -/
def OkT (s : ByteArray) (a : Int) (n p : Int) : Prop := ∃ A P : Nat, ∃ X : ByteArray, ∃ k : Int, a = (A : Int) ∧ p = (P : Int) ∧ A < P ∧ P ≤ s.size ∧ 0 ≤ n ∧ n ≤ 18446744073709551615 ∧ s.extract A P = X ∧ (P : Int) - (A : Int) = k ∧
  (∀ w, Calls Try.prog 11 #[.string ⟨#[]⟩, .slice (some ⟨w.heap.size, 0, none⟩) 1 1] (w.alloc (.cells #[.int .u64 n] 29)) fun e w' => e = .returned (.string X) ∧ Below w.heap.size w w') ∧
  (∀ w, Calls Try.prog 14 #[.int .u64 n] w fun e w' => e = .returned (.int .i64 k) ∧ w' = w)
theorem okT {s : ByteArray} {a : Int} (h : takeE s.data.toList a = 0) : OkT s a (takeN s.data.toList a : Nat) (takeP s.data.toList a) := by
  obtain ⟨A, P, e1, e2, h1, h2, h3, h4, h5⟩ := one_take h
  refine ⟨A, P, _, _, e1, e2, h1, h2, by omega, by omega, rfl, rfl, fun w => ?_, fun w => ?_⟩
  · have := put_alone (takeN s.data.toList a : Nat) (by omega) (by omega) w
    rw [Int.toNat_natCast, ← h4] at this
    exact this
  · exact size_any _ (by omega) (by omega) _ (by show _ = _; rw [Int.toNat_natCast, h5]) w
def OkX (s : ByteArray) (a : Int) (t : ByteArray) (p : Int) : Prop := ∃ A P : Nat, ∃ X : ByteArray, a = (A : Int) ∧ p = (P : Int) ∧ A < P ∧ P ≤ s.size ∧ s.extract A P = X ∧
  (∀ w, Calls Try.prog 18 #[.string ⟨#[]⟩, .string t] w fun e w' => e = .returned (.string X) ∧ Below w.heap.size w w')
theorem okX {s : ByteArray} {a : Int} (h : textE s.data.toList a = 0) : OkX s a (bytes (textS s.data.toList a)) (textP s.data.toList a) := by
  obtain ⟨A, P, e1, e2, h1, h2, h3, h4⟩ := one_text h
  refine ⟨A, P, _, e1, e2, h1, h2, rfl, fun w => ?_⟩
  have := text_alone (bytes (textS s.data.toList a)) (by rw [bytes_size]; exact h3) w
  rw [bytes_list, ← h4] at this
  exact this
def OkU (s : ByteArray) (a : Int) (t : ByteArray) (p : Int) : Prop := ∃ A P : Nat, ∃ X : ByteArray, a = (A : Int) ∧ p = (P : Int) ∧ A < P ∧ P ≤ s.size ∧ s.extract A P = X ∧
  (∀ w, Calls Try.prog 24 #[.string t] w fun e w' => e = .returned (.tuple #[.string X, .int .i64 0]) ∧ Below w.heap.size w w')
theorem okU {s : ByteArray} {a : Int} (h : unE s.data.toList a = 0) : OkU s a (bytes (unS s.data.toList a)) (unP s.data.toList a) := by
  obtain ⟨A, P, e1, e2, h1, h2, h3, h4⟩ := one_un h
  refine ⟨A, P, _, e1, e2, h1, h2, rfl, fun w => ?_⟩
  have := frame_ok (bytes (unS s.data.toList a)) (by rw [bytes_size]; exact h3) w
  rw [bytes_list, ← h4] at this
  exact this
theorem take_of_text {l : List UInt8} {a : Int} (h : textE l a = 0) : takeE l a = 0 := (textE_parts h).1
theorem text_of_un {l : List UInt8} {a : Int} (h : unE l a = 0) : textE l a = 0 := (unE_parts h).1

set_option maxRecDepth 100000 in
set_option maxHeartbeats 2000000 in
theorem one_any (s : ByteArray) (a : Int) (w : World) :
    Calls Try.prog 6 #[.string s, .int .i64 a] w fun e w' => e = .returned (.bool true) ∧ Below w.heap.size w w' := by
  have cW := works_any w
  by_cases hbig : (s.size : Int) ≤ 33554431
  · have hs : s.size ≤ 1099511627776 := by omega
    have hbig' : ¬ 33554431 < (s.size : Int) := by omega
    have c1 := fun w => take_any s a hs w
    have c3 := fun w => takeText_any s a hs w
    have c5 := fun w => unframe_any s a hs w
    have k1 := @okT s a
    have k2 := @okX s a
    have k3 := @okU s a
    have i1 := @take_of_text s.data.toList a
    have i2 := @text_of_un s.data.toList a
    generalize ((takeN s.data.toList a : Nat) : Int) = n1 at c1 k1
    generalize takeP s.data.toList a = p1 at c1 k1
    generalize bytes (textS s.data.toList a) = n2 at c3 k2
    generalize textP s.data.toList a = p2 at c3 k2
    generalize bytes (unS s.data.toList a) = n3 at c5 k3
    generalize unP s.data.toList a = p3 at c5 k3
    generalize takeE s.data.toList a = e1 at c1 k1 i1
    generalize textE s.data.toList a = e2 at c3 k2 i1 i2
    generalize unE s.data.toList a = e3 at c5 k3 i2
    by_cases h1 : e1 = 0
    · subst h1
      obtain ⟨A, P1, X1, k, rfl, rfl, hA1, hP1, n0, nM, hX1, hk, cP, cS⟩ := k1 rfl
      have hx1 : A ≤ P1 := by omega
      have hd : decide ((P1 : Int) ≤ (A : Int)) = false := decide_eq_false (by omega)
      have hd1 : ¬ (P1 : Int) ≤ (A : Int) := by omega
      have hd2 : ¬ (s.size : Int) < (P1 : Int) := by omega
      have hA0 : ¬ (A : Int) < 0 := by omega
      clear k1 i1
      by_cases h2 : e2 = 0
      · subst h2
        obtain ⟨A', P2, X2, hAA, rfl, hA2, hP2, hX2, cX⟩ := k2 rfl
        obtain rfl : A' = A := by omega
        have hx2 : A' ≤ P2 := by omega
        have he1 : ¬ (P2 : Int) ≤ (A' : Int) := by omega
        have he2 : ¬ (s.size : Int) < (P2 : Int) := by omega
        clear k2 hAA
        by_cases h3 : e3 = 0
        · subst h3
          obtain ⟨A, P3, X3, hAA, rfl, hA3, hP3, hX3, cU⟩ := k3 rfl
          obtain rfl : A = A' := by omega
          have hx3 : A ≤ P3 := by omega
          have hf1 : ¬ (P3 : Int) ≤ (A : Int) := by omega
          have hf2 : ¬ (s.size : Int) < (P3 : Int) := by omega
          clear k3 i2 hAA
          go_enter Try.func6, Try.ntmps6
          go_wp2_with fail
          refine cW.mono ?_
          rintro e w1 ⟨rfl, hb1⟩
          go_wp2_with fail
          refine (c1 _).mono ?_
          rintro e w2 ⟨rfl, rfl⟩
          go_wp2_with fail
          refine (cP _).mono ?_
          rintro e w3 ⟨rfl, hb3⟩
          go_wp2_with fail
          refine (cS _).mono ?_
          rintro e w4 ⟨rfl, rfl⟩
          go_wp2_with fail
          refine (c3 _).mono ?_
          rintro e w4 ⟨rfl, rfl⟩
          go_wp2_with fail
          refine (cX _).mono ?_
          rintro e w5 ⟨rfl, hb5⟩
          go_wp2_with fail
          refine (c5 _).mono ?_
          rintro e w6 ⟨rfl, hb6⟩
          go_wp2_with fail
          refine (cU _).mono ?_
          rintro e w7 ⟨rfl, hb7⟩
          go_wp2_with fail
          go_ret
          exact ⟨rfl, below2 (below2 (below2 (below2 hb1 hb3) hb5) hb6) hb7⟩
        · have h3' : ¬ (e3 : Int) = 0 := by omega
          clear k3 i2 h3
          go_enter Try.func6, Try.ntmps6
          go_wp2_with fail
          refine cW.mono ?_
          rintro e w1 ⟨rfl, hb1⟩
          go_wp2_with fail
          refine (c1 _).mono ?_
          rintro e w2 ⟨rfl, rfl⟩
          go_wp2_with fail
          refine (cP _).mono ?_
          rintro e w3 ⟨rfl, hb3⟩
          go_wp2_with fail
          refine (cS _).mono ?_
          rintro e w4 ⟨rfl, rfl⟩
          go_wp2_with fail
          refine (c3 _).mono ?_
          rintro e w4 ⟨rfl, rfl⟩
          go_wp2_with fail
          refine (cX _).mono ?_
          rintro e w5 ⟨rfl, hb5⟩
          go_wp2_with fail
          refine (c5 _).mono ?_
          rintro e w6 ⟨rfl, hb6⟩
          go_wp2_with fail
          go_ret
          exact ⟨rfl, below2 (below2 (below2 hb1 hb3) hb5) hb6⟩
      · have h2' : ¬ (e2 : Int) = 0 := by omega
        have h3 : ¬ e3 = 0 := fun h => h2 (i2 h)
        have h3' : ¬ (e3 : Int) = 0 := by omega
        clear k2 k3 i2 h2 h3
        go_enter Try.func6, Try.ntmps6
        go_wp2_with fail
        refine cW.mono ?_
        rintro e w1 ⟨rfl, hb1⟩
        go_wp2_with fail
        refine (c1 _).mono ?_
        rintro e w2 ⟨rfl, rfl⟩
        go_wp2_with fail
        refine (cP _).mono ?_
        rintro e w3 ⟨rfl, hb3⟩
        go_wp2_with fail
        refine (cS _).mono ?_
        rintro e w4 ⟨rfl, rfl⟩
        go_wp2_with fail
        refine (c3 _).mono ?_
        rintro e w4 ⟨rfl, rfl⟩
        go_wp2_with fail
        refine (c5 _).mono ?_
        rintro e w6 ⟨rfl, hb6⟩
        go_wp2_with fail
        go_ret
        exact ⟨rfl, below2 (below2 hb1 hb3) hb6⟩
    · have h2 : ¬ e2 = 0 := fun h => h1 (i1 h)
      have h3 : ¬ e3 = 0 := fun h => h2 (i2 h)
      have h1' : ¬ (e1 : Int) = 0 := by omega
      have h2' : ¬ (e2 : Int) = 0 := by omega
      have h3' : ¬ (e3 : Int) = 0 := by omega
      clear k1 k2 k3 i1 i2 h1 h2 h3
      go_enter Try.func6, Try.ntmps6
      go_wp2_with fail
      refine cW.mono ?_
      rintro e w1 ⟨rfl, hb1⟩
      go_wp2_with fail
      refine (c1 _).mono ?_
      rintro e w2 ⟨rfl, rfl⟩
      go_wp2_with fail
      refine (c3 _).mono ?_
      rintro e w4 ⟨rfl, rfl⟩
      go_wp2_with fail
      refine (c5 _).mono ?_
      rintro e w6 ⟨rfl, hb6⟩
      go_wp2_with fail
      go_ret
      exact ⟨rfl, below2 hb1 hb6⟩
  · have hbig' : 33554431 < (s.size : Int) := by omega
    go_enter Try.func6, Try.ntmps6
    go_wp2_with fail
    refine cW.mono ?_
    rintro e w1 ⟨rfl, hb1⟩
    go_wp2_with fail
    go_ret
    exact ⟨rfl, hb1⟩
end Go.Proofs.Ytldipdbcmehioaa
