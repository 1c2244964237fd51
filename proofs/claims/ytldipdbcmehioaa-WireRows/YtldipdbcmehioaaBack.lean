/-
  The walk of the statement WireBack.
-/
import Derived.Test.YtldipdbcmehioaaOne
namespace Go.Proofs.Ytldipdbcmehioaa
open Go.RowKit

theorem app_list (a b : ByteArray) : (a ++ b).data.toList = a.data.toList ++ b.data.toList := by simp
theorem app_size (a b : ByteArray) : (a ++ b).size = a.size + b.size := by rw [← len_of, app_list, List.length_append, len_of, len_of]

set_option maxRecDepth 100000 in
set_option maxHeartbeats 2000000 in
theorem back_any (b s t : ByteArray) (n m : Int) (n0 : 0 ≤ n) (n1 : n ≤ 18446744073709551615) (m0 : -9223372036854775808 ≤ m) (m1 : m ≤ 9223372036854775807)
    (hb : b.size ≤ 140737488355328) (hs : s.size ≤ 140737488355328) (ht : t.size ≤ 140737488355328) (w : World) :
    Calls Try.prog 5 #[.string b, .int .u64 n, .string s, .int .i64 m, .string t] w fun e w' => e = .returned (.bool true) ∧ Below w.heap.size w w' := by
  have cW := works_any w
  by_cases hbig : (b.size : Int) + (s.size : Int) + (t.size : Int) ≤ 33554431
  · have hbig' : ¬ 33554431 < (b.size : Int) + (s.size : Int) + (t.size : Int) := by omega
    have hbl := len_of b
    have hsl := len_of s
    obtain ⟨X, eX⟩ : ∃ X, X = bytes (b.data.toList ++ put1 n.toNat) := ⟨_, rfl⟩
    obtain ⟨XT, eXT⟩ : ∃ XT, X ++ t = XT := ⟨_, rfl⟩
    have hten := put1_ten (n := n.toNat) (by omega)
    have hXs : X.size = b.size + (put1 n.toNat).length := by rw [eX, bytes_size, List.length_append, hbl]
    have hXTs : XT.size ≤ 33554500 := by rw [← eXT, app_size]; omega
    have c1 : ∀ w, Calls Try.prog 11 #[.string b, .slice (some ⟨w.heap.size, 0, none⟩) 1 1] (w.alloc (.cells #[.int .u64 n] 29)) fun e w' => e = .returned (.string X) ∧ Below w.heap.size w w' := fun w => by
      rw [eX]
      exact (put_one b n n0 n1 (by omega) w).mono (fun e w' h => ⟨h.1, below_one h.2⟩)
    have c2 : ∀ w, Calls Try.prog 26 #[.string XT, .int .i64 (b.size : Nat)] w fun e w' => e = .returned (.tuple #[.int .u64 n, .int .i64 (X.size : Nat), .int .i64 0]) ∧ w' = w := fun w => by
      have := take_any XT (b.size : Nat) (by omega) w
      have e : XT.data.toList = b.data.toList ++ put1 n.toNat ++ t.data.toList := by rw [← eXT, app_list, eX, bytes_list]
      obtain ⟨p1, p2, p3⟩ := take_put b.data.toList t.data.toList n.toNat (by omega)
      rw [hbl] at p1 p2 p3
      rw [e, p1, p2, p3, List.length_append, hbl, ← hXs, show ((n.toNat : Nat) : Int) = n by omega] at this
      exact this
    have z1 := zagN_bd n n0 n1
    have z2 := zigN_bd m m0 m1
    have c3 : ∀ w, Calls Try.prog 20 #[.int .i64 m] w fun e w' => e = .returned (.int .u64 (zigN m)) ∧ w' = w := fun w => zig_any m m0 m1 w
    have c4 : ∀ w, Calls Try.prog 16 #[.int .u64 (zigN m)] w fun e w' => e = .returned (.int .i64 m) ∧ w' = w := fun w => by
      have := zag_any (zigN m) z2.1 z2.2 w
      rw [zag_zig] at this
      exact this
    have c5 : ∀ w, Calls Try.prog 16 #[.int .u64 n] w fun e w' => e = .returned (.int .i64 (zagN n)) ∧ w' = w := fun w => zag_any n n0 n1 w
    have c6 : ∀ w, Calls Try.prog 20 #[.int .i64 (zagN n)] w fun e w' => e = .returned (.int .u64 n) ∧ w' = w := fun w => by
      have := zig_any (zagN n) z1.1 z1.2 w
      rw [zig_zag n n0] at this
      exact this
    generalize zigN m = Z at c3 c4 z2
    generalize zagN n = Y at c5 c6 z1
    have hXs2 : X.size ≤ 33554441 := by omega
    by_cases hL : 65536 < s.size
    · have hL' : (65536 : Int) < (s.size : Int) := by omega
      have c7 : ∀ w, Calls Try.prog 24 #[.string s] w fun e w' => e = .returned (.tuple #[.string ⟨#[]⟩, .int .i64 31]) ∧ Below w.heap.size w w' := fun w => by
        have := frame_any s w
        have e1 : frS s.data.toList = [] := by unfold frS; rw [if_pos (by omega)]
        have e2 : frE s.data.toList = 31 := by unfold frE; rw [if_pos (by omega)]
        rw [e1, e2] at this
        exact this
      clear eX hXs hten hbl hsl
      go_enter Try.func5, Try.ntmps5
      go_wp2_with fail
      refine cW.mono ?_
      rintro e w1 ⟨rfl, hb1⟩
      go_wp2_with fail
      refine (c1 _).mono ?_
      rintro e w2 ⟨rfl, hb2⟩
      go_wp2_with fail
      refine (c2 _).mono ?_
      rintro e w3 ⟨rfl, rfl⟩
      go_wp2_with fail
      refine (c3 _).mono ?_
      rintro e w3 ⟨rfl, rfl⟩
      go_wp2_with fail
      refine (c4 _).mono ?_
      rintro e w3 ⟨rfl, rfl⟩
      go_wp2_with fail
      refine (c5 _).mono ?_
      rintro e w3 ⟨rfl, rfl⟩
      go_wp2_with fail
      refine (c6 _).mono ?_
      rintro e w3 ⟨rfl, rfl⟩
      go_wp2_with fail
      refine (c7 _).mono ?_
      rintro e w4 ⟨rfl, hb4⟩
      go_wp2_with fail
      go_ret
      exact ⟨rfl, below2 (below2 hb1 hb2) hb4⟩
    · have hL' : ¬ (65536 : Int) < (s.size : Int) := by omega
      obtain ⟨Q, eQ⟩ : ∃ Q, Q = bytes (b.data.toList ++ text1 s.data.toList) := ⟨_, rfl⟩
      obtain ⟨QT, eQT⟩ : ∃ QT, Q ++ t = QT := ⟨_, rfl⟩
      obtain ⟨F, eF⟩ : ∃ F, F = bytes (frameL s.data.toList) := ⟨_, rfl⟩
      obtain ⟨BF, eBF⟩ : ∃ BF, b ++ F = BF := ⟨_, rfl⟩
      obtain ⟨BT, eBT⟩ : ∃ BT, BF ++ t = BT := ⟨_, rfl⟩
      have htx := text1_size s.data.toList (by omega)
      have hQs : Q.size = b.size + (text1 s.data.toList).length := by rw [eQ, bytes_size, List.length_append, hbl]
      have hFs : F.size = (text1 s.data.toList).length + 4 := by rw [eF, bytes_size]; unfold frameL; rw [List.length_append]; rfl
      have hBFs : BF.size = b.size + F.size := by rw [← eBF, app_size]
      have hQTs : QT.size ≤ 33654500 := by rw [← eQT, app_size]; omega
      have hBTs : BT.size ≤ 33654500 := by rw [← eBT, app_size]; omega
      have c7 : ∀ w, Calls Try.prog 18 #[.string b, .string s] w fun e w' => e = .returned (.string Q) ∧ Below w.heap.size w w' := fun w => by rw [eQ]; exact putText_any b s (by omega) (by omega) w
      have c8 : ∀ w, Calls Try.prog 28 #[.string QT, .int .i64 (b.size : Nat)] w fun e w' => e = .returned (.tuple #[.string s, .int .i64 (Q.size : Nat), .int .i64 0]) ∧ w' = w := fun w => by
        have := takeText_any QT (b.size : Nat) (by omega) w
        have e : QT.data.toList = b.data.toList ++ text1 s.data.toList ++ t.data.toList := by rw [← eQT, app_list, eQ, bytes_list]
        obtain ⟨p1, p2, p3⟩ := text_put b.data.toList s.data.toList t.data.toList (by omega)
        rw [hbl] at p1 p2 p3
        rw [e, p1, p2, p3, List.length_append, hbl, ← hQs, list_bytes] at this
        exact this
      have c9 : ∀ w, Calls Try.prog 24 #[.string s] w fun e w' => e = .returned (.tuple #[.string F, .int .i64 0]) ∧ Below w.heap.size w w' := fun w => by rw [eF]; exact frame_ok s (by omega) w
      have c10 : ∀ w, Calls Try.prog 30 #[.string BT, .int .i64 (b.size : Nat)] w fun e w' => e = .returned (.tuple #[.string s, .int .i64 ((b.size : Int) + (F.size : Int)), .int .i64 0]) ∧ Below w.heap.size w w' := fun w => by
        have := unframe_any BT (b.size : Nat) (by omega) w
        have e : BT.data.toList = b.data.toList ++ frameL s.data.toList ++ t.data.toList := by rw [← eBT, app_list, ← eBF, app_list, eF, bytes_list]
        obtain ⟨p1, p2, p3⟩ := un_put b.data.toList s.data.toList t.data.toList (by omega)
        have hfl : (frameL s.data.toList).length = F.size := by rw [eF, bytes_size]
        rw [hbl] at p1 p2 p3
        rw [e, p1, p2, p3, List.length_append, hbl, hfl, list_bytes, Int.natCast_add] at this
        exact this
      have hQ2 : Q.size ≤ 33654500 := by omega
      have hF2 : F.size ≤ 65560 := by omega
      have hBF2 : BF.size ≤ 33654500 := by omega
      clear eX hXs hten hbl hsl eQ eF hQs hFs hBFs htx
      go_enter Try.func5, Try.ntmps5
      go_wp2_with fail
      refine cW.mono ?_
      rintro e w1 ⟨rfl, hb1⟩
      go_wp2_with fail
      refine (c1 _).mono ?_
      rintro e w2 ⟨rfl, hb2⟩
      go_wp2_with fail
      refine (c2 _).mono ?_
      rintro e w3 ⟨rfl, rfl⟩
      go_wp2_with fail
      refine (c3 _).mono ?_
      rintro e w3 ⟨rfl, rfl⟩
      go_wp2_with fail
      refine (c4 _).mono ?_
      rintro e w3 ⟨rfl, rfl⟩
      go_wp2_with fail
      refine (c5 _).mono ?_
      rintro e w3 ⟨rfl, rfl⟩
      go_wp2_with fail
      refine (c6 _).mono ?_
      rintro e w3 ⟨rfl, rfl⟩
      go_wp2_with fail
      refine (c7 _).mono ?_
      rintro e w4 ⟨rfl, hb4⟩
      go_wp2_with fail
      refine (c8 _).mono ?_
      rintro e w5 ⟨rfl, rfl⟩
      go_wp2_with fail
      refine (c9 _).mono ?_
      rintro e w6 ⟨rfl, hb6⟩
      go_wp2_with fail
      refine (c10 _).mono ?_
      rintro e w7 ⟨rfl, hb7⟩
      go_wp2_with fail
      go_ret
      exact ⟨rfl, below2 (below2 (below2 (below2 hb1 hb2) hb4) hb6) hb7⟩
  · have hbig' : 33554431 < (b.size : Int) + (s.size : Int) + (t.size : Int) := by omega
    go_enter Try.func5, Try.ntmps5
    go_wp2_with fail
    refine cW.mono ?_
    rintro e w1 ⟨rfl, hb1⟩
    go_wp2_with fail
    go_ret
    exact ⟨rfl, hb1⟩
end Go.Proofs.Ytldipdbcmehioaa
