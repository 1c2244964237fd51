/-
  Texts and frames at a place: TakeText, Unframe of package wire, and the document's.
-/
import Derived.Test.YteedmmljahgpjaaGreatDoorM17
import Derived.Deep.RegionWith
namespace Go.Proofs.YteedmmljahgpjaaGreatDoor.W
open Go.RowKit

theorem ret3s {a b : ByteArray} {c d e f : Int} (h1 : a = b) (h2 : c = d) (h3 : e = f) : Ending.returned (.tuple #[.string a, .int .i64 c, .int .i64 e]) = .returned (.tuple #[.string b, .int .i64 d, .int .i64 f]) := by rw [h1, h2, h3]
theorem str_ne {a b : ByteArray} (h : ¬ a = b) : (a.toList == b.toList) = false := by
  rw [ByteArray.toList_eq, ByteArray.toList_eq]
  exact beq_false_of_ne (fun h' => h (ba_ext h'))
theorem below_dw {w w' : World} (h : Below w.drew.heap.size w.drew w') : Below w.heap.size w w' := ((Below.refl _ w).drew).trans h
theorem bytes_nil : bytes ([] : List UInt8) = ⟨#[]⟩ := rfl

set_option maxHeartbeats 1000000 in
theorem takeText_any (s : ByteArray) (a : Int) (hs : s.size ≤ 1099511627776) (w : World) :
    Calls Tryz.prog 108 #[.string s, .int .i64 a] w fun r w' => r = .returned (.tuple #[.string (bytes (textS s.data.toList a)), .int .i64 (textP s.data.toList a), .int .i64 (textE s.data.toList a : Nat)]) ∧ w' = w := by
  have cT := fun w => take_any s a hs w
  have hl := len_of s
  by_cases hE : takeE s.data.toList a = 0
  · obtain ⟨g1, g2, g3, g4, _, _⟩ := take_one hE
    rw [hE] at cT
    obtain ⟨n, en⟩ : ∃ n : Int, n = (takeN s.data.toList a : Nat) := ⟨_, rfl⟩
    obtain ⟨p, ep⟩ : ∃ p : Int, p = takeP s.data.toList a := ⟨_, rfl⟩
    rw [← en, ← ep] at cT
    have hn0 : 0 ≤ n := by omega
    have hn1 : n ≤ 18446744073709551615 := by omega
    have hp0 : 0 ≤ p := by omega
    have hp1 : p ≤ (s.size : Int) := by omega
    by_cases hL : 65536 < n
    · have hT : textE s.data.toList a = 31 := textE_long hE (by omega)
      rw [textS_no (by rw [hT]; decide), textP_no (by rw [hT]; decide), hT, bytes_nil]
      clear en ep hE g1 g2 g3 g4 hT
      go_enter Tryz.func108, Tryz.ntmps108
      go_wp2_with (go_at_call 132; refine (cT _).mono ?_; rintro e w1 ⟨rfl, rfl⟩)
      go_ret3
      exact ⟨rfl, rfl⟩
    · have hL' : n ≤ 65536 := by omega
      by_cases hS : (s.size : Int) < p + n
      · have hT : textE s.data.toList a = 30 := textE_short hE (by omega) (by omega)
        rw [textS_no (by rw [hT]; decide), textP_no (by rw [hT]; decide), hT, bytes_nil]
        have hS2 : (s.size : Int) - p < n := by omega
        clear en ep hE g1 g2 g3 g4 hT
        go_enter Tryz.func108, Tryz.ntmps108
        go_wp2_with (go_at_call 132; refine (cT _).mono ?_; rintro e w1 ⟨rfl, rfl⟩)
        go_ret3
        exact ⟨rfl, rfl⟩
      · have hT : textE s.data.toList a = 0 := textE_ok hE (by omega) (by omega)
        obtain ⟨P, eP⟩ : ∃ P : Nat, p = (P : Int) := ⟨p.toNat, by omega⟩
        obtain ⟨Q, eQ⟩ : ∃ Q : Nat, (P : Int) + n = (Q : Int) := ⟨(p + n).toNat, by omega⟩
        have hPQ : P ≤ Q := by omega
        have hQs : Q ≤ s.size := by omega
        have hS2 : ¬ (s.size : Int) - (P : Int) < n := by omega
        have HR : Hid (s.extract P Q = bytes (textS s.data.toList a)) := by
          show _ = _
          rw [textS_ok hT, ← list_bytes s, bytes_ext, bytes_list, ← ep, eP]
          congr 2
          omega
        have HP : Hid (textP s.data.toList a = (Q : Int)) := by show _ = _; rw [textP_ok hT, ← ep, ← en, ← eQ, eP]
        rw [hT]
        rw [eP] at cT
        clear en ep hE g1 g2 g3 g4 hT hp0 hp1 hS eP
        go_enter Tryz.func108, Tryz.ntmps108
        go_wp2_with (go_at_call 132; refine (cT _).mono ?_; rintro e w1 ⟨rfl, rfl⟩)
        go_ret3
        exact ⟨ret3s (by rw [← HR.out]) HP.out.symm rfl, rfl⟩
  · have hT := textE_take hE
    have hT0 : textE s.data.toList a ≠ 0 := by rw [hT]; exact hE
    rw [textS_no hT0, textP_no hT0, hT, bytes_nil]
    rw [takeN_no hE, takeP_no hE] at cT
    obtain ⟨e, ee⟩ : ∃ e : Int, e = (takeE s.data.toList a : Nat) := ⟨_, rfl⟩
    rw [← ee] at cT ⊢
    have he : ¬ e = 0 := by omega
    clear ee hT hT0 hE
    go_enter Tryz.func108, Tryz.ntmps108
    go_wp2_with (go_at_call 132; refine (cT _).mono ?_; rintro e w1 ⟨rfl, rfl⟩)
    go_ret3
    exact ⟨rfl, rfl⟩

set_option maxHeartbeats 1000000 in
theorem rtakeText_any (s : ByteArray) (a : Int) (hs : s.size ≤ 1099511627776) (w : World) :
    Calls Tryz.prog 44 #[.string s, .int .i64 a] w fun r w' => r = .returned (.tuple #[.string (bytes (textS s.data.toList a)), .int .i64 (textP s.data.toList a), .int .i64 (textE s.data.toList a : Nat)]) ∧ w' = w := by
  have cT := fun w => rtake_any s a hs w
  have hl := len_of s
  by_cases hE : takeE s.data.toList a = 0
  · obtain ⟨g1, g2, g3, g4, _, _⟩ := take_one hE
    rw [hE] at cT
    obtain ⟨n, en⟩ : ∃ n : Int, n = (takeN s.data.toList a : Nat) := ⟨_, rfl⟩
    obtain ⟨p, ep⟩ : ∃ p : Int, p = takeP s.data.toList a := ⟨_, rfl⟩
    rw [← en, ← ep] at cT
    have hn0 : 0 ≤ n := by omega
    have hn1 : n ≤ 18446744073709551615 := by omega
    have hp0 : 0 ≤ p := by omega
    have hp1 : p ≤ (s.size : Int) := by omega
    by_cases hL : 65536 < n
    · have hT : textE s.data.toList a = 31 := textE_long hE (by omega)
      rw [textS_no (by rw [hT]; decide), textP_no (by rw [hT]; decide), hT, bytes_nil]
      clear en ep hE g1 g2 g3 g4 hT
      go_enter Tryz.func44, Tryz.ntmps44
      go_wp2_with (go_at_call 86; refine (cT _).mono ?_; rintro e w1 ⟨rfl, rfl⟩)
      go_ret3
      exact ⟨rfl, rfl⟩
    · have hL' : n ≤ 65536 := by omega
      by_cases hS : (s.size : Int) < p + n
      · have hT : textE s.data.toList a = 30 := textE_short hE (by omega) (by omega)
        rw [textS_no (by rw [hT]; decide), textP_no (by rw [hT]; decide), hT, bytes_nil]
        have hS2 : (s.size : Int) - p < n := by omega
        clear en ep hE g1 g2 g3 g4 hT
        go_enter Tryz.func44, Tryz.ntmps44
        go_wp2_with (go_at_call 86; refine (cT _).mono ?_; rintro e w1 ⟨rfl, rfl⟩)
        go_ret3
        exact ⟨rfl, rfl⟩
      · have hT : textE s.data.toList a = 0 := textE_ok hE (by omega) (by omega)
        obtain ⟨P, eP⟩ : ∃ P : Nat, p = (P : Int) := ⟨p.toNat, by omega⟩
        obtain ⟨Q, eQ⟩ : ∃ Q : Nat, (P : Int) + n = (Q : Int) := ⟨(p + n).toNat, by omega⟩
        have hPQ : P ≤ Q := by omega
        have hQs : Q ≤ s.size := by omega
        have hS2 : ¬ (s.size : Int) - (P : Int) < n := by omega
        have HR : Hid (s.extract P Q = bytes (textS s.data.toList a)) := by
          show _ = _
          rw [textS_ok hT, ← list_bytes s, bytes_ext, bytes_list, ← ep, eP]
          congr 2
          omega
        have HP : Hid (textP s.data.toList a = (Q : Int)) := by show _ = _; rw [textP_ok hT, ← ep, ← en, ← eQ, eP]
        rw [hT]
        rw [eP] at cT
        clear en ep hE g1 g2 g3 g4 hT hp0 hp1 hS eP
        go_enter Tryz.func44, Tryz.ntmps44
        go_wp2_with (go_at_call 86; refine (cT _).mono ?_; rintro e w1 ⟨rfl, rfl⟩)
        go_ret3
        exact ⟨ret3s (by rw [← HR.out]) HP.out.symm rfl, rfl⟩
  · have hT := textE_take hE
    have hT0 : textE s.data.toList a ≠ 0 := by rw [hT]; exact hE
    rw [textS_no hT0, textP_no hT0, hT, bytes_nil]
    rw [takeN_no hE, takeP_no hE] at cT
    obtain ⟨e, ee⟩ : ∃ e : Int, e = (takeE s.data.toList a : Nat) := ⟨_, rfl⟩
    rw [← ee] at cT ⊢
    have he : ¬ e = 0 := by omega
    clear ee hT hT0 hE
    go_enter Tryz.func44, Tryz.ntmps44
    go_wp2_with (go_at_call 86; refine (cT _).mono ?_; rintro e w1 ⟨rfl, rfl⟩)
    go_ret3
    exact ⟨rfl, rfl⟩

set_option maxHeartbeats 1000000 in
theorem unframe_any (s : ByteArray) (a : Int) (hs : s.size ≤ 1099511627776) (w : World) :
    Calls Tryz.prog 84 #[.string s, .int .i64 a] w fun r w' => r = .returned (.tuple #[.string (bytes (unS s.data.toList a)), .int .i64 (unP s.data.toList a), .int .i64 (unE s.data.toList a : Nat)]) ∧ Below w.heap.size w w' := by
  have cT := fun w => takeText_any s a hs w
  have hl := len_of s
  by_cases hE : textE s.data.toList a = 0
  · obtain ⟨g1, g2, g3, g4, _⟩ := text_one hE
    rw [hE] at cT
    obtain ⟨T, eT⟩ : ∃ T, T = bytes (textS s.data.toList a) := ⟨_, rfl⟩
    obtain ⟨p, ep⟩ : ∃ p : Int, p = textP s.data.toList a := ⟨_, rfl⟩
    have hTl : T.data.toList = textS s.data.toList a := by rw [eT, bytes_list]
    have hTs : T.size ≤ 65536 := by rw [eT, bytes_size]; exact g4
    rw [← eT, ← ep] at cT
    obtain ⟨P, eP⟩ : ∃ P : Nat, p = (P : Int) := ⟨p.toNat, by omega⟩
    rw [eP] at cT
    have hp1 : P ≤ s.size := by omega
    by_cases hS : (s.size : Int) - (P : Int) < 4
    · have hU : unE s.data.toList a = 30 := unE_short hE (by omega)
      rw [unS_no (by rw [hU]; decide), unP_no (by rw [hU]; decide), hU, bytes_nil]
      clear eT ep hE g1 g2 g3 g4 hU hTl eP
      go_enter Tryz.func84, Tryz.ntmps84
      go_wp2_with (go_at_call 108; refine (cT _).mono ?_; rintro e w1 ⟨rfl, rfl⟩)
      go_ret3
      exact ⟨rfl, Below.refl _ _⟩
    · have hS' : ¬ (s.size : Int) - (P : Int) < 4 := hS
      obtain ⟨Q, eQ⟩ : ∃ Q : Nat, (P : Int) + 4 = (Q : Int) := ⟨P + 4, by omega⟩
      have hPQ : P ≤ Q := by omega
      have hS1 : Q ≤ s.size := by omega
      have hwQ : IntKind.i64.wrap (Q : Int) = (Q : Int) := by rw [IntKind.wrap_i64]; omega
      have cC := fun w => check_any T (by omega) w
      obtain ⟨K, eK⟩ : ∃ K, K = bytes (le4 (sumL T.data.toList)) := ⟨_, rfl⟩
      rw [← eK] at cC
      obtain ⟨X, eX⟩ : ∃ X, s.extract P Q = X := ⟨_, rfl⟩
      have hXl : X.data.toList = (s.data.toList.drop (textP s.data.toList a).toNat).take 4 := by
        rw [← eX, ← list_bytes s, bytes_ext, bytes_list, bytes_list, ← ep, eP]
        congr 1
        omega
      by_cases hX : X = K
      · have hU : unE s.data.toList a = 0 := unE_ok hE (by omega) (by rw [← hXl, hX, eK, bytes_list, hTl])
        have HP : Hid (unP s.data.toList a = (Q : Int)) := by show _ = _; rw [unP_ok hU, ← ep, eP, eQ]
        rw [unS_ok hU, hU, ← eT]
        clear eT ep hE g1 g2 g3 g4 hU hTl eK hXl eP
        subst hX
        go_enter Tryz.func84, Tryz.ntmps84
        go_wp2_with (go_at_call 108; refine (cT _).mono ?_; rintro e w1 ⟨rfl, rfl⟩)
        go_region_with (go_at_call 75; refine (cC _).mono ?_; rintro e w2 ⟨rfl, hb2⟩)
        all_goals
          go_wp2_with fail
          go_ret3
        all_goals exact ⟨ret3s rfl HP.out.symm rfl, below_dw hb2⟩
      · have hU : unE s.data.toList a = 32 := unE_sum hE (by omega) (by rw [← hXl, ← hTl]; intro h; exact hX (ba_ext (by rw [h, eK, bytes_list])))
        rw [unS_no (by rw [hU]; decide), unP_no (by rw [hU]; decide), hU, bytes_nil]
        have hne : (X.toList == K.toList) = false := str_ne hX
        clear eT ep hE g1 g2 g3 g4 hU hTl eK hXl eP
        go_enter Tryz.func84, Tryz.ntmps84
        go_wp2_with (go_at_call 108; refine (cT _).mono ?_; rintro e w1 ⟨rfl, rfl⟩)
        go_region_with (go_at_call 75; refine (cC _).mono ?_; rintro e w2 ⟨rfl, hb2⟩)
        all_goals
          go_wp2_with fail
          go_ret3
        all_goals exact ⟨rfl, below_dw hb2⟩
  · have hT := unE_text hE
    have hT0 : unE s.data.toList a ≠ 0 := by rw [hT]; exact hE
    rw [unS_no hT0, unP_no hT0, hT, bytes_nil]
    rw [textS_no hE, textP_no hE, bytes_nil] at cT
    obtain ⟨e, ee⟩ : ∃ e : Int, e = (textE s.data.toList a : Nat) := ⟨_, rfl⟩
    rw [← ee] at cT ⊢
    have he : ¬ e = 0 := by omega
    clear ee hT hT0 hE
    go_enter Tryz.func84, Tryz.ntmps84
    go_wp2_with (go_at_call 108; refine (cT _).mono ?_; rintro e w1 ⟨rfl, rfl⟩)
    go_ret3
    exact ⟨rfl, Below.refl _ _⟩

set_option maxHeartbeats 1000000 in
theorem runframe_any (s : ByteArray) (a : Int) (hs : s.size ≤ 1099511627776) (w : World) :
    Calls Tryz.prog 43 #[.string s, .int .i64 a] w fun r w' => r = .returned (.tuple #[.string (bytes (unS s.data.toList a)), .int .i64 (unP s.data.toList a), .int .i64 (unE s.data.toList a : Nat)]) ∧ Below w.heap.size w w' := by
  have cT := fun w => rtakeText_any s a hs w
  have hl := len_of s
  by_cases hE : textE s.data.toList a = 0
  · obtain ⟨g1, g2, g3, g4, _⟩ := text_one hE
    rw [hE] at cT
    obtain ⟨T, eT⟩ : ∃ T, T = bytes (textS s.data.toList a) := ⟨_, rfl⟩
    obtain ⟨p, ep⟩ : ∃ p : Int, p = textP s.data.toList a := ⟨_, rfl⟩
    have hTl : T.data.toList = textS s.data.toList a := by rw [eT, bytes_list]
    have hTs : T.size ≤ 65536 := by rw [eT, bytes_size]; exact g4
    rw [← eT, ← ep] at cT
    obtain ⟨P, eP⟩ : ∃ P : Nat, p = (P : Int) := ⟨p.toNat, by omega⟩
    rw [eP] at cT
    have hp1 : P ≤ s.size := by omega
    by_cases hS : (s.size : Int) - (P : Int) < 4
    · have hU : unE s.data.toList a = 30 := unE_short hE (by omega)
      rw [unS_no (by rw [hU]; decide), unP_no (by rw [hU]; decide), hU, bytes_nil]
      clear eT ep hE g1 g2 g3 g4 hU hTl eP
      go_enter Tryz.func43, Tryz.ntmps43
      go_wp2_with (go_at_call 44; refine (cT _).mono ?_; rintro e w1 ⟨rfl, rfl⟩)
      go_ret3
      exact ⟨rfl, Below.refl _ _⟩
    · have hS' : ¬ (s.size : Int) - (P : Int) < 4 := hS
      obtain ⟨Q, eQ⟩ : ∃ Q : Nat, (P : Int) + 4 = (Q : Int) := ⟨P + 4, by omega⟩
      have hPQ : P ≤ Q := by omega
      have hS1 : Q ≤ s.size := by omega
      have hwQ : IntKind.i64.wrap (Q : Int) = (Q : Int) := by rw [IntKind.wrap_i64]; omega
      have cC := fun w => tail_any T (by omega) w
      obtain ⟨K, eK⟩ : ∃ K, K = bytes (le4 (sumL T.data.toList)) := ⟨_, rfl⟩
      rw [← eK] at cC
      obtain ⟨X, eX⟩ : ∃ X, s.extract P Q = X := ⟨_, rfl⟩
      have hXl : X.data.toList = (s.data.toList.drop (textP s.data.toList a).toNat).take 4 := by
        rw [← eX, ← list_bytes s, bytes_ext, bytes_list, bytes_list, ← ep, eP]
        congr 1
        omega
      by_cases hX : X = K
      · have hU : unE s.data.toList a = 0 := unE_ok hE (by omega) (by rw [← hXl, hX, eK, bytes_list, hTl])
        have HP : Hid (unP s.data.toList a = (Q : Int)) := by show _ = _; rw [unP_ok hU, ← ep, eP, eQ]
        rw [unS_ok hU, hU, ← eT]
        clear eT ep hE g1 g2 g3 g4 hU hTl eK hXl eP
        subst hX
        go_enter Tryz.func43, Tryz.ntmps43
        go_wp2_with (go_at_call 44; refine (cT _).mono ?_; rintro e w1 ⟨rfl, rfl⟩)
        go_region_with (go_at_call 83; refine (cC _).mono ?_; rintro e w2 ⟨rfl, hb2⟩)
        all_goals
          go_wp2_with fail
          go_ret3
        all_goals exact ⟨ret3s rfl HP.out.symm rfl, below_dw hb2⟩
      · have hU : unE s.data.toList a = 32 := unE_sum hE (by omega) (by rw [← hXl, ← hTl]; intro h; exact hX (ba_ext (by rw [h, eK, bytes_list])))
        rw [unS_no (by rw [hU]; decide), unP_no (by rw [hU]; decide), hU, bytes_nil]
        have hne : (X.toList == K.toList) = false := str_ne hX
        clear eT ep hE g1 g2 g3 g4 hU hTl eK hXl eP
        go_enter Tryz.func43, Tryz.ntmps43
        go_wp2_with (go_at_call 44; refine (cT _).mono ?_; rintro e w1 ⟨rfl, rfl⟩)
        go_region_with (go_at_call 83; refine (cC _).mono ?_; rintro e w2 ⟨rfl, hb2⟩)
        all_goals
          go_wp2_with fail
          go_ret3
        all_goals exact ⟨rfl, below_dw hb2⟩
  · have hT := unE_text hE
    have hT0 : unE s.data.toList a ≠ 0 := by rw [hT]; exact hE
    rw [unS_no hT0, unP_no hT0, hT, bytes_nil]
    rw [textS_no hE, textP_no hE, bytes_nil] at cT
    obtain ⟨e, ee⟩ : ∃ e : Int, e = (textE s.data.toList a : Nat) := ⟨_, rfl⟩
    rw [← ee] at cT ⊢
    have he : ¬ e = 0 := by omega
    clear ee hT hT0 hE
    go_enter Tryz.func43, Tryz.ntmps43
    go_wp2_with (go_at_call 44; refine (cT _).mono ?_; rintro e w1 ⟨rfl, rfl⟩)
    go_ret3
    exact ⟨rfl, Below.refl _ _⟩
end Go.Proofs.YteedmmljahgpjaaGreatDoor.W
