import Derived.Test.YteedmmljahgpjabDoorM4
import Derived.Deep.RegionWith
/-
  The check as it is written: wire's checkOf, the document's tail.
-/
namespace Go.Proofs.YteedmmljahgpjabDoor.W
open Go.RowKit

/-- Four bytes as a text. -/
theorem conv4 (x0 x1 x2 x3 : Int) (c0 c1 c2 c3 : UInt8) (h0 : x0 = c0.toNat) (h1 : x1 = c1.toNat) (h2 : x2 = c2.toNat) (h3 : x3 = c3.toNat) (t : TypeId) (w : World) :
    (convert 32 9 (.slice (some ⟨w.heap.size, 0, none⟩) 4 4)).run Tryd.prog (w.alloc (.cells #[.int .u8 x0, .int .u8 x1, .int .u8 x2, .int .u8 x3] t)) = .ok (.string ⟨#[c0, c1, c2, c3]⟩) (w.alloc (.cells #[.int .u8 x0, .int .u8 x1, .int .u8 x2, .int .u8 x3] t)) := by
  have := run_convert_bytes_back (P := Tryd.prog) (w.alloc (.cells #[.int .u8 x0, .int .u8 x1, .int .u8 x2, .int .u8 x3] t)) 32 9 5 ⟨w.heap.size, 0, none⟩ 4 [c0, c1, c2, c3] Tryd.underlying32 Tryd.underlying5 Tryd.underlying9 (fun j hj => by
    rw [Addr.add_lit, Nat.zero_add, World.cell?_alloc_mark, h0, h1, h2, h3]
    match j, hj with
    | 0, _ => rfl
    | 1, _ => rfl
    | 2, _ => rfl
    | 3, _ => rfl)
  exact this
theorem conv_le4 (C : Nat) (D : Int) (hC : C < 4294967296) (hD : D = (C : Int)) (t : TypeId) (w : World) :
    (convert 32 9 (.slice (some ⟨w.heap.size, 0, none⟩) 4 4)).run Tryd.prog (w.alloc (.cells #[.int .u8 (D % 256), .int .u8 (D / 256 % 256), .int .u8 (D / 65536 % 256), .int .u8 (D / 16777216)] t)) =
      .ok (.string (bytes (le4 C))) (w.alloc (.cells #[.int .u8 (D % 256), .int .u8 (D / 256 % 256), .int .u8 (D / 65536 % 256), .int .u8 (D / 16777216)] t)) :=
  conv4 _ _ _ _ (UInt8.ofNat (C % 256)) (UInt8.ofNat (C / 256 % 256)) (UInt8.ofNat (C / 65536 % 256)) (UInt8.ofNat (C / 16777216 % 256))
    (by rw [ofNat_small (by omega)]; omega) (by rw [ofNat_small (by omega)]; omega) (by rw [ofNat_small (by omega)]; omega) (by rw [ofNat_small (by omega)]; omega) t w
set_option maxRecDepth 100000 in
set_option maxHeartbeats 1000000 in
theorem check_any (s : ByteArray) (hs : s.size ≤ 140737488355328) (w : World) :
    Calls Tryd.prog 24 #[.string s] w fun e w' => e = .returned (.string (bytes (le4 (sumL s.data.toList)))) ∧ Below w.heap.size w w' := by
  obtain ⟨C, eC⟩ : ∃ C, C = sumL s.data.toList := ⟨_, rfl⟩
  have hC : C < 4294967296 := by rw [eC]; exact sumL_lt _
  have cS := fun w => sum_any s hs w
  rw [← eC] at cS ⊢
  obtain ⟨D, eD⟩ : ∃ D : Int, D = (C : Int) := ⟨_, rfl⟩
  have hD0 : 0 ≤ D := by omega
  have hD1 : D < 4294967296 := by omega
  rw [← eD] at cS
  have hconv := conv_le4 C D hC eD 99 w
  obtain ⟨T, eT⟩ : ∃ T, T = bytes (le4 C) := ⟨_, rfl⟩
  rw [← eT] at hconv ⊢
  clear eC eD eT hC
  go_enter Tryd.func24, Tryd.ntmps24
  go_wp2_with (go_at_call 39; refine (cS _).mono ?_; rintro e w1 ⟨rfl, rfl⟩)
  refine wp_loop_rounds 5 ?_
  rw [rounds_succ]
  go_wp2_with fail
  rw [rounds_succ]
  go_wp2_with fail
  rw [rounds_succ]
  go_wp2_with fail
  rw [rounds_succ]
  go_wp2_with fail
  rw [rounds_succ]
  go_wp2_with fail
  go_ret
  exact ⟨rfl, (Below.refl _ _).alloc (Nat.le_refl _) _⟩
theorem below2 {w w1 w2 : World} (h1 : Below w.heap.size w w1) (h2 : Below w1.heap.size w1 w2) : Below w.heap.size w w2 := h1.trans (h2.mono h1.size)
theorem below_d {w w1 : World} (h1 : Below w.heap.size w w1) (n : Nat) : Below w.heap.size w (w1.drewN n) := h1.trans ⟨rfl, rfl, rfl, Nat.le_refl _, fun _ _ => rfl⟩
theorem ret2s {a b : ByteArray} {c d : Int} (h : a = b) (h' : c = d) : Ending.returned (.tuple #[.string a, .int .i64 c]) = .returned (.tuple #[.string b, .int .i64 d]) := by rw [h, h']
/-! ### Frames written -/
def frE (s : List UInt8) : Nat := if 65536 < s.length then 31 else 0
def frS (s : List UInt8) : List UInt8 := if 65536 < s.length then [] else frameL s
theorem le4_size (C : Nat) : (bytes (le4 C)).size = 4 := rfl
theorem text1_size (l : List UInt8) (h : l.length ≤ 549755813888) : (text1 l).length ≤ l.length + 10 := by
  unfold text1
  rw [List.length_append]
  have := put1_ten (n := l.length) (by omega)
  omega
set_option maxHeartbeats 400000 in
theorem frame_any (s : ByteArray) (w : World) :
    Calls Tryd.prog 14 #[.string s] w fun e w' => e = .returned (.tuple #[.string (bytes (frS s.data.toList)), .int .i64 (frE s.data.toList : Nat)]) ∧ Below w.heap.size w w' := by
  have hl := len_of s
  by_cases hb : 65536 < s.size
  · have hb' : (65536 : Int) < (s.size : Int) := by omega
    have e1 : frS s.data.toList = [] := by unfold frS; rw [if_pos (by omega)]
    have e2 : frE s.data.toList = 31 := by unfold frE; rw [if_pos (by omega)]
    rw [e1, e2]
    go_enter Tryd.func14, Tryd.ntmps14
    go_wp2_with fail
    go_ret2
    exact ⟨rfl, Below.refl _ _⟩
  · have hb' : ¬ (65536 : Int) < (s.size : Int) := by omega
    have e2 : frE s.data.toList = 0 := by unfold frE; rw [if_neg (by omega)]
    have c1 := fun w => putText_any ⟨#[]⟩ s (by decide) (by omega) w
    have c2 := fun w => check_any s (by omega) w
    obtain ⟨P, eP⟩ : ∃ P, P = bytes (([] : List UInt8) ++ text1 s.data.toList) := ⟨_, rfl⟩
    obtain ⟨K, eK⟩ : ∃ K, K = bytes (le4 (sumL s.data.toList)) := ⟨_, rfl⟩
    have hPs : P.size ≤ 65546 := by
      rw [eP, bytes_size, List.nil_append]
      have := text1_size s.data.toList (by omega)
      omega
    have hKs : K.size = 4 := by rw [eK]; rfl
    have HR : Hid (P ++ K = bytes (frS s.data.toList)) := by
      show _ = _
      unfold frS
      rw [if_neg (by omega), eP, eK, bytes_app, List.nil_append]
      rfl
    rw [← eK] at c2
    have c1' : ∀ w, Calls Tryd.prog 23 #[.string ⟨#[]⟩, .string s] w fun e w' => e = .returned (.string P) ∧ Below w.heap.size w w' := fun w => by rw [eP]; exact c1 w
    clear c1 eP eK
    rw [e2]
    go_enter Tryd.func14, Tryd.ntmps14
    go_wp2_with (first | (go_at_call 23; refine (c1' _).mono ?_; rintro e w1 ⟨rfl, hb1⟩) | (go_at_call 24; refine (c2 _).mono ?_; rintro e w2 ⟨rfl, hb2⟩))
    go_ret2
    exact ⟨ret2s HR.out rfl, below2 hb1 hb2⟩
end Go.Proofs.YteedmmljahgpjabDoor.W

/-
  Texts and frames at a place: TakeText, Unframe of package wire, and the document's.
-/
namespace Go.Proofs.YteedmmljahgpjabDoor.W
open Go.RowKit

theorem ret3s {a b : ByteArray} {c d e f : Int} (h1 : a = b) (h2 : c = d) (h3 : e = f) : Ending.returned (.tuple #[.string a, .int .i64 c, .int .i64 e]) = .returned (.tuple #[.string b, .int .i64 d, .int .i64 f]) := by rw [h1, h2, h3]
theorem str_ne {a b : ByteArray} (h : ¬ a = b) : (a.toList == b.toList) = false := by
  rw [ByteArray.toList_eq, ByteArray.toList_eq]
  exact beq_false_of_ne (fun h' => h (ba_ext h'))
theorem below_dw {w w' : World} (h : Below w.drew.heap.size w.drew w') : Below w.heap.size w w' := ((Below.refl _ w).drew).trans h
theorem bytes_nil : bytes ([] : List UInt8) = ⟨#[]⟩ := rfl
set_option maxHeartbeats 1000000 in
theorem takeText_any (s : ByteArray) (a : Int) (hs : s.size ≤ 1099511627776) (w : World) :
    Calls Tryd.prog 42 #[.string s, .int .i64 a] w fun r w' => r = .returned (.tuple #[.string (bytes (textS s.data.toList a)), .int .i64 (textP s.data.toList a), .int .i64 (textE s.data.toList a : Nat)]) ∧ w' = w := by
  have cT := fun w => take_any s a hs w
  have hl := len_of s
  by_cases hE : takeE s.data.toList a = 0
  · obtain ⟨g1, g2, g3, g4, _, _⟩ := take_one hE
    rw [hE] at cT
    obtain ⟨n, en⟩ : ∃ n : Int, n = (takeN s.data.toList a : Nat) := ⟨_, rfl⟩
    obtain ⟨p, ep⟩ : ∃ p : Int, p = takeP s.data.toList a := ⟨_, rfl⟩
    rw [← en, ← ep] at cT
    have hn0 : 0 ≤ n := by omega
    have hn1 : n ≤ 18446744073709551615 := by omega
    have hp0 : 0 ≤ p := by omega
    have hp1 : p ≤ (s.size : Int) := by omega
    by_cases hL : 65536 < n
    · have hT : textE s.data.toList a = 31 := textE_long hE (by omega)
      rw [textS_no (by rw [hT]; decide), textP_no (by rw [hT]; decide), hT, bytes_nil]
      clear en ep hE g1 g2 g3 g4 hT
      go_enter Tryd.func42, Tryd.ntmps42
      go_wp2_with (go_at_call 58; refine (cT _).mono ?_; rintro e w1 ⟨rfl, rfl⟩)
      go_ret3
      exact ⟨rfl, rfl⟩
    · have hL' : n ≤ 65536 := by omega
      by_cases hS : (s.size : Int) < p + n
      · have hT : textE s.data.toList a = 30 := textE_short hE (by omega) (by omega)
        rw [textS_no (by rw [hT]; decide), textP_no (by rw [hT]; decide), hT, bytes_nil]
        have hS2 : (s.size : Int) - p < n := by omega
        clear en ep hE g1 g2 g3 g4 hT
        go_enter Tryd.func42, Tryd.ntmps42
        go_wp2_with (go_at_call 58; refine (cT _).mono ?_; rintro e w1 ⟨rfl, rfl⟩)
        go_ret3
        exact ⟨rfl, rfl⟩
      · have hT : textE s.data.toList a = 0 := textE_ok hE (by omega) (by omega)
        obtain ⟨P, eP⟩ : ∃ P : Nat, p = (P : Int) := ⟨p.toNat, by omega⟩
        obtain ⟨Q, eQ⟩ : ∃ Q : Nat, (P : Int) + n = (Q : Int) := ⟨(p + n).toNat, by omega⟩
        have hPQ : P ≤ Q := by omega
        have hQs : Q ≤ s.size := by omega
        have hS2 : ¬ (s.size : Int) - (P : Int) < n := by omega
        have HR : Hid (s.extract P Q = bytes (textS s.data.toList a)) := by
          show _ = _
          rw [textS_ok hT, ← list_bytes s, bytes_ext, bytes_list, ← ep, eP]
          congr 2
          omega
        have HP : Hid (textP s.data.toList a = (Q : Int)) := by show _ = _; rw [textP_ok hT, ← ep, ← en, ← eQ, eP]
        rw [hT]
        rw [eP] at cT
        clear en ep hE g1 g2 g3 g4 hT hp0 hp1 hS eP
        go_enter Tryd.func42, Tryd.ntmps42
        go_wp2_with (go_at_call 58; refine (cT _).mono ?_; rintro e w1 ⟨rfl, rfl⟩)
        go_ret3
        exact ⟨ret3s (by rw [← HR.out]) HP.out.symm rfl, rfl⟩
  · have hT := textE_take hE
    have hT0 : textE s.data.toList a ≠ 0 := by rw [hT]; exact hE
    rw [textS_no hT0, textP_no hT0, hT, bytes_nil]
    rw [takeN_no hE, takeP_no hE] at cT
    obtain ⟨e, ee⟩ : ∃ e : Int, e = (takeE s.data.toList a : Nat) := ⟨_, rfl⟩
    rw [← ee] at cT ⊢
    have he : ¬ e = 0 := by omega
    clear ee hT hT0 hE
    go_enter Tryd.func42, Tryd.ntmps42
    go_wp2_with (go_at_call 58; refine (cT _).mono ?_; rintro e w1 ⟨rfl, rfl⟩)
    go_ret3
    exact ⟨rfl, rfl⟩
set_option maxHeartbeats 1000000 in
theorem unframe_any (s : ByteArray) (a : Int) (hs : s.size ≤ 1099511627776) (w : World) :
    Calls Tryd.prog 29 #[.string s, .int .i64 a] w fun r w' => r = .returned (.tuple #[.string (bytes (unS s.data.toList a)), .int .i64 (unP s.data.toList a), .int .i64 (unE s.data.toList a : Nat)]) ∧ Below w.heap.size w w' := by
  have cT := fun w => takeText_any s a hs w
  have hl := len_of s
  by_cases hE : textE s.data.toList a = 0
  · obtain ⟨g1, g2, g3, g4, _⟩ := text_one hE
    rw [hE] at cT
    obtain ⟨T, eT⟩ : ∃ T, T = bytes (textS s.data.toList a) := ⟨_, rfl⟩
    obtain ⟨p, ep⟩ : ∃ p : Int, p = textP s.data.toList a := ⟨_, rfl⟩
    have hTl : T.data.toList = textS s.data.toList a := by rw [eT, bytes_list]
    have hTs : T.size ≤ 65536 := by rw [eT, bytes_size]; exact g4
    rw [← eT, ← ep] at cT
    obtain ⟨P, eP⟩ : ∃ P : Nat, p = (P : Int) := ⟨p.toNat, by omega⟩
    rw [eP] at cT
    have hp1 : P ≤ s.size := by omega
    by_cases hS : (s.size : Int) - (P : Int) < 4
    · have hU : unE s.data.toList a = 30 := unE_short hE (by omega)
      rw [unS_no (by rw [hU]; decide), unP_no (by rw [hU]; decide), hU, bytes_nil]
      clear eT ep hE g1 g2 g3 g4 hU hTl eP
      go_enter Tryd.func29, Tryd.ntmps29
      go_wp2_with (go_at_call 42; refine (cT _).mono ?_; rintro e w1 ⟨rfl, rfl⟩)
      go_ret3
      exact ⟨rfl, Below.refl _ _⟩
    · have hS' : ¬ (s.size : Int) - (P : Int) < 4 := hS
      obtain ⟨Q, eQ⟩ : ∃ Q : Nat, (P : Int) + 4 = (Q : Int) := ⟨P + 4, by omega⟩
      have hPQ : P ≤ Q := by omega
      have hS1 : Q ≤ s.size := by omega
      have hwQ : IntKind.i64.wrap (Q : Int) = (Q : Int) := by rw [IntKind.wrap_i64]; omega
      have cC := fun w => check_any T (by omega) w
      obtain ⟨K, eK⟩ : ∃ K, K = bytes (le4 (sumL T.data.toList)) := ⟨_, rfl⟩
      rw [← eK] at cC
      obtain ⟨X, eX⟩ : ∃ X, s.extract P Q = X := ⟨_, rfl⟩
      have hXl : X.data.toList = (s.data.toList.drop (textP s.data.toList a).toNat).take 4 := by
        rw [← eX, ← list_bytes s, bytes_ext, bytes_list, bytes_list, ← ep, eP]
        congr 1
        omega
      by_cases hX : X = K
      · have hU : unE s.data.toList a = 0 := unE_ok hE (by omega) (by rw [← hXl, hX, eK, bytes_list, hTl])
        have HP : Hid (unP s.data.toList a = (Q : Int)) := by show _ = _; rw [unP_ok hU, ← ep, eP, eQ]
        rw [unS_ok hU, hU, ← eT]
        clear eT ep hE g1 g2 g3 g4 hU hTl eK hXl eP
        subst hX
        go_enter Tryd.func29, Tryd.ntmps29
        go_wp2_with (go_at_call 42; refine (cT _).mono ?_; rintro e w1 ⟨rfl, rfl⟩)
        go_region_with (go_at_call 24; refine (cC _).mono ?_; rintro e w2 ⟨rfl, hb2⟩)
        all_goals
          go_wp2_with fail
          go_ret3
        all_goals exact ⟨ret3s rfl HP.out.symm rfl, below_dw hb2⟩
      · have hU : unE s.data.toList a = 32 := unE_sum hE (by omega) (by rw [← hXl, ← hTl]; intro h; exact hX (ba_ext (by rw [h, eK, bytes_list])))
        rw [unS_no (by rw [hU]; decide), unP_no (by rw [hU]; decide), hU, bytes_nil]
        have hne : (X.toList == K.toList) = false := str_ne hX
        clear eT ep hE g1 g2 g3 g4 hU hTl eK hXl eP
        go_enter Tryd.func29, Tryd.ntmps29
        go_wp2_with (go_at_call 42; refine (cT _).mono ?_; rintro e w1 ⟨rfl, rfl⟩)
        go_region_with (go_at_call 24; refine (cC _).mono ?_; rintro e w2 ⟨rfl, hb2⟩)
        all_goals
          go_wp2_with fail
          go_ret3
        all_goals exact ⟨rfl, below_dw hb2⟩
  · have hT := unE_text hE
    have hT0 : unE s.data.toList a ≠ 0 := by rw [hT]; exact hE
    rw [unS_no hT0, unP_no hT0, hT, bytes_nil]
    rw [textS_no hE, textP_no hE, bytes_nil] at cT
    obtain ⟨e, ee⟩ : ∃ e : Int, e = (textE s.data.toList a : Nat) := ⟨_, rfl⟩
    rw [← ee] at cT ⊢
    have he : ¬ e = 0 := by omega
    clear ee hT hT0 hE
    go_enter Tryd.func29, Tryd.ntmps29
    go_wp2_with (go_at_call 42; refine (cT _).mono ?_; rintro e w1 ⟨rfl, rfl⟩)
    go_ret3
    exact ⟨rfl, Below.refl _ _⟩
end Go.Proofs.YteedmmljahgpjabDoor.W
