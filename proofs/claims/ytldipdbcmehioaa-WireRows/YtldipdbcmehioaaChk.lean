/-
  The check as it is written: wire's checkOf, the document's tail.
-/
import Derived.Test.YtldipdbcmehioaaRtake
namespace Go.Proofs.Ytldipdbcmehioaa
open Go.RowKit

/-- Four bytes as a text. -/
theorem conv4 (x0 x1 x2 x3 : Int) (c0 c1 c2 c3 : UInt8) (h0 : x0 = c0.toNat) (h1 : x1 = c1.toNat) (h2 : x2 = c2.toNat) (h3 : x3 = c3.toNat) (t : TypeId) (w : World) :
    (convert 46 9 (.slice (some ⟨w.heap.size, 0, none⟩) 4 4)).run Try.prog (w.alloc (.cells #[.int .u8 x0, .int .u8 x1, .int .u8 x2, .int .u8 x3] t)) = .ok (.string ⟨#[c0, c1, c2, c3]⟩) (w.alloc (.cells #[.int .u8 x0, .int .u8 x1, .int .u8 x2, .int .u8 x3] t)) := by
  have := run_convert_bytes_back (P := Try.prog) (w.alloc (.cells #[.int .u8 x0, .int .u8 x1, .int .u8 x2, .int .u8 x3] t)) 46 9 5 ⟨w.heap.size, 0, none⟩ 4 [c0, c1, c2, c3] Try.underlying46 Try.underlying5 Try.underlying9 (fun j hj => by
    rw [Addr.add_lit, Nat.zero_add, World.cell?_alloc_mark, h0, h1, h2, h3]
    match j, hj with
    | 0, _ => rfl
    | 1, _ => rfl
    | 2, _ => rfl
    | 3, _ => rfl)
  exact this
theorem conv_le4 (C : Nat) (D : Int) (hC : C < 4294967296) (hD : D = (C : Int)) (t : TypeId) (w : World) :
    (convert 46 9 (.slice (some ⟨w.heap.size, 0, none⟩) 4 4)).run Try.prog (w.alloc (.cells #[.int .u8 (D % 256), .int .u8 (D / 256 % 256), .int .u8 (D / 65536 % 256), .int .u8 (D / 16777216)] t)) =
      .ok (.string (bytes (le4 C))) (w.alloc (.cells #[.int .u8 (D % 256), .int .u8 (D / 256 % 256), .int .u8 (D / 65536 % 256), .int .u8 (D / 16777216)] t)) :=
  conv4 _ _ _ _ (UInt8.ofNat (C % 256)) (UInt8.ofNat (C / 256 % 256)) (UInt8.ofNat (C / 65536 % 256)) (UInt8.ofNat (C / 16777216 % 256))
    (by rw [ofNat_small (by omega)]; omega) (by rw [ofNat_small (by omega)]; omega) (by rw [ofNat_small (by omega)]; omega) (by rw [ofNat_small (by omega)]; omega) t w

set_option maxRecDepth 100000 in
set_option maxHeartbeats 1000000 in
theorem check_any (s : ByteArray) (hs : s.size ≤ 140737488355328) (w : World) :
    Calls Try.prog 33 #[.string s] w fun e w' => e = .returned (.string (bytes (le4 (sumL s.data.toList)))) ∧ Below w.heap.size w w' := by
  obtain ⟨C, eC⟩ : ∃ C, C = sumL s.data.toList := ⟨_, rfl⟩
  have hC : C < 4294967296 := by rw [eC]; exact sumL_lt _
  have cS := fun w => sum_any s hs w
  rw [← eC] at cS ⊢
  obtain ⟨D, eD⟩ : ∃ D : Int, D = (C : Int) := ⟨_, rfl⟩
  have hD0 : 0 ≤ D := by omega
  have hD1 : D < 4294967296 := by omega
  rw [← eD] at cS
  have hconv := conv_le4 C D hC eD 53 w
  obtain ⟨T, eT⟩ : ∃ T, T = bytes (le4 C) := ⟨_, rfl⟩
  rw [← eT] at hconv ⊢
  clear eC eD eT hC
  go_enter Try.func33, Try.ntmps33
  go_wp2_with (go_at_call 22; refine (cS _).mono ?_; rintro e w1 ⟨rfl, rfl⟩)
  refine wp_loop_rounds 5 ?_
  rw [rounds_succ]
  go_wp2_with fail
  rw [rounds_succ]
  go_wp2_with fail
  rw [rounds_succ]
  go_wp2_with fail
  rw [rounds_succ]
  go_wp2_with fail
  rw [rounds_succ]
  go_wp2_with fail
  go_ret
  exact ⟨rfl, (Below.refl _ _).alloc (Nat.le_refl _) _⟩

set_option maxRecDepth 100000 in
set_option maxHeartbeats 1000000 in
theorem tail_any (s : ByteArray) (hs : s.size ≤ 140737488355328) (w : World) :
    Calls Try.prog 34 #[.string s] w fun e w' => e = .returned (.string (bytes (le4 (sumL s.data.toList)))) ∧ Below w.heap.size w w' := by
  obtain ⟨C, eC⟩ : ∃ C, C = sumL s.data.toList := ⟨_, rfl⟩
  have hC : C < 4294967296 := by rw [eC]; exact sumL_lt _
  have cS := fun w => rsum_any s hs w
  rw [← eC] at cS ⊢
  obtain ⟨D, eD⟩ : ∃ D : Int, D = (C : Int) := ⟨_, rfl⟩
  have hD0 : 0 ≤ D := by omega
  have hD1 : D < 4294967296 := by omega
  rw [← eD] at cS
  have hconv := conv_le4 C D hC eD 5 w
  obtain ⟨T, eT⟩ : ∃ T, T = bytes (le4 C) := ⟨_, rfl⟩
  rw [← eT] at hconv ⊢
  clear eC eD eT hC
  go_enter Try.func34, Try.ntmps34
  go_wp2_with (go_at_call 23; refine (cS _).mono ?_; rintro e w1 ⟨rfl, rfl⟩)
  go_ret
  exact ⟨rfl, (Below.refl _ _).alloc (Nat.le_refl _) _⟩

theorem below2 {w w1 w2 : World} (h1 : Below w.heap.size w w1) (h2 : Below w1.heap.size w1 w2) : Below w.heap.size w w2 := h1.trans (h2.mono h1.size)
theorem below_d {w w1 : World} (h1 : Below w.heap.size w w1) (n : Nat) : Below w.heap.size w (w1.drewN n) := h1.trans ⟨rfl, rfl, rfl, Nat.le_refl _, fun _ _ => rfl⟩
theorem ret2s {a b : ByteArray} {c d : Int} (h : a = b) (h' : c = d) : Ending.returned (.tuple #[.string a, .int .i64 c]) = .returned (.tuple #[.string b, .int .i64 d]) := by rw [h, h']

/-! ### Frames written -/
def frE (s : List UInt8) : Nat := if 65536 < s.length then 31 else 0
def frS (s : List UInt8) : List UInt8 := if 65536 < s.length then [] else frameL s
theorem le4_size (C : Nat) : (bytes (le4 C)).size = 4 := rfl
theorem text1_size (l : List UInt8) (h : l.length ≤ 549755813888) : (text1 l).length ≤ l.length + 10 := by
  unfold text1
  rw [List.length_append]
  have := put1_ten (n := l.length) (by omega)
  omega
set_option maxHeartbeats 400000 in
theorem frame_any (s : ByteArray) (w : World) :
    Calls Try.prog 24 #[.string s] w fun e w' => e = .returned (.tuple #[.string (bytes (frS s.data.toList)), .int .i64 (frE s.data.toList : Nat)]) ∧ Below w.heap.size w w' := by
  have hl := len_of s
  by_cases hb : 65536 < s.size
  · have hb' : (65536 : Int) < (s.size : Int) := by omega
    have e1 : frS s.data.toList = [] := by unfold frS; rw [if_pos (by omega)]
    have e2 : frE s.data.toList = 31 := by unfold frE; rw [if_pos (by omega)]
    rw [e1, e2]
    go_enter Try.func24, Try.ntmps24
    go_wp2_with fail
    go_ret2
    exact ⟨rfl, Below.refl _ _⟩
  · have hb' : ¬ (65536 : Int) < (s.size : Int) := by omega
    have e2 : frE s.data.toList = 0 := by unfold frE; rw [if_neg (by omega)]
    have c1 := fun w => putText_any ⟨#[]⟩ s (by decide) (by omega) w
    have c2 := fun w => check_any s (by omega) w
    obtain ⟨P, eP⟩ : ∃ P, P = bytes (([] : List UInt8) ++ text1 s.data.toList) := ⟨_, rfl⟩
    obtain ⟨K, eK⟩ : ∃ K, K = bytes (le4 (sumL s.data.toList)) := ⟨_, rfl⟩
    have hPs : P.size ≤ 65546 := by
      rw [eP, bytes_size, List.nil_append]
      have := text1_size s.data.toList (by omega)
      omega
    have hKs : K.size = 4 := by rw [eK]; rfl
    have HR : Hid (P ++ K = bytes (frS s.data.toList)) := by
      show _ = _
      unfold frS
      rw [if_neg (by omega), eP, eK, bytes_app, List.nil_append]
      rfl
    rw [← eK] at c2
    have c1' : ∀ w, Calls Try.prog 18 #[.string ⟨#[]⟩, .string s] w fun e w' => e = .returned (.string P) ∧ Below w.heap.size w w' := fun w => by rw [eP]; exact c1 w
    clear c1 eP eK
    rw [e2]
    go_enter Try.func24, Try.ntmps24
    go_wp2_with (first | (go_at_call 18; refine (c1' _).mono ?_; rintro e w1 ⟨rfl, hb1⟩) | (go_at_call 33; refine (c2 _).mono ?_; rintro e w2 ⟨rfl, hb2⟩))
    go_ret2
    exact ⟨ret2s HR.out rfl, below2 hb1 hb2⟩
set_option maxHeartbeats 400000 in
theorem rframe_any (s : ByteArray) (w : World) :
    Calls Try.prog 25 #[.string s] w fun e w' => e = .returned (.tuple #[.string (bytes (frS s.data.toList)), .int .i64 (frE s.data.toList : Nat)]) ∧ Below w.heap.size w w' := by
  have hl := len_of s
  by_cases hb : 65536 < s.size
  · have hb' : (65536 : Int) < (s.size : Int) := by omega
    have e1 : frS s.data.toList = [] := by unfold frS; rw [if_pos (by omega)]
    have e2 : frE s.data.toList = 31 := by unfold frE; rw [if_pos (by omega)]
    rw [e1, e2]
    go_enter Try.func25, Try.ntmps25
    go_wp2_with fail
    go_ret2
    exact ⟨rfl, Below.refl _ _⟩
  · have hb' : ¬ (65536 : Int) < (s.size : Int) := by omega
    have e2 : frE s.data.toList = 0 := by unfold frE; rw [if_neg (by omega)]
    have c1 := fun w => rputText_any ⟨#[]⟩ s (by decide) (by omega) w
    have c2 := fun w => tail_any s (by omega) w
    obtain ⟨P, eP⟩ : ∃ P, P = bytes (([] : List UInt8) ++ text1 s.data.toList) := ⟨_, rfl⟩
    obtain ⟨K, eK⟩ : ∃ K, K = bytes (le4 (sumL s.data.toList)) := ⟨_, rfl⟩
    have hPs : P.size ≤ 65546 := by
      rw [eP, bytes_size, List.nil_append]
      have := text1_size s.data.toList (by omega)
      omega
    have hKs : K.size = 4 := by rw [eK]; rfl
    have HR : Hid (P ++ K = bytes (frS s.data.toList)) := by
      show _ = _
      unfold frS
      rw [if_neg (by omega), eP, eK, bytes_app, List.nil_append]
      rfl
    rw [← eK] at c2
    have c1' : ∀ w, Calls Try.prog 19 #[.string ⟨#[]⟩, .string s] w fun e w' => e = .returned (.string P) ∧ Below w.heap.size w w' := fun w => by rw [eP]; exact c1 w
    clear c1 eP eK
    rw [e2]
    go_enter Try.func25, Try.ntmps25
    go_wp2_with (first | (go_at_call 19; refine (c1' _).mono ?_; rintro e w1 ⟨rfl, hb1⟩) | (go_at_call 34; refine (c2 _).mono ?_; rintro e w2 ⟨rfl, hb2⟩))
    go_ret2
    exact ⟨ret2s HR.out rfl, below2 hb1 hb2⟩
end Go.Proofs.Ytldipdbcmehioaa
