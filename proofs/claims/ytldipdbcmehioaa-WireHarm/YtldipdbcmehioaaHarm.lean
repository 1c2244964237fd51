/-
  The walk of the statement WireHarm.
-/
import Derived.Test.YtldipdbcmehioaaBack
import Derived.BigRegion
import Derived.Deep.Cut
namespace Go.Proofs.Ytldipdbcmehioaa
open Go.RowKit

/-! ### Plain -/
theorem set_parts (l : List UInt8) (j : Nat) (h : j < l.length) (c : UInt8) : l.take j ++ [c] ++ l.drop (j + 1) = l.set j c := by
  rw [List.set_eq_take_append_cons_drop, if_pos h, List.append_assoc]; rfl
/-- One byte of the content or of the check is another one. -/
theorem harm_plain (s : List UInt8) (hs : s.length ≤ 65536) (r : Nat) (hr : r < s.length + 4) (c : UInt8) (hc : (frameL s)[(put1 s.length).length + r]? ≠ some c) :
    unE ((frameL s).set ((put1 s.length).length + r) c) 0 = 32 := by
  have e : frameL s = put1 s.length ++ (s ++ le4 (sumL s)) := by unfold frameL text1; rw [List.append_assoc]
  rw [e] at hc ⊢
  rw [List.getElem?_append_right (by omega), Nat.add_sub_cancel_left] at hc
  rw [List.set_append_right ((put1 s.length).length + r) c (by omega), Nat.add_sub_cancel_left]
  by_cases h : r < s.length
  · rw [List.getElem?_append_left h] at hc
    rw [List.set_append_left r c h, ← List.append_assoc]
    refine un_harm s hs (s.set r c) (le4 (sumL s)) (by simp) rfl (fun he => hc ?_)
    have he := le4_inj (sumL_lt _) (sumL_lt _) he
    have e1 : s = s.take r ++ s[r] :: s.drop (r + 1) := by
      conv => lhs; rw [← List.take_append_drop r s, List.drop_eq_getElem_cons h]
    have e2 : s.set r c = s.take r ++ c :: s.drop (r + 1) := by rw [← set_parts s r h c, List.append_assoc]; rfl
    rw [e2] at he
    conv at he => lhs; rw [e1]
    have := sum_harm _ _ _ _ he
    rw [List.getElem?_eq_getElem h, this]
  · rw [List.getElem?_append_right (by omega)] at hc
    rw [List.set_append_right r c (by omega), ← List.append_assoc]
    refine un_harm s hs s ((le4 (sumL s)).set (r - s.length) c) rfl (by simp; rfl) (fun he => hc ?_)
    have hlt : r - s.length < (le4 (sumL s)).length := by rw [le4_len]; omega
    rw [← he, List.getElem?_set_self (by simpa using hlt)]
theorem xor_other {x c bx : Nat} (h : c = x ^^^ bx) (h0 : bx ≠ 0) : c ≠ x := by
  intro e
  rw [e] at h
  have : x ^^^ x = x ^^^ (x ^^^ bx) := by rw [← h]
  rw [Nat.xor_self, ← Nat.xor_assoc, Nat.xor_self, Nat.zero_xor] at this
  exact h0 this.symm
theorem get_list (F : ByteArray) (J : Nat) (h : J < F.size) : F.data.toList[J]? = some F[J] := by
  rw [List.getElem?_eq_getElem (by simpa using h)]; rfl
theorem frame_len (s : List UInt8) : (frameL s).length = (put1 s.length).length + s.length + 4 := by unfold frameL text1; rw [List.length_append, List.length_append]; rfl

theorem conv1d (x : Int) (c : UInt8) (hx : x = c.toNat) (w : World) :
    (convert 46 9 (.slice (some ⟨w.heap.size, 0, none⟩) 1 1)).run Try.prog (w.alloc (.cells #[.int .u8 x] 5)).drew = .ok (.string ⟨#[c]⟩) (w.alloc (.cells #[.int .u8 x] 5)).drew := by
  have := run_convert_bytes_back (P := Try.prog) (w.alloc (.cells #[.int .u8 x] 5)).drew 46 9 5 ⟨w.heap.size, 0, none⟩ 1 [c] Try.underlying46 Try.underlying5 Try.underlying9 (fun j hj => by
    obtain rfl : j = 0 := by simp at hj; exact hj
    rw [hx]
    exact World.cell?_alloc_mark w _ _ _ _)
  exact this
/-- What the walk is told of the harmed frame. -/
theorem harm_frame (s : ByteArray) (hs : s.size ≤ 65536) (r : Nat) (hr : r < s.size + 4) (bx : Int) (b0 : 0 < bx) (b1 : bx ≤ 255) :
    ∃ (F : ByteArray) (z : Int) (J : Nat) (hJ : J < F.size) (y : Int) (c : UInt8) (G : ByteArray),
      (∀ w, Calls Try.prog 24 #[.string s] w fun e w' => e = .returned (.tuple #[.string F, .int .i64 0]) ∧ Below w.heap.size w w') ∧
      (∀ w, Calls Try.prog 14 #[.int .u64 (s.size : Nat)] w fun e w' => e = .returned (.int .i64 z) ∧ w' = w) ∧
      1 ≤ z ∧ z ≤ 10 ∧ (F.size : Int) = z + (s.size : Int) + 4 ∧ z + (r : Int) = (J : Int) ∧
      bits .xor .u8 ((F[J].toNat : Nat) : Int) bx = y ∧ y = (c.toNat : Int) ∧
      (F.extract 0 J ++ (⟨#[c]⟩ : ByteArray)) ++ F.extract (J + 1) F.size = G ∧ G.size = F.size ∧
      (∀ w, Calls Try.prog 30 #[.string G, .int .i64 0] w fun e w' => e = .returned (.tuple #[.string ⟨#[]⟩, .int .i64 0, .int .i64 32]) ∧ Below w.heap.size w w') := by
  have hl := len_of s
  have hFl := frame_len s.data.toList
  have hp := put1_pos s.size
  have hten := put1_ten (n := s.size) (by omega)
  rw [hl] at hFl
  have hFs : (bytes (frameL s.data.toList)).size = (put1 s.size).length + s.size + 4 := by rw [bytes_size, hFl]
  have hJ : (put1 s.size).length + r < (bytes (frameL s.data.toList)).size := by omega
  obtain ⟨B, rfl⟩ := Int.eq_ofNat_of_zero_le (show 0 ≤ bx by omega)
  have hx := (bytes (frameL s.data.toList))[(put1 s.size).length + r].toNat_lt
  have hxor := u8_xor_nat ((bytes (frameL s.data.toList))[(put1 s.size).length + r]).toNat B (by omega) (by omega)
  have hlt : ((bytes (frameL s.data.toList))[(put1 s.size).length + r]).toNat ^^^ B < 256 := Nat.xor_lt_two_pow (n := 8) (by omega) (by omega)
  obtain ⟨c, ec⟩ : ∃ c, c = UInt8.ofNat (((bytes (frameL s.data.toList))[(put1 s.size).length + r]).toNat ^^^ B) := ⟨_, rfl⟩
  have hcn : c.toNat = ((bytes (frameL s.data.toList))[(put1 s.size).length + r]).toNat ^^^ B := by rw [ec, ofNat_small hlt]
  have hne : c.toNat ≠ ((bytes (frameL s.data.toList))[(put1 s.size).length + r]).toNat := xor_other hcn (by omega)
  have hGl : ((bytes (frameL s.data.toList)).extract 0 ((put1 s.size).length + r) ++ (⟨#[c]⟩ : ByteArray) ++ (bytes (frameL s.data.toList)).extract ((put1 s.size).length + r + 1) (bytes (frameL s.data.toList)).size).data.toList = (frameL s.data.toList).set ((put1 s.size).length + r) c := by
    rw [app_list, app_list, bytes_ext, bytes_ext, bytes_list, bytes_list, bytes_size, Nat.sub_zero, List.drop_zero]
    rw [List.take_of_length_le (l := List.drop _ _) (by rw [List.length_drop]; exact Nat.le_refl _)]
    exact set_parts _ _ (by omega) c
  have hGs : ((bytes (frameL s.data.toList)).extract 0 ((put1 s.size).length + r) ++ (⟨#[c]⟩ : ByteArray) ++ (bytes (frameL s.data.toList)).extract ((put1 s.size).length + r + 1) (bytes (frameL s.data.toList)).size).size = (bytes (frameL s.data.toList)).size := by
    rw [← len_of, hGl, List.length_set, bytes_size]
  refine ⟨bytes (frameL s.data.toList), ((put1 s.size).length : Nat), (put1 s.size).length + r, hJ, _, c, _, fun w => frame_ok s hs w, fun w => ?_, by omega, by omega, by omega, by omega, rfl, ?_, rfl, hGs, fun w => ?_⟩
  · exact size_any _ (by omega) (by omega) _ (by show _ = _; rw [Int.toNat_natCast]) w
  · rw [hxor, hcn]
  · have hU := harm_plain s.data.toList (by omega) r (by omega) c (by
      rw [hl]
      have hg := get_list (bytes (frameL s.data.toList)) ((put1 s.size).length + r) hJ
      rw [bytes_list] at hg
      rw [hg]
      intro h
      exact hne (by rw [Option.some.inj h]))
    rw [hl] at hU
    have := unframe_any _ 0 (by rw [hGs]; omega) w
    rw [hGl, hU, unS_no (by rw [hU]; decide), unP_no (by rw [hU]; decide), bytes_nil] at this
    exact this

set_option maxRecDepth 100000 in
set_option maxHeartbeats 4000000 in
theorem harm_go (s : ByteArray) (a bx d : Int) (hd1 : Hid (a < 0 → -(a + 1) = d)) (hd2 : Hid (0 ≤ a → a = d)) (d0 : 0 ≤ d) (d1 : d ≤ 9223372036854775807) (a0 : -9223372036854775808 ≤ a) (a1 : a ≤ 9223372036854775807) (hs : s.size ≤ 65536) (b0 : 0 < bx) (b1 : bx ≤ 255) (w : World) :
    Calls Try.prog 7 #[.string s, .int .i64 a, .int .u8 bx] w fun e w' => e = .returned (.bool true) ∧ Below w.heap.size w w' := by
  have cW := works_any w
  obtain ⟨r, er⟩ : ∃ r : Nat, d % ((s.size : Int) + 4) = (r : Int) := ⟨(d % ((s.size : Int) + 4)).toNat, by have := Int.emod_nonneg d (show (s.size : Int) + 4 ≠ 0 by omega); omega⟩
  have er2 : d.tmod ((s.size : Int) + 4) = (r : Int) := by rw [Int.tmod_eq_emod_of_nonneg d0, er]
  have hr : r < s.size + 4 := by have := Int.emod_lt_of_pos d (show 0 < (s.size : Int) + 4 by omega); omega
  obtain ⟨F, z, J, hJ, y, c, G, cF, cZ, z0, z1, hFs, hzJ, hxor, hyc, hG, hGs, cU⟩ := harm_frame s hs r hr bx b0 b1
  obtain ⟨F1, eF1⟩ : ∃ F1, F.extract 0 J = F1 := ⟨_, rfl⟩
  obtain ⟨K, eK⟩ : ∃ K : Nat, (J : Int) + 1 = (K : Int) := ⟨J + 1, by omega⟩
  obtain ⟨F2, eF2⟩ : ∃ F2, F.extract K F.size = F2 := ⟨_, rfl⟩
  obtain ⟨F3, eF3⟩ : ∃ F3, F1 ++ (⟨#[c]⟩ : ByteArray) = F3 := ⟨_, rfl⟩
  have eG : F3 ++ F2 = G := by rw [← eF3, ← eF1, ← eF2, show K = J + 1 by omega]; exact hG
  have hwK : IntKind.i64.wrap (K : Int) = (K : Int) := by rw [IntKind.wrap_i64]; omega
  have hwJ : IntKind.i64.wrap (J : Int) = (J : Int) := by rw [IntKind.wrap_i64]; omega
  have hKs : K ≤ F.size := by omega
  have hJs : J ≤ F.size := by omega
  have hcv := conv1 (c.toNat : Int) c rfl
  have hcv2 := conv1d (c.toNat : Int) c rfl
  have hb0 : (bx == 0) = false := by simp; omega
  have hb3 : decide (65536 < (s.size : Int)) = false := decide_eq_false (by omega)
  have hz0 : (((s.size : Int) + 4) == 0) = false := by simp; omega
  have hF1s : F1.size ≤ 65560 := by rw [← eF1, ByteArray.size_extract]; omega
  have hF2s : F2.size ≤ 65560 := by rw [← eF2, ByteArray.size_extract]; omega
  have hF3s : F3.size ≤ 65561 := by rw [← eF3, app_size]; show F1.size + 1 ≤ _; omega
  have hs' : ¬ 65536 < (s.size : Int) := by omega
  have hFs2 : F.size ≤ 65560 := by omega
  clear hG
  go_enter Try.func7, Try.ntmps7
  go_wp2_with fail
  refine cW.mono ?_
  rintro e w1 ⟨rfl, hb1⟩
  go_wp2_with fail
  refine (cF _).mono ?_
  rintro e w2 ⟨rfl, hb2⟩
  go_wp2_with fail
  refine (cZ _).mono ?_
  rintro e w3 ⟨rfl, rfl⟩
  go_upto_if 46 with fail
  go_cut [1] from 45 (fun v wx => v = .int .i64 d ∧ wx = w3)
  case first =>
    by_cases hneg : a < 0
    · have hx := hd1.out hneg
      go_wp2_with fail
      go_meet
      case rel => exact ⟨rfl, rfl⟩
    · have hx := hd2.out (by omega)
      go_wp2_with fail
      go_meet
      case rel => exact ⟨rfl, rfl⟩
  case rest =>
    obtain ⟨rfl, rfl⟩ := hcut
    go_upto_region 11 with fail
    go_cut [11] from 57 (fun g wx => g = .string G ∧ Below wc.heap.size wc wx)
    case first =>
      clear hFs hzJ hGs cF cZ cU
      have hJi : (J : Int) < (F.size : Int) := by omega
      go_region
      all_goals
        go_wp2_with fail
        go_meet
        case rel => exact ⟨rfl, by first | exact ((Below.refl _ _).drew).alloc (Nat.le_refl _) _ | exact ((Below.refl _ _).alloc (Nat.le_refl _) _).drew⟩
    case rest =>
      obtain ⟨rfl, hbG⟩ := hcut
      go_wp2_with fail
      refine (cU _).mono ?_
      rintro e w5 ⟨rfl, hb5⟩
      go_wp2_with fail
      go_ret
      exact ⟨rfl, below2 (below2 (below2 hb1 hb2) hbG) hb5⟩

set_option maxRecDepth 100000 in
set_option maxHeartbeats 1000000 in
theorem harm_any (s : ByteArray) (a bx : Int) (a0 : -9223372036854775808 ≤ a) (a1 : a ≤ 9223372036854775807) (b0 : 0 ≤ bx) (b1 : bx ≤ 255) (w : World) :
    Calls Try.prog 7 #[.string s, .int .i64 a, .int .u8 bx] w fun e w' => e = .returned (.bool true) ∧ Below w.heap.size w w' := by
  by_cases hbig : 65536 < (s.size : Int)
  · have cW := works_any w
    have hb3 : decide (65536 < (s.size : Int)) = true := decide_eq_true hbig
    go_enter Try.func7, Try.ntmps7
    go_wp2_with fail
    refine cW.mono ?_
    rintro e w1 ⟨rfl, hb1⟩
    go_wp2_with fail
    go_ret
    exact ⟨rfl, hb1⟩
  · by_cases hz : bx = 0
    · have cW := works_any w
      have hb0 : (bx == 0) = true := by simp [hz]
      have hb3 : decide (65536 < (s.size : Int)) = false := decide_eq_false hbig
      clear hz
      go_enter Try.func7, Try.ntmps7
      go_wp2_with fail
      refine cW.mono ?_
      rintro e w1 ⟨rfl, hb1⟩
      go_wp2_with fail
      go_ret
      exact ⟨rfl, hb1⟩
    · by_cases hneg : a < 0
      · exact harm_go s a bx (-(a + 1)) (fun _ => rfl) (fun h => by omega) (by omega) (by omega) a0 a1 (by omega) (by omega) b1 w
      · exact harm_go s a bx a (fun h => by omega) (fun _ => rfl) (by omega) a1 a0 a1 (by omega) (by omega) b1 w
end Go.Proofs.Ytldipdbcmehioaa
