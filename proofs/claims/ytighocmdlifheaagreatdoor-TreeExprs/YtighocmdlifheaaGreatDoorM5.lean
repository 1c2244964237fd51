import Derived.Test.YtighocmdlifheaaGreatDoorM4
import Derived.Test.YtighocmdlifheaaGreatDoorM1
import Derived.Test.YtighocmdlifheaaGreatDoorM2
/-
  The walk of lex.Name.
-/
namespace Go.Proofs.YtighocmdlifheaaGreatDoor
open Go.RowKit

theorem letter_ov {c : UInt8} {l : List UInt8} (h : letB c = true) : ov (c :: l) false = 0 := by
  unfold letB at h
  have h := of_decide_eq_true h
  refine ov_stop ?_ ?_
  · unfold remB; rw [if_neg (by omega), if_neg (by omega)]
  · unfold blankB; simp; omega
theorem mkk (s : ByteArray) (a : Nat) : (mkT s a).k ≠ 2 := by
  unfold mkT
  cases mkO s a with
  | none => exact (show (0 : Int) ≠ 2 by decide)
  | some i => simp
theorem nbk (s : ByteArray) (a : Nat) : (nbT s a).k ≠ 2 := by
  unfold nbT
  cases nbO s a with
  | none => exact (show (0 : Int) ≠ 2 by decide)
  | some q => obtain ⟨n, e, ty⟩ := q; simp
/-- A name, as the program asks. -/
theorem name_is (s : ByteArray) : nameB s = true ↔ oneE s 0 = 0 ∧ (oneT s 0).k = 2 ∧ (oneT s 0).x = s := by
  constructor
  · intro h
    unfold nameB at h
    simp only [Bool.and_eq_true, Bool.not_eq_true', decide_eq_true_eq] at h
    obtain ⟨h1, h2, h3, h4, h5⟩ := h
    have hp : oneP s 0 = 0 := by
      unfold oneP
      cases hr : rest s 0 with
      | nil => rfl
      | cons c l => rw [hr] at h4; rw [letter_ov h4]
    have hne : ¬ (0 : Nat) = s.size := by omega
    have e1 : nmT s 0 = ⟨2, s, 0, 0, 0⟩ := by
      unfold nmT
      rw [h5, if_neg (by omega)]
      have : s.extract 0 (0 + s.size) = s := str_eq (by rw [ext_list]; unfold rest; rw [List.drop_zero, List.take_of_length_le (by rw [len_of]; omega)])
      rw [this, h1]; rfl
    refine ⟨?_, ?_, ?_⟩
    · unfold oneE; rw [hp, if_neg hne, if_pos h4]; unfold nmE; rw [h5, if_neg (by omega)]
    · unfold oneT; rw [hp, if_neg hne, if_pos h4, e1]
    · unfold oneT; rw [hp, if_neg hne, if_pos h4, e1]
  · rintro ⟨h1, h2, h3⟩
    have hP := oneP_le s 0 (by omega)
    unfold oneT at h2 h3
    unfold oneE at h1
    generalize oneP s 0 = d at *
    by_cases h0 : d = s.size
    · rw [if_pos h0] at h2; exact absurd h2 (show ¬ (0 : Int) = 2 by decide)
    rw [if_neg h0] at h1 h2 h3
    by_cases hl : hdB letB (rest s d) = true
    · rw [if_pos hl] at h1 h2 h3
      unfold nmE at h1
      unfold nmT at h2 h3
      by_cases hk : lead goB (rest s d) > 16
      · rw [if_pos hk] at h1; exact absurd h1 (by decide)
      · rw [if_neg hk] at h2 h3
        have hL := lead_le goB (rest s d)
        rw [rest_len] at hL
        have hsz := congrArg ByteArray.size h3
        simp only at hsz
        rw [ext_size s d _ (by omega)] at hsz
        have hd : d = 0 := by omega
        subst hd
        have h3' : s.extract 0 (0 + lead goB (rest s 0)) = s := h3
        have hpos := lead_pos (hd_go hl)
        have hw : isW s = false := by
          rw [h3'] at h2
          cases hh : isW s with
          | false => rfl
          | true => rw [hh] at h2; exact absurd h2 (show ¬ (1 : Int) = 2 by decide)
        unfold nameB
        rw [hw, hl, decide_eq_true (by omega), decide_eq_true (by omega), decide_eq_true (by omega)]; rfl
    · rw [if_neg hl] at h2
      by_cases hg : hdB digB (rest s d) = true
      · rw [if_pos hg] at h2; exact absurd h2 (nbk s d)
      · rw [if_neg hg] at h2; exact absurd h2 (mkk s d)
set_option maxRecDepth 100000 in
set_option maxHeartbeats 2000000 in
theorem namep_any (s : ByteArray) (hs : s.size ≤ 140737488355328) (w : World) (ht : Tab w) :
    Calls Tryz.prog 115 #[.string s] w fun e w' => e = .returned (.bool (nameB s)) ∧ Below w.heap.size w w' := by
  have cF := first_any s 0 hs (by omega) w ht
  unfold fsV fsT at cF
  have hN := name_is s
  obtain ⟨E, eE⟩ : ∃ E, oneE s 0 = E := ⟨_, rfl⟩
  obtain ⟨B, eB⟩ : ∃ B, nameB s = B := ⟨_, rfl⟩
  rw [eE] at cF hN
  rw [eB] at hN ⊢
  clear eE eB
  by_cases hE : E = 0
  · have hE' : (E == 0) = true := by simp [hE]
    rw [if_pos hE] at cF
    obtain ⟨T, eT⟩ : ∃ T, oneT s 0 = T := ⟨_, rfl⟩
    rw [eT] at cF hN
    unfold tkA at cF
    by_cases hk : T.k = 2
    · have hk' : (T.k == 2) = true := by simp [hk]
      have KB : Hid (B = (T.x.toList == s.toList)) := by
        show _ = _
        by_cases hx : T.x = s
        · have : B = true := hN.2 ⟨hE, hk, hx⟩
          rw [this, hx]; simp
        · rw [seq_ne hx]
          cases B with
          | false => rfl
          | true => exact absurd (hN.1 rfl).2.2 hx
      clear hN hE hk eT
      go_enter Tryz.func115, Tryz.ntmps115
      go_wp2_with fail
      refine cF.mono ?_
      rintro _ v ⟨rfl, bb⟩
      have HB2 : Hid (Below w.heap.size w v) := bb
      clear bb
      go_wp2_with fail
      go_ret
      exact ⟨retB (by rw [KB.out]), HB2.out.alloc HB2.out.size _⟩
    · have hk' : (T.k == 2) = false := by simp [hk]
      have KB : Hid (B = false) := by
        show _ = _
        cases B with
        | false => rfl
        | true => exact absurd (hN.1 rfl).2.1 hk
      clear hN hE hk eT
      go_enter Tryz.func115, Tryz.ntmps115
      go_wp2_with fail
      refine cF.mono ?_
      rintro _ v ⟨rfl, bb⟩
      have HB2 : Hid (Below w.heap.size w v) := bb
      clear bb
      go_wp2_with fail
      go_ret
      exact ⟨retB (by rw [KB.out]), HB2.out.alloc HB2.out.size _⟩
  · have hE' : (E == 0) = false := by simp [hE]
    rw [if_neg hE] at cF
    unfold tkA at cF
    have KB : Hid (B = false) := by
      show _ = _
      cases B with
      | false => rfl
      | true => exact absurd (hN.1 rfl).1 hE
    clear hN hE
    go_enter Tryz.func115, Tryz.ntmps115
    go_wp2_with fail
    refine cF.mono ?_
    rintro _ v ⟨rfl, bb⟩
    have HB2 : Hid (Below w.heap.size w v) := bb
    clear bb
    go_wp2_with fail
    go_ret
    exact ⟨retB (by rw [KB.out]), HB2.out.alloc HB2.out.size _⟩
end Go.Proofs.YtighocmdlifheaaGreatDoor

/-
  fits: are the fields that a kind names as they may be?
-/
namespace Go.Proofs.YtighocmdlifheaaGreatDoor
open Go.RowKit
theorem wU_any (F : Nat) (x a b : Int) (w : World) (hF : F = 116 ∨ F = 137 ∨ F = 138 ∨ F = 145 ∨ F = 147) : Calls Tryz.prog F #[.int .u8 x, .int .u8 a, .int .u8 b] w fun e w' => e = .returned (.bool (decide (a ≤ x ∧ x ≤ b))) ∧ w' = w := by
  rcases hF with rfl | rfl | rfl | rfl | rfl
  · go_enter Tryz.func116, Tryz.ntmps116
    go_wp2
    all_goals go_ret
    all_goals exact ⟨retB (by simp_all; try omega), rfl⟩
  · go_enter Tryz.func137, Tryz.ntmps137
    go_wp2
    all_goals go_ret
    all_goals exact ⟨retB (by simp_all; try omega), rfl⟩
  · go_enter Tryz.func138, Tryz.ntmps138
    go_wp2
    all_goals go_ret
    all_goals exact ⟨retB (by simp_all; try omega), rfl⟩
  · go_enter Tryz.func145, Tryz.ntmps145
    go_wp2
    all_goals go_ret
    all_goals exact ⟨retB (by simp_all; try omega), rfl⟩
  · go_enter Tryz.func147, Tryz.ntmps147
    go_wp2
    all_goals go_ret
    all_goals exact ⟨retB (by simp_all; try omega), rfl⟩
theorem wI_any (x a b : Int) (w : World) : Calls Tryz.prog 150 #[.int .i64 x, .int .i64 a, .int .i64 b] w fun e w' => e = .returned (.bool (decide (a ≤ x ∧ x ≤ b))) ∧ w' = w := by
  go_enter Tryz.func150, Tryz.ntmps150
  go_wp2
  all_goals go_ret
  all_goals exact ⟨retB (by simp_all; try omega), rfl⟩
theorem isNumber_any (t : Int) (w : World) : Calls Tryz.prog 132 #[.int .u8 t] w fun e w' => e = .returned (.bool (numB t)) ∧ w' = w := by
  go_enter Tryz.func132, Tryz.ntmps132
  go_wp2_with (go_at_call 116; refine (wU_any 116 _ _ _ _ (by simp)).mono ?_; rintro e w' ⟨rfl, rfl⟩)
  go_ret
  exact ⟨retB (by simp [numB]), rfl⟩
theorem isLiteral_any (t n : Int) (w : World) : Calls Tryz.prog 136 #[.int .u8 t, .int .i64 n] w fun e w' => e = .returned (.bool (litB t n)) ∧ w' = w := by
  unfold litB
  by_cases h5 : t = 5
  · subst h5
    rw [if_pos rfl]
    go_enter Tryz.func136, Tryz.ntmps136
    go_wp2_with (go_at_call 150; refine (wI_any _ _ _ _).mono ?_; rintro e w' ⟨rfl, rfl⟩)
    go_ret
    exact ⟨retB (by simp), rfl⟩
  by_cases h6 : t = 6
  · subst h6
    rw [if_neg (by decide), if_pos rfl]
    go_enter Tryz.func136, Tryz.ntmps136
    go_wp2_with (go_at_call 150; refine (wI_any _ _ _ _).mono ?_; rintro e w' ⟨rfl, rfl⟩)
    go_ret
    exact ⟨retB (by simp), rfl⟩
  rw [if_neg h5, if_neg h6]
  have e5 : (t == 5) = false := by simp [h5]
  have e6 : (t == 6) = false := by simp [h6]
  have cN := isNumber_any t
  obtain ⟨B, eB⟩ : ∃ B, numB t = B := ⟨_, rfl⟩
  rw [eB]
  simp only [eB] at cN
  clear eB h5 h6
  cases B with
  | true =>
    go_enter Tryz.func136, Tryz.ntmps136
    go_wp2_with (go_at_call 132; refine (cN _).mono ?_; rintro e w' ⟨rfl, rfl⟩)
    go_ret
    exact ⟨retB (by simp), rfl⟩
  | false =>
    go_enter Tryz.func136, Tryz.ntmps136
    go_wp2_with (go_at_call 132; refine (cN _).mono ?_; rintro e w' ⟨rfl, rfl⟩)
    go_ret
    exact ⟨retB (by simp), rfl⟩
end Go.Proofs.YtighocmdlifheaaGreatDoor

/-
  fits: are the fields that a kind names as they may be, with so many kids?
-/
namespace Go.Proofs.YtighocmdlifheaaGreatDoor
open Go.RowKit
theorem below2 {w w1 w2 : World} (h1 : Below w.heap.size w w1) (h2 : Below w1.heap.size w1 w2) : Below w.heap.size w w2 := h1.trans (h2.mono h1.size)
set_option maxRecDepth 100000 in
set_option maxHeartbeats 2000000 in
theorem ft_1 (o t n f : Int) (x : ByteArray) (w : World) : Calls Tryz.prog 127 #[.agg #[.int .u8 1, .int .u8 o, .int .u8 t, .int .i64 n, .int .u8 f, .string x], .int .i64 0] w fun e w' => e = .returned (.bool (litB t n)) ∧ Below w.heap.size w w' := by
  go_enter Tryz.func127, Tryz.ntmps127
  go_wp2_with (go_at_call 136; refine (isLiteral_any _ _ _).mono ?_; rintro e w' ⟨rfl, rfl⟩)
  go_ret
  exact ⟨retB (by simp), below_new _ _⟩
set_option maxRecDepth 100000 in
set_option maxHeartbeats 2000000 in
theorem ft_1n (l : Nat) (hl : ((l : Int) == 0) = false) (o t n f : Int) (x : ByteArray) (w : World) : Calls Tryz.prog 127 #[.agg #[.int .u8 1, .int .u8 o, .int .u8 t, .int .i64 n, .int .u8 f, .string x], .int .i64 l] w fun e w' => e = .returned (.bool (false)) ∧ Below w.heap.size w w' := by
  go_enter Tryz.func127, Tryz.ntmps127
  go_wp2_with (fail)
  go_ret
  exact ⟨retB (by simp), below_new _ _⟩
set_option maxRecDepth 100000 in
set_option maxHeartbeats 2000000 in
theorem ft_3 (o t n f : Int) (x : ByteArray) (w : World) : Calls Tryz.prog 127 #[.agg #[.int .u8 3, .int .u8 o, .int .u8 t, .int .i64 n, .int .u8 f, .string x], .int .i64 0] w fun e w' => e = .returned (.bool (decide (1 ≤ f ∧ f ≤ 6))) ∧ Below w.heap.size w w' := by
  go_enter Tryz.func127, Tryz.ntmps127
  go_wp2_with (go_at_call 137; refine (wU_any 137 _ _ _ _ (by simp)).mono ?_; rintro e w' ⟨rfl, rfl⟩)
  go_ret
  exact ⟨retB (by simp), below_new _ _⟩
set_option maxRecDepth 100000 in
set_option maxHeartbeats 2000000 in
theorem ft_3n (l : Nat) (hl : ((l : Int) == 0) = false) (o t n f : Int) (x : ByteArray) (w : World) : Calls Tryz.prog 127 #[.agg #[.int .u8 3, .int .u8 o, .int .u8 t, .int .i64 n, .int .u8 f, .string x], .int .i64 l] w fun e w' => e = .returned (.bool (false)) ∧ Below w.heap.size w w' := by
  go_enter Tryz.func127, Tryz.ntmps127
  go_wp2_with (fail)
  go_ret
  exact ⟨retB (by simp), below_new _ _⟩
set_option maxRecDepth 100000 in
set_option maxHeartbeats 2000000 in
theorem ft_4 (o t n f : Int) (x : ByteArray) (w : World) : Calls Tryz.prog 127 #[.agg #[.int .u8 4, .int .u8 o, .int .u8 t, .int .i64 n, .int .u8 f, .string x], .int .i64 0] w fun e w' => e = .returned (.bool (decide (1 ≤ f ∧ f ≤ 3))) ∧ Below w.heap.size w w' := by
  go_enter Tryz.func127, Tryz.ntmps127
  go_wp2_with (go_at_call 137; refine (wU_any 137 _ _ _ _ (by simp)).mono ?_; rintro e w' ⟨rfl, rfl⟩)
  go_ret
  exact ⟨retB (by simp), below_new _ _⟩
set_option maxRecDepth 100000 in
set_option maxHeartbeats 2000000 in
theorem ft_4n (l : Nat) (hl : ((l : Int) == 0) = false) (o t n f : Int) (x : ByteArray) (w : World) : Calls Tryz.prog 127 #[.agg #[.int .u8 4, .int .u8 o, .int .u8 t, .int .i64 n, .int .u8 f, .string x], .int .i64 l] w fun e w' => e = .returned (.bool (false)) ∧ Below w.heap.size w w' := by
  go_enter Tryz.func127, Tryz.ntmps127
  go_wp2_with (fail)
  go_ret
  exact ⟨retB (by simp), below_new _ _⟩
set_option maxRecDepth 100000 in
set_option maxHeartbeats 2000000 in
theorem ft_5 (o t n f : Int) (x : ByteArray) (w : World) : Calls Tryz.prog 127 #[.agg #[.int .u8 5, .int .u8 o, .int .u8 t, .int .i64 n, .int .u8 f, .string x], .int .i64 1] w fun e w' => e = .returned (.bool (decide (1 ≤ o ∧ o ≤ 2))) ∧ Below w.heap.size w w' := by
  go_enter Tryz.func127, Tryz.ntmps127
  go_wp2_with (go_at_call 138; refine (wU_any 138 _ _ _ _ (by simp)).mono ?_; rintro e w' ⟨rfl, rfl⟩)
  go_ret
  exact ⟨retB (by simp), below_new _ _⟩
set_option maxRecDepth 100000 in
set_option maxHeartbeats 2000000 in
theorem ft_5n (l : Nat) (hl : ((l : Int) == 1) = false) (o t n f : Int) (x : ByteArray) (w : World) : Calls Tryz.prog 127 #[.agg #[.int .u8 5, .int .u8 o, .int .u8 t, .int .i64 n, .int .u8 f, .string x], .int .i64 l] w fun e w' => e = .returned (.bool (false)) ∧ Below w.heap.size w w' := by
  go_enter Tryz.func127, Tryz.ntmps127
  go_wp2_with (fail)
  go_ret
  exact ⟨retB (by simp), below_new _ _⟩
set_option maxRecDepth 100000 in
set_option maxHeartbeats 2000000 in
theorem ft_6 (o t n f : Int) (x : ByteArray) (w : World) : Calls Tryz.prog 127 #[.agg #[.int .u8 6, .int .u8 o, .int .u8 t, .int .i64 n, .int .u8 f, .string x], .int .i64 2] w fun e w' => e = .returned (.bool (decide (6 ≤ o ∧ o ≤ 18))) ∧ Below w.heap.size w w' := by
  go_enter Tryz.func127, Tryz.ntmps127
  go_wp2_with (go_at_call 138; refine (wU_any 138 _ _ _ _ (by simp)).mono ?_; rintro e w' ⟨rfl, rfl⟩)
  go_ret
  exact ⟨retB (by simp), below_new _ _⟩
set_option maxRecDepth 100000 in
set_option maxHeartbeats 2000000 in
theorem ft_6n (l : Nat) (hl : ((l : Int) == 2) = false) (o t n f : Int) (x : ByteArray) (w : World) : Calls Tryz.prog 127 #[.agg #[.int .u8 6, .int .u8 o, .int .u8 t, .int .i64 n, .int .u8 f, .string x], .int .i64 l] w fun e w' => e = .returned (.bool (false)) ∧ Below w.heap.size w w' := by
  go_enter Tryz.func127, Tryz.ntmps127
  go_wp2_with (fail)
  go_ret
  exact ⟨retB (by simp), below_new _ _⟩
set_option maxRecDepth 100000 in
set_option maxHeartbeats 2000000 in
theorem ft_9 (o t n f : Int) (x : ByteArray) (w : World) : Calls Tryz.prog 127 #[.agg #[.int .u8 9, .int .u8 o, .int .u8 t, .int .i64 n, .int .u8 f, .string x], .int .i64 1] w fun e w' => e = .returned (.bool (numB t)) ∧ Below w.heap.size w w' := by
  go_enter Tryz.func127, Tryz.ntmps127
  go_wp2_with (go_at_call 132; refine (isNumber_any _ _).mono ?_; rintro e w' ⟨rfl, rfl⟩)
  go_ret
  exact ⟨retB (by simp), below_new _ _⟩
set_option maxRecDepth 100000 in
set_option maxHeartbeats 2000000 in
theorem ft_9n (l : Nat) (hl : ((l : Int) == 1) = false) (o t n f : Int) (x : ByteArray) (w : World) : Calls Tryz.prog 127 #[.agg #[.int .u8 9, .int .u8 o, .int .u8 t, .int .i64 n, .int .u8 f, .string x], .int .i64 l] w fun e w' => e = .returned (.bool (false)) ∧ Below w.heap.size w w' := by
  go_enter Tryz.func127, Tryz.ntmps127
  go_wp2_with (fail)
  go_ret
  exact ⟨retB (by simp), below_new _ _⟩
set_option maxRecDepth 100000 in
set_option maxHeartbeats 2000000 in
theorem ft_2 (o t n f : Int) (x : ByteArray) (hx : x.size ≤ 140737488355328) (w : World) (ht : Tab w) : Calls Tryz.prog 127 #[.agg #[.int .u8 2, .int .u8 o, .int .u8 t, .int .i64 n, .int .u8 f, .string x], .int .i64 0] w fun e w' => e = .returned (.bool (nameB x)) ∧ Below w.heap.size w w' := by
  go_enter Tryz.func127, Tryz.ntmps127
  go_wp2_with (go_at_call 115; refine (namep_any x hx _ (ht.on (below_new _ _))).mono ?_; rintro e w' ⟨rfl, hb⟩)
  go_ret
  exact ⟨retB (by simp), below2 (below_new _ _) hb⟩
set_option maxRecDepth 100000 in
set_option maxHeartbeats 2000000 in
theorem ft_2n (l : Nat) (hl : ((l : Int) == 0) = false) (o t n f : Int) (x : ByteArray) (w : World) : Calls Tryz.prog 127 #[.agg #[.int .u8 2, .int .u8 o, .int .u8 t, .int .i64 n, .int .u8 f, .string x], .int .i64 l] w fun e w' => e = .returned (.bool (false)) ∧ Below w.heap.size w w' := by
  go_enter Tryz.func127, Tryz.ntmps127
  go_wp2_with (fail)
  go_ret
  exact ⟨retB (by simp), below_new _ _⟩
set_option maxRecDepth 100000 in
set_option maxHeartbeats 2000000 in
theorem ft_7 (l : Nat) (o t n f : Int) (x : ByteArray) (w : World) : Calls Tryz.prog 127 #[.agg #[.int .u8 7, .int .u8 o, .int .u8 t, .int .i64 n, .int .u8 f, .string x], .int .i64 l] w fun e w' => e = .returned (.bool (decide (l = 3))) ∧ Below w.heap.size w w' := by
  go_enter Tryz.func127, Tryz.ntmps127
  go_wp2_with (fail)
  go_ret
  exact ⟨retB (by first | rfl | (by_cases h : l = 3 <;> simp [h] <;> omega) | (apply decide_eq_decide.2; omega)), below_new _ _⟩
set_option maxRecDepth 100000 in
set_option maxHeartbeats 2000000 in
theorem ft_81 (o t n f : Int) (x : ByteArray) (w : World) : Calls Tryz.prog 127 #[.agg #[.int .u8 8, .int .u8 o, .int .u8 t, .int .i64 n, .int .u8 f, .string x], .int .i64 1] w fun e w' => e = .returned (.bool (decide (o = 3))) ∧ Below w.heap.size w w' := by
  by_cases ho : o = 3
  · subst ho
    go_enter Tryz.func127, Tryz.ntmps127
    go_wp2_with fail
    go_ret
    exact ⟨retB (by simp), below_new _ _⟩
  have ho' : (o == 3) = false := by simp [ho]
  go_enter Tryz.func127, Tryz.ntmps127
  go_wp2_with (fail)
  go_ret
  exact ⟨retB (by simp [ho]), below_new _ _⟩
set_option maxRecDepth 100000 in
set_option maxHeartbeats 2000000 in
theorem ft_82 (o t n f : Int) (x : ByteArray) (w : World) : Calls Tryz.prog 127 #[.agg #[.int .u8 8, .int .u8 o, .int .u8 t, .int .i64 n, .int .u8 f, .string x], .int .i64 2] w fun e w' => e = .returned (.bool (decide (4 ≤ o ∧ o ≤ 5))) ∧ Below w.heap.size w w' := by
  go_enter Tryz.func127, Tryz.ntmps127
  go_wp2_with (go_at_call 138; refine (wU_any 138 _ _ _ _ (by simp)).mono ?_; rintro e w' ⟨rfl, rfl⟩)
  go_ret
  exact ⟨retB (by simp), below_new _ _⟩
set_option maxRecDepth 100000 in
set_option maxHeartbeats 2000000 in
theorem ft_8n (l : Nat) (hl : ((l : Int) == 1) = false) (hl2 : ((l : Int) == 2) = false) (o t n f : Int) (x : ByteArray) (w : World) : Calls Tryz.prog 127 #[.agg #[.int .u8 8, .int .u8 o, .int .u8 t, .int .i64 n, .int .u8 f, .string x], .int .i64 l] w fun e w' => e = .returned (.bool (false)) ∧ Below w.heap.size w w' := by
  go_enter Tryz.func127, Tryz.ntmps127
  go_wp2_with (fail)
  go_ret
  exact ⟨retB (by simp), below_new _ _⟩
set_option maxRecDepth 100000 in
set_option maxHeartbeats 2000000 in
theorem ft_z (l : Nat) (k : Int) (e1 : (k == 1) = false) (e2 : (k == 2) = false) (e3 : (k == 3) = false) (e4 : (k == 4) = false) (e5 : (k == 5) = false) (e6 : (k == 6) = false) (e7 : (k == 7) = false) (e8 : (k == 8) = false) (e9 : (k == 9) = false) (o t n f : Int) (x : ByteArray) (w : World) : Calls Tryz.prog 127 #[.agg #[.int .u8 k, .int .u8 o, .int .u8 t, .int .i64 n, .int .u8 f, .string x], .int .i64 l] w fun e w' => e = .returned (.bool (false)) ∧ Below w.heap.size w w' := by
  go_enter Tryz.func127, Tryz.ntmps127
  go_wp2_with (fail)
  go_ret
  exact ⟨retB (by simp), below_new _ _⟩
theorem fits_any (h : Hd) (l : Nat) (hx : h.x.size ≤ 140737488355328) (w : World) (ht : Tab w) : Calls Tryz.prog 127 #[.agg (selfA h), .int .i64 l] w fun e w' => e = .returned (.bool (fitB h l)) ∧ Below w.heap.size w w' := by
  obtain ⟨k, o, t, n, f, x, p⟩ := h
  unfold selfA fitB
  simp only at hx ⊢
  by_cases e1 : k = 1
  · subst e1
    rw [if_pos rfl]
    by_cases a : l = 0
    · subst a
      have := ft_1 o t n f x w
      simpa using this
    have := ft_1n l (by simp; omega) o t n f x w
    simpa [a] using this
  by_cases e2 : k = 2
  · subst e2
    rw [if_neg (by decide), if_pos rfl]
    by_cases a : l = 0
    · subst a
      have := ft_2 o t n f x hx w ht
      simpa using this
    have := ft_2n l (by simp; omega) o t n f x w
    simpa [a] using this
  by_cases e3 : k = 3
  · subst e3
    rw [if_neg (by decide), if_neg (by decide), if_pos rfl]
    by_cases a : l = 0
    · subst a
      have := ft_3 o t n f x w
      simpa using this
    have := ft_3n l (by simp; omega) o t n f x w
    simpa [a] using this
  by_cases e4 : k = 4
  · subst e4
    rw [if_neg (by decide), if_neg (by decide), if_neg (by decide), if_pos rfl]
    by_cases a : l = 0
    · subst a
      have := ft_4 o t n f x w
      simpa using this
    have := ft_4n l (by simp; omega) o t n f x w
    simpa [a] using this
  by_cases e5 : k = 5
  · subst e5
    rw [if_neg (by decide), if_neg (by decide), if_neg (by decide), if_neg (by decide), if_pos rfl]
    by_cases a : l = 1
    · subst a
      have := ft_5 o t n f x w
      simpa using this
    have := ft_5n l (by simp; omega) o t n f x w
    simpa [a] using this
  by_cases e6 : k = 6
  · subst e6
    rw [if_neg (by decide), if_neg (by decide), if_neg (by decide), if_neg (by decide), if_neg (by decide), if_pos rfl]
    by_cases a : l = 2
    · subst a
      have := ft_6 o t n f x w
      simpa using this
    have := ft_6n l (by simp; omega) o t n f x w
    simpa [a] using this
  by_cases e7 : k = 7
  · subst e7
    rw [if_neg (by decide), if_neg (by decide), if_neg (by decide), if_neg (by decide), if_neg (by decide), if_neg (by decide), if_pos rfl]
    exact ft_7 l o t n f x w
  by_cases e8 : k = 8
  · subst e8
    rw [if_neg (by decide), if_neg (by decide), if_neg (by decide), if_neg (by decide), if_neg (by decide), if_neg (by decide), if_neg (by decide), if_pos rfl]
    by_cases a1 : l = 1
    · subst a1
      have := ft_81 o t n f x w
      simpa using this
    by_cases a2 : l = 2
    · subst a2
      have := ft_82 o t n f x w
      simpa using this
    have := ft_8n l (by simp; omega) (by simp; omega) o t n f x w
    simpa [a1, a2] using this
  by_cases e9 : k = 9
  · subst e9
    rw [if_neg (by decide), if_neg (by decide), if_neg (by decide), if_neg (by decide), if_neg (by decide), if_neg (by decide), if_neg (by decide), if_neg (by decide), if_pos rfl]
    by_cases a : l = 1
    · subst a
      have := ft_9 o t n f x w
      simpa using this
    have := ft_9n l (by simp; omega) o t n f x w
    simpa [a] using this
  rw [if_neg e1, if_neg e2, if_neg e3, if_neg e4, if_neg e5, if_neg e6, if_neg e7, if_neg e8, if_neg e9]
  exact ft_z l k (by simp [e1]) (by simp [e2]) (by simp [e3]) (by simp [e4]) (by simp [e5]) (by simp [e6]) (by simp [e7]) (by simp [e8]) (by simp [e9]) o t n f x w
end Go.Proofs.YtighocmdlifheaaGreatDoor
