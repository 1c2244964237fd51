/-
  The walk of lex.Name.
-/
import Derived.Test.YtighocmdlifheaaDoorPi
import Derived.Test.YtighocmdlifheaaDoorLxy
namespace Go.Proofs.YtighocmdlifheaaDoor
open Go.RowKit

theorem letter_ov {c : UInt8} {l : List UInt8} (h : letB c = true) : ov (c :: l) false = 0 := by
  unfold letB at h
  have h := of_decide_eq_true h
  refine ov_stop ?_ ?_
  · unfold remB; rw [if_neg (by omega), if_neg (by omega)]
  · unfold blankB; simp; omega
theorem mkk (s : ByteArray) (a : Nat) : (mkT s a).k ≠ 2 := by
  unfold mkT
  cases mkO s a with
  | none => exact (show (0 : Int) ≠ 2 by decide)
  | some i => simp
theorem nbk (s : ByteArray) (a : Nat) : (nbT s a).k ≠ 2 := by
  unfold nbT
  cases nbO s a with
  | none => exact (show (0 : Int) ≠ 2 by decide)
  | some q => obtain ⟨n, e, ty⟩ := q; simp
/-- A name, as the program asks. -/
theorem name_is (s : ByteArray) : nameB s = true ↔ oneE s 0 = 0 ∧ (oneT s 0).k = 2 ∧ (oneT s 0).x = s := by
  constructor
  · intro h
    unfold nameB at h
    simp only [Bool.and_eq_true, Bool.not_eq_true', decide_eq_true_eq] at h
    obtain ⟨h1, h2, h3, h4, h5⟩ := h
    have hp : oneP s 0 = 0 := by
      unfold oneP
      cases hr : rest s 0 with
      | nil => rfl
      | cons c l => rw [hr] at h4; rw [letter_ov h4]
    have hne : ¬ (0 : Nat) = s.size := by omega
    have e1 : nmT s 0 = ⟨2, s, 0, 0, 0⟩ := by
      unfold nmT
      rw [h5, if_neg (by omega)]
      have : s.extract 0 (0 + s.size) = s := str_eq (by rw [ext_list]; unfold rest; rw [List.drop_zero, List.take_of_length_le (by rw [len_of]; omega)])
      rw [this, h1]; rfl
    refine ⟨?_, ?_, ?_⟩
    · unfold oneE; rw [hp, if_neg hne, if_pos h4]; unfold nmE; rw [h5, if_neg (by omega)]
    · unfold oneT; rw [hp, if_neg hne, if_pos h4, e1]
    · unfold oneT; rw [hp, if_neg hne, if_pos h4, e1]
  · rintro ⟨h1, h2, h3⟩
    have hP := oneP_le s 0 (by omega)
    unfold oneT at h2 h3
    unfold oneE at h1
    generalize oneP s 0 = d at *
    by_cases h0 : d = s.size
    · rw [if_pos h0] at h2; exact absurd h2 (show ¬ (0 : Int) = 2 by decide)
    rw [if_neg h0] at h1 h2 h3
    by_cases hl : hdB letB (rest s d) = true
    · rw [if_pos hl] at h1 h2 h3
      unfold nmE at h1
      unfold nmT at h2 h3
      by_cases hk : lead goB (rest s d) > 16
      · rw [if_pos hk] at h1; exact absurd h1 (by decide)
      · rw [if_neg hk] at h2 h3
        have hL := lead_le goB (rest s d)
        rw [rest_len] at hL
        have hsz := congrArg ByteArray.size h3
        simp only at hsz
        rw [ext_size s d _ (by omega)] at hsz
        have hd : d = 0 := by omega
        subst hd
        have h3' : s.extract 0 (0 + lead goB (rest s 0)) = s := h3
        have hpos := lead_pos (hd_go hl)
        have hw : isW s = false := by
          rw [h3'] at h2
          cases hh : isW s with
          | false => rfl
          | true => rw [hh] at h2; exact absurd h2 (show ¬ (1 : Int) = 2 by decide)
        unfold nameB
        rw [hw, hl, decide_eq_true (by omega), decide_eq_true (by omega), decide_eq_true (by omega)]; rfl
    · rw [if_neg hl] at h2
      by_cases hg : hdB digB (rest s d) = true
      · rw [if_pos hg] at h2; exact absurd h2 (nbk s d)
      · rw [if_neg hg] at h2; exact absurd h2 (mkk s d)
set_option maxRecDepth 100000 in
set_option maxHeartbeats 2000000 in
theorem namep_any (s : ByteArray) (hs : s.size ≤ 140737488355328) (w : World) (ht : Tab w) :
    Calls Tryd.prog 70 #[.string s] w fun e w' => e = .returned (.bool (nameB s)) ∧ Below w.heap.size w w' := by
  have cF := first_any s 0 hs (by omega) w ht
  unfold fsV fsT at cF
  have hN := name_is s
  obtain ⟨E, eE⟩ : ∃ E, oneE s 0 = E := ⟨_, rfl⟩
  obtain ⟨B, eB⟩ : ∃ B, nameB s = B := ⟨_, rfl⟩
  rw [eE] at cF hN
  rw [eB] at hN ⊢
  clear eE eB
  by_cases hE : E = 0
  · have hE' : (E == 0) = true := by simp [hE]
    rw [if_pos hE] at cF
    obtain ⟨T, eT⟩ : ∃ T, oneT s 0 = T := ⟨_, rfl⟩
    rw [eT] at cF hN
    unfold tkA at cF
    by_cases hk : T.k = 2
    · have hk' : (T.k == 2) = true := by simp [hk]
      have KB : Hid (B = (T.x.toList == s.toList)) := by
        show _ = _
        by_cases hx : T.x = s
        · have : B = true := hN.2 ⟨hE, hk, hx⟩
          rw [this, hx]; simp
        · rw [seq_ne hx]
          cases B with
          | false => rfl
          | true => exact absurd (hN.1 rfl).2.2 hx
      clear hN hE hk eT
      go_enter Tryd.func70, Tryd.ntmps70
      go_wp2_with fail
      refine cF.mono ?_
      rintro _ v ⟨rfl, bb⟩
      have HB2 : Hid (Below w.heap.size w v) := bb
      clear bb
      go_wp2_with fail
      go_ret
      exact ⟨retB (by rw [KB.out]), HB2.out.alloc HB2.out.size _⟩
    · have hk' : (T.k == 2) = false := by simp [hk]
      have KB : Hid (B = false) := by
        show _ = _
        cases B with
        | false => rfl
        | true => exact absurd (hN.1 rfl).2.1 hk
      clear hN hE hk eT
      go_enter Tryd.func70, Tryd.ntmps70
      go_wp2_with fail
      refine cF.mono ?_
      rintro _ v ⟨rfl, bb⟩
      have HB2 : Hid (Below w.heap.size w v) := bb
      clear bb
      go_wp2_with fail
      go_ret
      exact ⟨retB (by rw [KB.out]), HB2.out.alloc HB2.out.size _⟩
  · have hE' : (E == 0) = false := by simp [hE]
    rw [if_neg hE] at cF
    unfold tkA at cF
    have KB : Hid (B = false) := by
      show _ = _
      cases B with
      | false => rfl
      | true => exact absurd (hN.1 rfl).1 hE
    clear hN hE
    go_enter Tryd.func70, Tryd.ntmps70
    go_wp2_with fail
    refine cF.mono ?_
    rintro _ v ⟨rfl, bb⟩
    have HB2 : Hid (Below w.heap.size w v) := bb
    clear bb
    go_wp2_with fail
    go_ret
    exact ⟨retB (by rw [KB.out]), HB2.out.alloc HB2.out.size _⟩
end Go.Proofs.YtighocmdlifheaaDoor
