import Derived.Test.YteedmmljahgpjabDoorM0
import Derived.WalkMore
import Derived.Test.YteedmmljahgpjabDoorM1
import Derived.Deep.QuietTactic
import Derived.BigQuiet
import Derived.Below
import Derived.WalkKit
import Derived.ProofKit
import Derived.OwnWalk
import Derived.WalkSmall
import Derived.Outline
/-
  The walk of lex.start: blanks and remarks.
-/
namespace Go.Proofs.YteedmmljahgpjabDoor
open Go.RowKit

set_option maxRecDepth 100000 in
set_option maxHeartbeats 8000000 in
theorem start_any (s : ByteArray) (a : Nat) (hs : s.size ≤ 140737488355328) (ha : a ≤ s.size) (d : Nat) (hd : Hid (d = a + ov (rest s a) false)) (w : World) :
    Calls Tryd.prog 63 #[.string s, .int .i64 a] w fun e w' => e = .returned (.int .i64 d) ∧ w' = w := by
  go_enter Tryd.func63, Tryd.ntmps63
  go_wp2_with fail
  go_step3
  go_wp2_with fail
  go_step3
  go_wp2_with fail
  go_loop [1, 5] (fun t r => ∃ (i : Nat) (b : Bool), a ≤ i ∧ i ≤ s.size ∧ t = .int .i64 i ∧ r = .bool b ∧ Hid (d = i + ov (rest s i) b)) (fun t _ => s.size - (intOf t).toNat)
  case atStart => exact ⟨a, false, Nat.le_refl _, ha, rfl, rfl, hd⟩
  case round =>
    obtain ⟨i, b, hi1, hi2, rfl, rfl, HR⟩ := hrel
    clear hd
    by_cases hlt : i < s.size
    · have hlt' : (i : Int) < (s.size : Int) := by omega
      have hr := rest_at s i hlt
      obtain ⟨c, hc⟩ : ∃ c, s[i] = c := ⟨_, rfl⟩
      rw [hc] at hr
      have hcl := byte_lt c
      have hq : Hid (rest s i = c :: rest s (i + 1)) := hr
      clear hr
      by_cases k10 : c.toNat = 10
      · have x10 : ((c.toNat : Int) == 10) = true := by rw [k10]; rfl
        have hs2 : Hid (d = (i + 1) + ov (rest s (i + 1)) false) := by
          show _ = _
          have e : remB b c = false := by unfold remB; rw [if_neg (by omega), if_pos k10]
          have e2 : blankB c = true := by unfold blankB; simp [k10]
          rw [HR.out, hq.out, ov_go (by rw [e2]; simp), e]; omega
        go_wp2_with fail
        exact ⟨⟨i + 1, false, by omega, by omega, by go_num, rfl, hs2⟩, by simp only [intOf]; omega⟩
      · have x10 : ((c.toNat : Int) == 10) = false := beq_false_of_ne (by omega)
        by_cases kb : c.toNat = 32 ∨ c.toNat = 9 ∨ c.toNat = 13
        · have e : remB b c = b := by unfold remB; rw [if_neg (by omega), if_neg (by omega)]
          have e2 : blankB c = true := by unfold blankB; simp; omega
          have hs2 : Hid (d = (i + 1) + ov (rest s (i + 1)) b) := by
            show _ = _
            rw [HR.out, hq.out, ov_go (by rw [e2]; simp), e]; omega
          clear e e2
          rcases kb with h | h | h
          · have x32 : ((c.toNat : Int) == 32) = true := by rw [h]; rfl
            go_wp2_with fail
            exact ⟨⟨i + 1, b, by omega, by omega, by go_num, rfl, hs2⟩, by simp only [intOf]; omega⟩
          · have x32 : ((c.toNat : Int) == 32) = false := beq_false_of_ne (by omega)
            have x9 : ((c.toNat : Int) == 9) = true := by rw [h]; rfl
            go_wp2_with fail
            exact ⟨⟨i + 1, b, by omega, by omega, by go_num, rfl, hs2⟩, by simp only [intOf]; omega⟩
          · have x32 : ((c.toNat : Int) == 32) = false := beq_false_of_ne (by omega)
            have x9 : ((c.toNat : Int) == 9) = false := beq_false_of_ne (by omega)
            have x13 : ((c.toNat : Int) == 13) = true := by rw [h]; rfl
            go_wp2_with fail
            exact ⟨⟨i + 1, b, by omega, by omega, by go_num, rfl, hs2⟩, by simp only [intOf]; omega⟩
        · have x32 : ((c.toNat : Int) == 32) = false := beq_false_of_ne (by omega)
          have x9 : ((c.toNat : Int) == 9) = false := beq_false_of_ne (by omega)
          have x13 : ((c.toNat : Int) == 13) = false := beq_false_of_ne (by omega)
          have e2 : blankB c = false := by unfold blankB; simp; omega
          by_cases k35 : c.toNat = 35
          · have x35 : ((c.toNat : Int) == 35) = true := by rw [k35]; rfl
            have e : remB b c = true := by unfold remB; rw [if_pos k35]
            have hs2 : Hid (d = (i + 1) + ov (rest s (i + 1)) true) := by
              show _ = _
              rw [HR.out, hq.out, ov_go (by rw [e]; simp), e]; omega
            clear e e2
            go_wp2_with fail
            exact ⟨⟨i + 1, true, by omega, by omega, by go_num, rfl, hs2⟩, by simp only [intOf]; omega⟩
          · have x35 : ((c.toNat : Int) == 35) = false := beq_false_of_ne (by omega)
            have e : remB b c = b := by unfold remB; rw [if_neg k35, if_neg k10]
            cases b
            · have hs2 : Hid (i = d) := by show _ = _; rw [HR.out, hq.out, ov_stop e e2]; omega
              clear e e2
              go_wp2_with fail
              go_ret
              exact ⟨retI (by rw [hs2.out]), rfl⟩
            · have hs2 : Hid (d = (i + 1) + ov (rest s (i + 1)) true) := by
                show _ = _
                rw [HR.out, hq.out, ov_go (by rw [e]; simp), e]; omega
              clear e e2
              go_wp2_with fail
              exact ⟨⟨i + 1, true, by omega, by omega, by go_num, rfl, hs2⟩, by simp only [intOf]; omega⟩
    · have hn : ¬ (i : Int) < (s.size : Int) := by omega
      have hs2 : Hid (i = d) := by show _ = _; rw [HR.out, rest_end s i (by omega)]; rfl
      go_wp2_with fail
      go_ret
      exact ⟨retI (by rw [hs2.out]), rfl⟩
end Go.Proofs.YteedmmljahgpjabDoor

/-
  The walk of lex.first.
-/
namespace Go.Proofs.YteedmmljahgpjabDoor
open Go.RowKit

/-- The program's first token from a place on; of what is none, its place alone. -/
def fsT (s : ByteArray) (f : Nat) : Tk := if oneE s f = 0 then oneT s f else tkP (oneP s f)
def fsV (s : ByteArray) (f : Nat) : Value := .tuple #[.agg (tkA (fsT s f)), .int .i64 (oneE s f)]
set_option maxRecDepth 100000 in
set_option maxHeartbeats 2000000 in
theorem first_any (s : ByteArray) (f : Nat) (hs : s.size ≤ 140737488355328) (hf : f ≤ s.size) (w : World) (ht : Tab w) :
    Calls Tryd.prog 51 #[.string s, .int .i64 f] w fun e w' => e = .returned (fsV s f) ∧ Below w.heap.size w w' := by
  obtain ⟨d, hd⟩ : ∃ d, oneP s f = d := ⟨_, rfl⟩
  have hdl : d ≤ s.size := by rw [← hd]; exact oneP_le s f hf
  have cS := start_any s f hs hf d hd.symm
  obtain ⟨W, eW, HR, HB, hz⟩ := box_one w
  obtain ⟨r0, r1, r2, r3, r4⟩ := HR.out.cells
  obtain ⟨f0, f1, f2, f3, f4⟩ := HR.out.froz
  by_cases h0 : d = s.size
  · have K : Hid (fsV s f = .tuple #[.agg (tkA (tkP d)), .int .i64 0]) := by
      show _ = _
      have e0 : oneE s f = 0 := by unfold oneE; rw [hd, if_pos h0]
      unfold fsV fsT
      rw [e0, if_pos rfl]
      unfold oneT
      rw [hd, if_pos h0]; rfl
    have h0' : ((d : Int) == (s.size : Int)) = true := by rw [h0]; simp
    clear hd h0
    go_enter Tryd.func51, Tryd.ntmps51
    go_wp2_with (go_at_call 63; refine (cS _).mono ?_; rintro _ v ⟨rfl, q⟩; obtain rfl := q.symm)
    exact bodyPost_ret (results_two (p := 4) (u := 5) (ty := 119) rfl _ _ w.heap.size 119 (tkA (tkP d)) (0, 0) _ rfl (HR.out.put (tkP d)) Tryd.underlying119 rfl (by kernel_rfl)) rfl ⟨by rw [K.out]; rfl, below_put HB.out (Nat.le_refl _) _ _ _ _ _⟩
  · have h0' : ((d : Int) == (s.size : Int)) = false := beq_false_of_ne (by omega)
    have hlt : d < s.size := by omega
    have hlt' : (d : Int) < (s.size : Int) := by omega
    obtain ⟨c, hc⟩ : ∃ c, s[d] = c := ⟨_, rfl⟩
    have hl := hd_at hlt hc letB
    have hg := hd_at hlt hc digB
    have hTW := ht.on HB.out
    cases b1 : letB c
    · cases b2 : digB c
      · have K : Hid (fsV s f = .tuple #[.agg (tkA (pmT s d)), .int .i64 (mkE s d)]) := by
          show _ = _
          have e0 : oneE s f = mkE s d := by unfold oneE; rw [hd, if_neg h0, hl, b1, if_neg (by decide), hg, b2, if_neg (by decide)]
          have e1 : oneT s f = mkT s d := by unfold oneT; rw [hd, if_neg h0, hl, b1, if_neg (by decide), hg, b2, if_neg (by decide)]
          unfold fsV fsT pmT
          rw [e0, e1, hd]
        have cM := markp_any s d hs hlt W
        obtain ⟨T, eT⟩ : ∃ T, pmT s d = T := ⟨_, rfl⟩
        obtain ⟨E, eE⟩ : ∃ E, mkE s d = E := ⟨_, rfl⟩
        rw [eT, eE] at cM K
        unfold tkA at cM
        clear hd h0 hl hg eT eE r0 r1 r2 r3 r4 f0 f1 f2 f3 f4
        go_enter Tryd.func51, Tryd.ntmps51
        go_wp2_with (first | (go_at_call 63; refine (cS _).mono ?_; rintro _ v ⟨rfl, q⟩; obtain rfl := q.symm) | (go_at_call 64; refine (isLetter_b b1 _).mono ?_; rintro _ v ⟨rfl, q⟩; obtain rfl := q.symm) | (go_at_call 66; refine (isDigit_b b2 _).mono ?_; rintro _ v ⟨rfl, q⟩; obtain rfl := q.symm))
        refine cM.mono ?_
        rintro _ v ⟨rfl, bb⟩
        have HR2 := (HR.out.onto bb).hid
        have HB2 : Hid (Below w.heap.size w v) := HB.out.trans (bb.mono HB.out.size)
        obtain ⟨r0, r1, r2, r3, r4⟩ := HR2.out.cells
        obtain ⟨f0, f1, f2, f3, f4⟩ := HR2.out.froz
        clear bb
        go_wp2_with fail
        exact bodyPost_ret (results_two (p := 4) (u := 5) (ty := 119) rfl _ _ w.heap.size 119 (tkA T) (0, 0) _ rfl (HR2.out.put T) Tryd.underlying119 rfl (by kernel_rfl)) rfl ⟨by rw [K.out]; rfl, below_put HB2.out (Nat.le_refl _) _ _ _ _ _⟩
      · have K : Hid (fsV s f = .tuple #[.agg (tkA (pbT s d)), .int .i64 (nbE s d)]) := by
          show _ = _
          have e0 : oneE s f = nbE s d := by unfold oneE; rw [hd, if_neg h0, hl, b1, if_neg (by decide), hg, b2, if_pos rfl]
          have e1 : oneT s f = nbT s d := by unfold oneT; rw [hd, if_neg h0, hl, b1, if_neg (by decide), hg, b2, if_pos rfl]
          unfold fsV fsT pbT
          rw [e0, e1, hd]
        have cM := numberp_any s d hs hlt (by rw [hg, b2]) W
        obtain ⟨T, eT⟩ : ∃ T, pbT s d = T := ⟨_, rfl⟩
        obtain ⟨E, eE⟩ : ∃ E, nbE s d = E := ⟨_, rfl⟩
        rw [eT, eE] at cM K
        unfold tkA at cM
        clear hd h0 hl hg eT eE r0 r1 r2 r3 r4 f0 f1 f2 f3 f4
        go_enter Tryd.func51, Tryd.ntmps51
        go_wp2_with (first | (go_at_call 63; refine (cS _).mono ?_; rintro _ v ⟨rfl, q⟩; obtain rfl := q.symm) | (go_at_call 64; refine (isLetter_b b1 _).mono ?_; rintro _ v ⟨rfl, q⟩; obtain rfl := q.symm) | (go_at_call 66; refine (isDigit_b b2 _).mono ?_; rintro _ v ⟨rfl, q⟩; obtain rfl := q.symm))
        refine cM.mono ?_
        rintro _ v ⟨rfl, bb⟩
        have HR2 := (HR.out.onto bb).hid
        have HB2 : Hid (Below w.heap.size w v) := HB.out.trans (bb.mono HB.out.size)
        obtain ⟨r0, r1, r2, r3, r4⟩ := HR2.out.cells
        obtain ⟨f0, f1, f2, f3, f4⟩ := HR2.out.froz
        clear bb
        go_wp2_with fail
        exact bodyPost_ret (results_two (p := 4) (u := 5) (ty := 119) rfl _ _ w.heap.size 119 (tkA T) (0, 0) _ rfl (HR2.out.put T) Tryd.underlying119 rfl (by kernel_rfl)) rfl ⟨by rw [K.out]; rfl, below_put HB2.out (Nat.le_refl _) _ _ _ _ _⟩
    · have K : Hid (fsV s f = .tuple #[.agg (tkA (pnT s d)), .int .i64 (nmE s d)]) := by
        show _ = _
        have e0 : oneE s f = nmE s d := by unfold oneE; rw [hd, if_neg h0, hl, b1, if_pos rfl]
        have e1 : oneT s f = nmT s d := by unfold oneT; rw [hd, if_neg h0, hl, b1, if_pos rfl]
        unfold fsV fsT pnT
        rw [e0, e1, hd]
      have cM := wordp_any s d hs hdl W hTW
      obtain ⟨T, eT⟩ : ∃ T, pnT s d = T := ⟨_, rfl⟩
      obtain ⟨E, eE⟩ : ∃ E, nmE s d = E := ⟨_, rfl⟩
      rw [eT, eE] at cM K
      unfold tkA at cM
      clear hd h0 hl hg eT eE r0 r1 r2 r3 r4 f0 f1 f2 f3 f4
      go_enter Tryd.func51, Tryd.ntmps51
      go_wp2_with (first | (go_at_call 63; refine (cS _).mono ?_; rintro _ v ⟨rfl, q⟩; obtain rfl := q.symm) | (go_at_call 64; refine (isLetter_b b1 _).mono ?_; rintro _ v ⟨rfl, q⟩; obtain rfl := q.symm))
      refine cM.mono ?_
      rintro _ v ⟨rfl, bb⟩
      have HR2 := (HR.out.onto bb).hid
      have HB2 : Hid (Below w.heap.size w v) := HB.out.trans (bb.mono HB.out.size)
      obtain ⟨r0, r1, r2, r3, r4⟩ := HR2.out.cells
      obtain ⟨f0, f1, f2, f3, f4⟩ := HR2.out.froz
      clear bb
      go_wp2_with fail
      exact bodyPost_ret (results_two (p := 4) (u := 5) (ty := 119) rfl _ _ w.heap.size 119 (tkA T) (0, 0) _ rfl (HR2.out.put T) Tryd.underlying119 rfl (by kernel_rfl)) rfl ⟨by rw [K.out]; rfl, below_put HB2.out (Nat.le_refl _) _ _ _ _ _⟩
end Go.Proofs.YteedmmljahgpjabDoor

/-
  The walk of the document's Name.
-/
namespace Go.Proofs.YteedmmljahgpjabDoor
open Go.RowKit

/-- Is a text a name? -/
def nameB (s : ByteArray) : Bool := !isW s && (decide (1 ≤ s.size) && (decide (s.size ≤ 16) && (hdB letB (rest s 0) && decide (lead goB (rest s 0) = s.size))))
end Go.Proofs.YteedmmljahgpjabDoor

/-
  The walk of lex.Name.
-/
namespace Go.Proofs.YteedmmljahgpjabDoor
open Go.RowKit

theorem letter_ov {c : UInt8} {l : List UInt8} (h : letB c = true) : ov (c :: l) false = 0 := by
  unfold letB at h
  have h := of_decide_eq_true h
  refine ov_stop ?_ ?_
  · unfold remB; rw [if_neg (by omega), if_neg (by omega)]
  · unfold blankB; simp; omega
theorem mkk (s : ByteArray) (a : Nat) : (mkT s a).k ≠ 2 := by
  unfold mkT
  cases mkO s a with
  | none => exact (show (0 : Int) ≠ 2 by decide)
  | some i => simp
theorem nbk (s : ByteArray) (a : Nat) : (nbT s a).k ≠ 2 := by
  unfold nbT
  cases nbO s a with
  | none => exact (show (0 : Int) ≠ 2 by decide)
  | some q => obtain ⟨n, e, ty⟩ := q; simp
/-- A name, as the program asks. -/
theorem name_is (s : ByteArray) : nameB s = true ↔ oneE s 0 = 0 ∧ (oneT s 0).k = 2 ∧ (oneT s 0).x = s := by
  constructor
  · intro h
    unfold nameB at h
    simp only [Bool.and_eq_true, Bool.not_eq_true', decide_eq_true_eq] at h
    obtain ⟨h1, h2, h3, h4, h5⟩ := h
    have hp : oneP s 0 = 0 := by
      unfold oneP
      cases hr : rest s 0 with
      | nil => rfl
      | cons c l => rw [hr] at h4; rw [letter_ov h4]
    have hne : ¬ (0 : Nat) = s.size := by omega
    have e1 : nmT s 0 = ⟨2, s, 0, 0, 0⟩ := by
      unfold nmT
      rw [h5, if_neg (by omega)]
      have : s.extract 0 (0 + s.size) = s := str_eq (by rw [ext_list]; unfold rest; rw [List.drop_zero, List.take_of_length_le (by rw [len_of]; omega)])
      rw [this, h1]; rfl
    refine ⟨?_, ?_, ?_⟩
    · unfold oneE; rw [hp, if_neg hne, if_pos h4]; unfold nmE; rw [h5, if_neg (by omega)]
    · unfold oneT; rw [hp, if_neg hne, if_pos h4, e1]
    · unfold oneT; rw [hp, if_neg hne, if_pos h4, e1]
  · rintro ⟨h1, h2, h3⟩
    have hP := oneP_le s 0 (by omega)
    unfold oneT at h2 h3
    unfold oneE at h1
    generalize oneP s 0 = d at *
    by_cases h0 : d = s.size
    · rw [if_pos h0] at h2; exact absurd h2 (show ¬ (0 : Int) = 2 by decide)
    rw [if_neg h0] at h1 h2 h3
    by_cases hl : hdB letB (rest s d) = true
    · rw [if_pos hl] at h1 h2 h3
      unfold nmE at h1
      unfold nmT at h2 h3
      by_cases hk : lead goB (rest s d) > 16
      · rw [if_pos hk] at h1; exact absurd h1 (by decide)
      · rw [if_neg hk] at h2 h3
        have hL := lead_le goB (rest s d)
        rw [rest_len] at hL
        have hsz := congrArg ByteArray.size h3
        simp only at hsz
        rw [ext_size s d _ (by omega)] at hsz
        have hd : d = 0 := by omega
        subst hd
        have h3' : s.extract 0 (0 + lead goB (rest s 0)) = s := h3
        have hpos := lead_pos (hd_go hl)
        have hw : isW s = false := by
          rw [h3'] at h2
          cases hh : isW s with
          | false => rfl
          | true => rw [hh] at h2; exact absurd h2 (show ¬ (1 : Int) = 2 by decide)
        unfold nameB
        rw [hw, hl, decide_eq_true (by omega), decide_eq_true (by omega), decide_eq_true (by omega)]; rfl
    · rw [if_neg hl] at h2
      by_cases hg : hdB digB (rest s d) = true
      · rw [if_pos hg] at h2; exact absurd h2 (nbk s d)
      · rw [if_neg hg] at h2; exact absurd h2 (mkk s d)
set_option maxRecDepth 100000 in
set_option maxHeartbeats 2000000 in
theorem namep_any (s : ByteArray) (hs : s.size ≤ 140737488355328) (w : World) (ht : Tab w) :
    Calls Tryd.prog 31 #[.string s] w fun e w' => e = .returned (.bool (nameB s)) ∧ Below w.heap.size w w' := by
  have cF := first_any s 0 hs (by omega) w ht
  unfold fsV fsT at cF
  have hN := name_is s
  obtain ⟨E, eE⟩ : ∃ E, oneE s 0 = E := ⟨_, rfl⟩
  obtain ⟨B, eB⟩ : ∃ B, nameB s = B := ⟨_, rfl⟩
  rw [eE] at cF hN
  rw [eB] at hN ⊢
  clear eE eB
  by_cases hE : E = 0
  · have hE' : (E == 0) = true := by simp [hE]
    rw [if_pos hE] at cF
    obtain ⟨T, eT⟩ : ∃ T, oneT s 0 = T := ⟨_, rfl⟩
    rw [eT] at cF hN
    unfold tkA at cF
    by_cases hk : T.k = 2
    · have hk' : (T.k == 2) = true := by simp [hk]
      have KB : Hid (B = (T.x.toList == s.toList)) := by
        show _ = _
        by_cases hx : T.x = s
        · have : B = true := hN.2 ⟨hE, hk, hx⟩
          rw [this, hx]; simp
        · rw [seq_ne hx]
          cases B with
          | false => rfl
          | true => exact absurd (hN.1 rfl).2.2 hx
      clear hN hE hk eT
      go_enter Tryd.func31, Tryd.ntmps31
      go_wp2_with fail
      refine cF.mono ?_
      rintro _ v ⟨rfl, bb⟩
      have HB2 : Hid (Below w.heap.size w v) := bb
      clear bb
      go_wp2_with fail
      go_ret
      exact ⟨retB (by rw [KB.out]), HB2.out.alloc HB2.out.size _⟩
    · have hk' : (T.k == 2) = false := by simp [hk]
      have KB : Hid (B = false) := by
        show _ = _
        cases B with
        | false => rfl
        | true => exact absurd (hN.1 rfl).2.1 hk
      clear hN hE hk eT
      go_enter Tryd.func31, Tryd.ntmps31
      go_wp2_with fail
      refine cF.mono ?_
      rintro _ v ⟨rfl, bb⟩
      have HB2 : Hid (Below w.heap.size w v) := bb
      clear bb
      go_wp2_with fail
      go_ret
      exact ⟨retB (by rw [KB.out]), HB2.out.alloc HB2.out.size _⟩
  · have hE' : (E == 0) = false := by simp [hE]
    rw [if_neg hE] at cF
    unfold tkA at cF
    have KB : Hid (B = false) := by
      show _ = _
      cases B with
      | false => rfl
      | true => exact absurd (hN.1 rfl).1 hE
    clear hN hE
    go_enter Tryd.func31, Tryd.ntmps31
    go_wp2_with fail
    refine cF.mono ?_
    rintro _ v ⟨rfl, bb⟩
    have HB2 : Hid (Below w.heap.size w v) := bb
    clear bb
    go_wp2_with fail
    go_ret
    exact ⟨retB (by rw [KB.out]), HB2.out.alloc HB2.out.size _⟩
end Go.Proofs.YteedmmljahgpjabDoor

/-
  Rows of cells that the call itself has made: a slice of n elements of s cells each, cell j holding 'f j'.
-/
namespace Go.Proofs.YteedmmljahgpjabDoor
open Go.RowKit

def Row (w : World) (e : TypeId) (s : Nat) (v : Value) (n : Nat) (f : Nat → Value) : Prop := w.ownsRow 0 e s v n ((List.range (n * s)).map f)
theorem range_map_set (m j : Nat) (f : Nat → Value) (u : Value) : ((List.range m).map f).set j u = (List.range m).map (fun i => if i = j then u else f i) := by
  apply List.ext_getElem?
  intro i
  rw [List.getElem?_set, List.getElem?_map, List.getElem?_map, List.length_map, List.length_range]
  by_cases hi : i < m
  · rw [List.getElem?_range hi]
    by_cases hj : j = i
    · subst hj; simp [hi]
    · rw [if_neg hj]
      show some (f i) = some (if i = j then u else f i)
      rw [if_neg (fun h => hj h.symm)]
  · rw [List.getElem?_eq_none (by simpa using hi)]
    by_cases hj : j = i
    · subst hj; simp [hi]
    · simp [hj]
variable {w : World} {e : TypeId} {s n cap : Nat} {g : Nat} {f f' : Nat → Value} {v : Value}

theorem Row.cell (h : Row w e s (.slice (some ⟨g, 0, none⟩) n cap) n f) {j : Nat} (hj : j < n * s) : w.cell? ⟨g, j, none⟩ = some (f j) := by
  rw [World.ownsRow.cellAt h j hj, List.getElem?_map, List.getElem?_range hj]; rfl
theorem Row.frozen (h : Row w e s (.slice (some ⟨g, 0, none⟩) n cap) n f) (j : Nat) : w.frozen? ⟨g, j, none⟩ = false := World.ownsRow.frozenAt h j
theorem Row.set (h : Row w e s (.slice (some ⟨g, 0, none⟩) n cap) n f) (j : Nat) (u : Value) : Row (w.setCell ⟨g, j, none⟩ u) e s (.slice (some ⟨g, 0, none⟩) n cap) n (fun i => if i = j then u else f i) := by
  have := (World.ownsRow.stored h j u).1
  rwa [range_map_set] at this
theorem Row.congr (h : Row w e s v n f) (he : ∀ j, j < n * s → f j = f' j) : Row w e s v n f' := by
  unfold Row at h ⊢
  have : (List.range (n * s)).map f = (List.range (n * s)).map f' := List.map_congr_left (fun j hj => he j (by simpa using hj))
  rwa [this] at h
theorem Row.lt (h : Row w e s v n f) : ∀ k, v.ownBlock = some k → k < w.heap.size := fun k hk => (World.ownsRow.lt h k hk).2
theorem Row.nil (w : World) (e : TypeId) (s : Nat) (f : Nat → Value) : Row w e s (.slice none 0 0) 0 f := by
  have := World.ownsRow_nil w 0 e s
  simpa [Row] using this
/-- A block that is as it was keeps its row. -/
theorem Row.of_block {w' : World} (h : Row w e s v n f) (hb : ∀ k, v.ownBlock = some k → w'.heap[k]? = w.heap[k]?) : Row w' e s v n f := by
  refine ⟨h.1, ?_⟩
  rcases h.2 with h' | ⟨g', cap', cur, rfl, h1, hg, h2⟩
  · exact .inl h'
  · exact .inr ⟨g', cap', cur, rfl, h1, (hb g' rfl).trans hg, h2⟩
theorem Row.alloc (h : Row w e s v n f) (o : Obj) : Row (w.alloc o) e s v n f := World.ownsRow.alloc h o
/-- One element more, behind a row. -/
theorem Row.snoc {v' : Value} {news : List Value} {x : Nat → Value} (h : w.ownsRow 0 e s v' (n + 1) ((List.range (n * s)).map f ++ news)) (hl : news.length = s) (hx : ∀ j, j < s → news[j]? = some (x j)) :
    Row w e s v' (n + 1) (fun j => if j < n * s then f j else x (j - n * s)) := by
  unfold Row
  have : (List.range ((n + 1) * s)).map (fun j => if j < n * s then f j else x (j - n * s)) = (List.range (n * s)).map f ++ news := by
    apply List.ext_getElem?
    intro j
    have hm : (n + 1) * s = n * s + s := by rw [Nat.add_mul, Nat.one_mul]
    by_cases h1 : j < n * s
    · rw [List.getElem?_append_left (by simpa using h1), List.getElem?_map, List.getElem?_map, List.getElem?_range (by omega), List.getElem?_range h1]
      simp [h1]
    · rw [List.getElem?_append_right (by simpa using Nat.le_of_not_lt h1), List.length_map, List.length_range]
      by_cases h2 : j < (n + 1) * s
      · rw [List.getElem?_map, List.getElem?_range h2, hx _ (by omega)]
        simp [h1]
      · rw [List.getElem?_eq_none (by simpa using Nat.le_of_not_lt h2), List.getElem?_eq_none (by omega)]
  rw [this]; exact h
end Go.Proofs.YteedmmljahgpjabDoor

/-
  How a world has moved: what lay outside a footprint lies as it lay.
-/
namespace Go.Proofs.YteedmmljahgpjabDoor
open Go.RowKit

structure Mv (w w' : World) (F : Nat → Prop) : Prop where
  os : w'.os = w.os
  tape : w'.tape = w.tape
  output : w'.output = w.output
  size : w.heap.size ≤ w'.heap.size
  block : ∀ k, k < w.heap.size → ¬ F k → w'.heap[k]? = w.heap[k]?
theorem Mv.refl (w : World) (F : Nat → Prop) : Mv w w F := ⟨rfl, rfl, rfl, Nat.le_refl _, fun _ _ _ => rfl⟩
theorem Mv.drew {w w' : World} {F : Nat → Prop} (h : Mv w w' F) : Mv w w'.drew F := ⟨h.os, h.tape, h.output, h.size, h.block⟩
theorem Mv.trans {w w' w'' : World} {F F' : Nat → Prop} (h : Mv w w' F) (k : Mv w' w'' F') (hF : ∀ b, F' b → F b ∨ w.heap.size ≤ b) : Mv w w'' F :=
  ⟨k.os.trans h.os, k.tape.trans h.tape, k.output.trans h.output, Nat.le_trans h.size k.size, fun b hb hn =>
    (k.block b (Nat.lt_of_lt_of_le hb h.size) (fun e => (hF b e).elim hn (fun h1 => by omega))).trans (h.block b hb hn)⟩
theorem Mv.mono {w w' : World} {F F' : Nat → Prop} (h : Mv w w' F) (hF : ∀ b, F b → F' b) : Mv w w' F' := ⟨h.os, h.tape, h.output, h.size, fun b hb hn => h.block b hb (fun e => hn (hF b e))⟩
theorem Mv.setCell {w w' : World} {F : Nat → Prop} (h : Mv w w' F) {a : Addr} (ha : F a.block ∨ w.heap.size ≤ a.block) (u : Value) : Mv w (w'.setCell a u) F :=
  h.trans (F' := fun b => b = a.block) ⟨rfl, rfl, rfl, by simp [World.setCell], fun b _ hn => Below.heap_setCell _ _ _ _ hn⟩ (fun b e => by cases e; exact ha)
theorem Mv.alloc {w w' : World} {F : Nat → Prop} (h : Mv w w' F) (o : Obj) : Mv w (w'.alloc o) F :=
  h.trans (F' := fun _ => False) ⟨rfl, rfl, rfl, by simp, fun b hb _ => Below.heap_alloc _ _ _ hb⟩ (fun b e => e.elim)
theorem Mv.grown {w w' w'' : World} {F : Nat → Prop} {row : Option Nat} (h : Mv w w' F) (hg : w'.grownBy w'' row) (hr : ∀ k, row = some k → F k ∨ w.heap.size ≤ k) : Mv w w'' F :=
  h.trans (F' := fun b => some b = row) ⟨hg.os, hg.tape, hg.output, hg.size, fun b hb hn => hg.block b hb hn⟩ (fun b e => hr b e.symm)
theorem Mv.below {w w' : World} {F : Nat → Prop} (h : Mv w w' F) {B : Nat} (hB : B ≤ w.heap.size) (hF : ∀ b, F b → B ≤ b) : Below B w w' :=
  ⟨h.os, h.tape, h.output, h.size, fun k hk => h.block k (by omega) (fun e => by have := hF k e; omega)⟩
theorem Mv.row {w w' : World} {F : Nat → Prop} (h : Mv w w' F) {e : TypeId} {s n : Nat} {v : Value} {f : Nat → Value} (hr : Row w e s v n f) (hn : ∀ k, v.ownBlock = some k → ¬ F k) : Row w' e s v n f :=
  hr.of_block (fun k hk => h.block k (hr.lt k hk) (hn k hk))
end Go.Proofs.YteedmmljahgpjabDoor

/-
  Plain mathematics of layer 3 (wire): numbers as bytes, there and back. No model in this text.
-/
namespace Go.Proofs.YteedmmljahgpjabDoor.W

/-- A list of bytes as a text. -/
def bytes (l : List UInt8) : ByteArray := ⟨l.toArray⟩
theorem bytes_list (l : List UInt8) : (bytes l).data.toList = l := by simp [bytes]
theorem bytes_size (l : List UInt8) : (bytes l).size = l.length := by show l.toArray.size = _; simp
theorem ba_ext {a b : ByteArray} (h : a.data.toList = b.data.toList) : a = b := by cases a; cases b; simp_all
theorem list_bytes (s : ByteArray) : bytes s.data.toList = s := ba_ext (bytes_list _)
theorem bytes_app (a b : List UInt8) : bytes a ++ bytes b = bytes (a ++ b) := by apply ba_ext; simp [bytes]
theorem bytes_ext (l : List UInt8) (i j : Nat) : (bytes l).extract i j = bytes ((l.drop i).take (j - i)) := by
  apply ba_ext
  simp [bytes]
theorem len_of (s : ByteArray) : s.data.toList.length = s.size := by simp
theorem drop_at (s : ByteArray) (k : Nat) (h : k < s.size) : s.data.toList.drop k = s[k] :: s.data.toList.drop (k + 1) := by
  rw [List.drop_eq_getElem_cons (by simpa using h)]; rfl
theorem drop_end (s : ByteArray) (k : Nat) (h : s.size ≤ k) : s.data.toList.drop k = [] := List.drop_eq_nil_of_le (by simpa using h)
theorem take_at (s : ByteArray) (k : Nat) (h : k < s.size) : s.data.toList.take (k + 1) = s.data.toList.take k ++ [s[k]] := by
  rw [List.take_succ_eq_append_getElem (by simpa using h)]; rfl
/-- A number's bytes; at most k + 1 of them. -/
def putG : Nat → Nat → List UInt8
  | 0, n => [UInt8.ofNat n]
  | k + 1, n => if n < 128 then [UInt8.ofNat n] else UInt8.ofNat (n % 128 + 128) :: putG k (n / 128)
theorem putG_ir : ∀ k k' n, n ≤ k → n ≤ k' → putG k n = putG k' n
  | 0, 0, _, _, _ => rfl
  | 0, k' + 1, n, h, _ => by rw [putG, putG, if_pos (by omega)]
  | k + 1, 0, n, _, h => by rw [putG, putG, if_pos (by omega)]
  | k + 1, k' + 1, n, h, h' => by
    rw [putG, putG]
    split
    · rfl
    · rw [putG_ir k k' (n / 128) (by omega) (by omega)]
/-- A number as bytes. -/
def put1 (n : Nat) : List UInt8 := putG n n
theorem put1_small {n : Nat} (h : n < 128) : put1 n = [UInt8.ofNat n] := by
  unfold put1
  cases n with
  | zero => rfl
  | succ n => rw [putG, if_pos h]
theorem put1_step {n : Nat} (h : ¬ n < 128) : put1 n = UInt8.ofNat (n % 128 + 128) :: put1 (n / 128) := by
  unfold put1
  cases n with
  | zero => omega
  | succ n => rw [putG, if_neg h, putG_ir n ((n + 1) / 128) ((n + 1) / 128) (by omega) (Nat.le_refl _)]
theorem put1_pos (n : Nat) : 1 ≤ (put1 n).length := by
  by_cases h : n < 128
  · rw [put1_small h]; exact Nat.le_refl _
  · rw [put1_step h]; simp
theorem put1_len : ∀ k n, n < 128 ^ (k + 1) → (put1 n).length ≤ k + 1 := by
  intro k
  induction k with
  | zero => intro n h; rw [put1_small (by simpa using h)]; exact Nat.le_refl _
  | succ k ih =>
    intro n h
    by_cases hn : n < 128
    · rw [put1_small hn]; simp
    · rw [put1_step hn, List.length_cons]
      have := ih (n / 128) (by rw [Nat.pow_succ] at h; omega)
      omega
theorem put1_ten {n : Nat} (h : n < 18446744073709551616) : (put1 n).length ≤ 10 := put1_len 9 n (by omega)
/-- Numbers one behind the other. -/
def putL : List Nat → List UInt8
  | [] => []
  | n :: l => put1 n ++ putL l
theorem putL_append (a b : List Nat) : putL (a ++ b) = putL a ++ putL b := by
  induction a with
  | nil => rfl
  | cons n a ih => rw [List.cons_append, putL, putL, ih, List.append_assoc]
theorem putL_one (n : Nat) : putL [n] = put1 n := by rw [putL, putL, List.append_nil]
theorem putL_len (l : List Nat) (h : ∀ n ∈ l, n < 18446744073709551616) : (putL l).length ≤ 10 * l.length := by
  induction l with
  | nil => exact Nat.le_refl _
  | cons n l ih =>
    rw [putL, List.length_append, List.length_cons]
    have h1 := put1_ten (h n (List.mem_cons_self))
    have h2 := ih (fun m hm => h m (List.mem_cons_of_mem _ hm))
    omega
/-- What is read at the beginning, i bytes of the number being read already: an error (0: none), how many bytes, the number. -/
def tk : Nat → List UInt8 → Nat × Nat × Nat
  | i, [] => if i < 10 then (30, 0, 0) else (31, 0, 0)
  | i, c :: l =>
    if ¬ i < 10 then (31, 0, 0)
    else if c.toNat < 128 then
      if (i = 9 ∧ c.toNat ≠ 1) ∨ (c.toNat = 0 ∧ 0 < i) then (31, 0, 0) else (0, 1, c.toNat)
    else ((tk (i + 1) l).1, (tk (i + 1) l).2.1 + 1, c.toNat % 128 + 128 * (tk (i + 1) l).2.2)
theorem tk_nil {i : Nat} (h : i < 10) : tk i [] = (30, 0, 0) := by rw [tk, if_pos h]
theorem tk_ten {i : Nat} (h : ¬ i < 10) (l : List UInt8) : tk i l = (31, 0, 0) := by
  cases l with
  | nil => rw [tk, if_neg h]
  | cons c l => rw [tk, if_pos h]
theorem tk_more {i : Nat} {c : UInt8} (h : i < 10) (hc : ¬ c.toNat < 128) (l : List UInt8) :
    tk i (c :: l) = ((tk (i + 1) l).1, (tk (i + 1) l).2.1 + 1, c.toNat % 128 + 128 * (tk (i + 1) l).2.2) := by rw [tk, if_neg (by omega), if_neg hc]
theorem tk_bad {i : Nat} {c : UInt8} (h : i < 10) (hc : c.toNat < 128) (hb : (i = 9 ∧ c.toNat ≠ 1) ∨ (c.toNat = 0 ∧ 0 < i)) (l : List UInt8) : tk i (c :: l) = (31, 0, 0) := by
  rw [tk, if_neg (by omega), if_pos hc, if_pos hb]
theorem tk_end {i : Nat} {c : UInt8} (h : i < 10) (hc : c.toNat < 128) (hb : ¬ ((i = 9 ∧ c.toNat ≠ 1) ∨ (c.toNat = 0 ∧ 0 < i))) (l : List UInt8) : tk i (c :: l) = (0, 1, c.toNat) := by
  rw [tk, if_neg (by omega), if_pos hc, if_neg hb]
theorem ofNat_small {m : Nat} (h : m < 256) : (UInt8.ofNat m).toNat = m := UInt8.toNat_ofNat_of_lt' h
/-- What is put is taken, whatever stands behind. -/
theorem tk_put : ∀ (k n i : Nat), n ≤ k → n * 128 ^ i < 18446744073709551616 → (0 < i → 0 < n) → ∀ rest, tk i (put1 n ++ rest) = (0, (put1 n).length, n) := by
  intro k
  induction k with
  | zero =>
    intro n i hk hb hp rest
    obtain rfl : n = 0 := by omega
    obtain rfl : i = 0 := by have := hp; omega
    rfl
  | succ k ih =>
    intro n i hk hb hp rest
    have hi : i < 10 := by
      apply Classical.byContradiction
      intro hc
      have h1 : 128 ^ 10 ≤ 128 ^ i := Nat.pow_le_pow_right (by omega) (by omega)
      have h2 : 1 * 128 ^ i ≤ n * 128 ^ i := Nat.mul_le_mul_right _ (hp (by omega))
      omega
    by_cases hn : n < 128
    · rw [put1_small hn]
      show tk i (UInt8.ofNat n :: rest) = _
      rw [tk_end hi (by rw [ofNat_small (by omega)]; exact hn), ofNat_small (by omega)]
      · rfl
      · rw [ofNat_small (by omega)]
        rintro (⟨h9, h1⟩ | ⟨h0, h1⟩)
        · subst h9
          have := hp (by omega)
          omega
        · have := hp h1; omega
    · rw [put1_step hn]
      show tk i (UInt8.ofNat (n % 128 + 128) :: (put1 (n / 128) ++ rest)) = _
      have hd : n / 128 * 128 ^ (i + 1) < 18446744073709551616 := by
        rw [Nat.pow_succ, Nat.mul_comm (128 ^ i) 128, ← Nat.mul_assoc]
        exact Nat.lt_of_le_of_lt (Nat.mul_le_mul_right _ (Nat.div_mul_le_self n 128)) hb
      have := ih (n / 128) (i + 1) (by omega) hd (fun _ => by omega) rest
      rw [tk_more hi (by rw [ofNat_small (by omega)]; omega), this, ofNat_small (by omega)]
      show (0, _, _) = _
      simp only [List.length_cons, Prod.mk.injEq, true_and]
      omega
/-- What is taken is put again. -/
theorem tk_one (l : List UInt8) : ∀ i, (tk i l).1 = 0 → put1 (tk i l).2.2 = l.take (tk i l).2.1 ∧ (tk i l).2.2 * 128 ^ i < 18446744073709551616 ∧ (0 < i → 0 < (tk i l).2.2) ∧ 1 ≤ (tk i l).2.1 ∧ (tk i l).2.1 ≤ l.length := by
  induction l with
  | nil =>
    intro i h
    by_cases hi : i < 10
    · rw [tk_nil hi] at h; cases h
    · rw [tk_ten hi] at h; cases h
  | cons c l ih =>
    intro i h
    have hc256 := c.toNat_lt
    by_cases hi : i < 10
    · by_cases hc : c.toNat < 128
      · by_cases hb : (i = 9 ∧ c.toNat ≠ 1) ∨ (c.toNat = 0 ∧ 0 < i)
        · rw [tk_bad hi hc hb] at h; cases h
        · rw [tk_end hi hc hb]
          dsimp only
          refine ⟨?_, ?_, ?_, Nat.le_refl _, by simp⟩
          · rw [put1_small hc]
            simp
          · by_cases h9 : i = 9
            · subst h9
              have : c.toNat = 1 := by omega
              rw [this]
              decide
            · have h8 : 128 ^ i ≤ 128 ^ 8 := Nat.pow_le_pow_right (by omega) (by omega)
              have h7 : c.toNat * 128 ^ i ≤ 127 * 128 ^ 8 := Nat.mul_le_mul (by omega) h8
              have h6 : 127 * 128 ^ 8 < 18446744073709551616 := by decide
              omega
          · intro h0; omega
      · rw [tk_more hi hc] at h ⊢
        dsimp only at h ⊢
        obtain ⟨h1, h2, h3, h4, h5⟩ := ih (i + 1) h
        have h3 := h3 (by omega)
        generalize tk (i + 1) l = r at h1 h2 h3 h4 h5
        obtain ⟨e, len, v⟩ := r
        dsimp only at h1 h2 h3 h4 h5 ⊢
        have hm : (c.toNat % 128 + 128 * v) % 128 = c.toNat % 128 := by omega
        have hq : (c.toNat % 128 + 128 * v) / 128 = v := by omega
        refine ⟨?_, ?_, ?_, by omega, by simp; omega⟩
        · rw [put1_step (by omega), hm, hq, h1, List.take_succ_cons]
          congr 1
          apply UInt8.toNat_inj.1
          rw [ofNat_small (by omega)]
          omega
        · have hi8 : i < 9 := by
            apply Classical.byContradiction
            intro hh
            have h9 : 128 ^ 10 ≤ 128 ^ (i + 1) := Nat.pow_le_pow_right (by omega) (by omega)
            have h10 : 1 * 128 ^ (i + 1) ≤ v * 128 ^ (i + 1) := Nat.mul_le_mul_right _ h3
            omega
          rw [Nat.pow_succ, Nat.mul_comm (128 ^ i) 128, ← Nat.mul_assoc] at h2
          obtain ⟨p, hp⟩ : ∃ p, 9 = i + 1 + p := ⟨9 - (i + 1), by omega⟩
          have key : (c.toNat % 128 + 128 * v) * 128 ^ i < 18446744073709551616 := by
            have e : (18446744073709551616 : Nat) = (2 * 128 ^ (p + 1)) * 128 ^ i := by
              rw [Nat.mul_assoc, ← Nat.pow_add, show p + 1 + i = 9 by omega]
            rw [e] at h2 ⊢
            have hpos : 0 < 128 ^ i := Nat.pow_pos (by omega)
            have h2 := Nat.lt_of_mul_lt_mul_right h2
            apply (Nat.mul_lt_mul_right hpos).2
            have e2 : 2 * 128 ^ (p + 1) = 128 * (2 * 128 ^ p) := by rw [Nat.pow_succ]; omega
            rw [e2] at h2 ⊢
            omega
          exact key
        · intro _; omega
    · rw [tk_ten hi] at h; cases h
end Go.Proofs.YteedmmljahgpjabDoor.W
