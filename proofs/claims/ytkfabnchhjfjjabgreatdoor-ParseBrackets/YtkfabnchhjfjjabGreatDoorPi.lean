/-
  The walk of lex.first.
-/
import Derived.Test.YtkfabnchhjfjjabGreatDoorPr
import Derived.Test.YtkfabnchhjfjjabGreatDoorPb
namespace Go.Proofs.YtkfabnchhjfjjabGreatDoor
open Go.RowKit

/-- The program's first token from a place on; of what is none, its place alone. -/
def fsT (s : ByteArray) (f : Nat) : Tk := if oneE s f = 0 then oneT s f else tkP (oneP s f)
def fsV (s : ByteArray) (f : Nat) : Value := .tuple #[.agg (tkA (fsT s f)), .int .i64 (oneE s f)]
set_option maxRecDepth 100000 in
set_option maxHeartbeats 2000000 in
theorem first_any (s : ByteArray) (f : Nat) (hs : s.size ≤ 140737488355328) (hf : f ≤ s.size) (w : World) (ht : Tab w) :
    Calls Tryz.prog 70 #[.string s, .int .i64 f] w fun e w' => e = .returned (fsV s f) ∧ Below w.heap.size w w' := by
  obtain ⟨d, hd⟩ : ∃ d, oneP s f = d := ⟨_, rfl⟩
  have hdl : d ≤ s.size := by rw [← hd]; exact oneP_le s f hf
  have cS := start_any s f hs hf d hd.symm
  obtain ⟨W, eW, HR, HB, hz⟩ := box_one w
  obtain ⟨r0, r1, r2, r3, r4⟩ := HR.out.cells
  obtain ⟨f0, f1, f2, f3, f4⟩ := HR.out.froz
  by_cases h0 : d = s.size
  · have K : Hid (fsV s f = .tuple #[.agg (tkA (tkP d)), .int .i64 0]) := by
      show _ = _
      have e0 : oneE s f = 0 := by unfold oneE; rw [hd, if_pos h0]
      unfold fsV fsT
      rw [e0, if_pos rfl]
      unfold oneT
      rw [hd, if_pos h0]; rfl
    have h0' : ((d : Int) == (s.size : Int)) = true := by rw [h0]; simp
    clear hd h0
    go_enter Tryz.func70, Tryz.ntmps70
    go_wp2_with (go_at_call 86; refine (cS _).mono ?_; rintro _ v ⟨rfl, q⟩; obtain rfl := q.symm)
    exact bodyPost_ret (results_two (p := 4) (u := 5) (ty := 33) rfl _ _ w.heap.size 33 (tkA (tkP d)) (0, 0) _ rfl (HR.out.put (tkP d)) Tryz.underlying33 rfl (by kernel_rfl)) rfl ⟨by rw [K.out]; rfl, below_put HB.out (Nat.le_refl _) _ _ _ _ _⟩
  · have h0' : ((d : Int) == (s.size : Int)) = false := beq_false_of_ne (by omega)
    have hlt : d < s.size := by omega
    have hlt' : (d : Int) < (s.size : Int) := by omega
    obtain ⟨c, hc⟩ : ∃ c, s[d] = c := ⟨_, rfl⟩
    have hl := hd_at hlt hc letB
    have hg := hd_at hlt hc digB
    have hTW := ht.on HB.out
    cases b1 : letB c
    · cases b2 : digB c
      · have K : Hid (fsV s f = .tuple #[.agg (tkA (pmT s d)), .int .i64 (mkE s d)]) := by
          show _ = _
          have e0 : oneE s f = mkE s d := by unfold oneE; rw [hd, if_neg h0, hl, b1, if_neg (by decide), hg, b2, if_neg (by decide)]
          have e1 : oneT s f = mkT s d := by unfold oneT; rw [hd, if_neg h0, hl, b1, if_neg (by decide), hg, b2, if_neg (by decide)]
          unfold fsV fsT pmT
          rw [e0, e1, hd]
        have cM := markp_any s d hs hlt W
        obtain ⟨T, eT⟩ : ∃ T, pmT s d = T := ⟨_, rfl⟩
        obtain ⟨E, eE⟩ : ∃ E, mkE s d = E := ⟨_, rfl⟩
        rw [eT, eE] at cM K
        unfold tkA at cM
        clear hd h0 hl hg eT eE r0 r1 r2 r3 r4 f0 f1 f2 f3 f4
        go_enter Tryz.func70, Tryz.ntmps70
        go_wp2_with (first | (go_at_call 86; refine (cS _).mono ?_; rintro _ v ⟨rfl, q⟩; obtain rfl := q.symm) | (go_at_call 87; refine (isLetter_b b1 _).mono ?_; rintro _ v ⟨rfl, q⟩; obtain rfl := q.symm) | (go_at_call 89; refine (isDigit_b b2 _).mono ?_; rintro _ v ⟨rfl, q⟩; obtain rfl := q.symm))
        refine cM.mono ?_
        rintro _ v ⟨rfl, bb⟩
        have HR2 := (HR.out.onto bb).hid
        have HB2 : Hid (Below w.heap.size w v) := HB.out.trans (bb.mono HB.out.size)
        obtain ⟨r0, r1, r2, r3, r4⟩ := HR2.out.cells
        obtain ⟨f0, f1, f2, f3, f4⟩ := HR2.out.froz
        clear bb
        go_wp2_with fail
        exact bodyPost_ret (results_two (p := 4) (u := 5) (ty := 33) rfl _ _ w.heap.size 33 (tkA T) (0, 0) _ rfl (HR2.out.put T) Tryz.underlying33 rfl (by kernel_rfl)) rfl ⟨by rw [K.out]; rfl, below_put HB2.out (Nat.le_refl _) _ _ _ _ _⟩
      · have K : Hid (fsV s f = .tuple #[.agg (tkA (pbT s d)), .int .i64 (nbE s d)]) := by
          show _ = _
          have e0 : oneE s f = nbE s d := by unfold oneE; rw [hd, if_neg h0, hl, b1, if_neg (by decide), hg, b2, if_pos rfl]
          have e1 : oneT s f = nbT s d := by unfold oneT; rw [hd, if_neg h0, hl, b1, if_neg (by decide), hg, b2, if_pos rfl]
          unfold fsV fsT pbT
          rw [e0, e1, hd]
        have cM := numberp_any s d hs hlt (by rw [hg, b2]) W
        obtain ⟨T, eT⟩ : ∃ T, pbT s d = T := ⟨_, rfl⟩
        obtain ⟨E, eE⟩ : ∃ E, nbE s d = E := ⟨_, rfl⟩
        rw [eT, eE] at cM K
        unfold tkA at cM
        clear hd h0 hl hg eT eE r0 r1 r2 r3 r4 f0 f1 f2 f3 f4
        go_enter Tryz.func70, Tryz.ntmps70
        go_wp2_with (first | (go_at_call 86; refine (cS _).mono ?_; rintro _ v ⟨rfl, q⟩; obtain rfl := q.symm) | (go_at_call 87; refine (isLetter_b b1 _).mono ?_; rintro _ v ⟨rfl, q⟩; obtain rfl := q.symm) | (go_at_call 89; refine (isDigit_b b2 _).mono ?_; rintro _ v ⟨rfl, q⟩; obtain rfl := q.symm))
        refine cM.mono ?_
        rintro _ v ⟨rfl, bb⟩
        have HR2 := (HR.out.onto bb).hid
        have HB2 : Hid (Below w.heap.size w v) := HB.out.trans (bb.mono HB.out.size)
        obtain ⟨r0, r1, r2, r3, r4⟩ := HR2.out.cells
        obtain ⟨f0, f1, f2, f3, f4⟩ := HR2.out.froz
        clear bb
        go_wp2_with fail
        exact bodyPost_ret (results_two (p := 4) (u := 5) (ty := 33) rfl _ _ w.heap.size 33 (tkA T) (0, 0) _ rfl (HR2.out.put T) Tryz.underlying33 rfl (by kernel_rfl)) rfl ⟨by rw [K.out]; rfl, below_put HB2.out (Nat.le_refl _) _ _ _ _ _⟩
    · have K : Hid (fsV s f = .tuple #[.agg (tkA (pnT s d)), .int .i64 (nmE s d)]) := by
        show _ = _
        have e0 : oneE s f = nmE s d := by unfold oneE; rw [hd, if_neg h0, hl, b1, if_pos rfl]
        have e1 : oneT s f = nmT s d := by unfold oneT; rw [hd, if_neg h0, hl, b1, if_pos rfl]
        unfold fsV fsT pnT
        rw [e0, e1, hd]
      have cM := wordp_any s d hs hdl W hTW
      obtain ⟨T, eT⟩ : ∃ T, pnT s d = T := ⟨_, rfl⟩
      obtain ⟨E, eE⟩ : ∃ E, nmE s d = E := ⟨_, rfl⟩
      rw [eT, eE] at cM K
      unfold tkA at cM
      clear hd h0 hl hg eT eE r0 r1 r2 r3 r4 f0 f1 f2 f3 f4
      go_enter Tryz.func70, Tryz.ntmps70
      go_wp2_with (first | (go_at_call 86; refine (cS _).mono ?_; rintro _ v ⟨rfl, q⟩; obtain rfl := q.symm) | (go_at_call 87; refine (isLetter_b b1 _).mono ?_; rintro _ v ⟨rfl, q⟩; obtain rfl := q.symm))
      refine cM.mono ?_
      rintro _ v ⟨rfl, bb⟩
      have HR2 := (HR.out.onto bb).hid
      have HB2 : Hid (Below w.heap.size w v) := HB.out.trans (bb.mono HB.out.size)
      obtain ⟨r0, r1, r2, r3, r4⟩ := HR2.out.cells
      obtain ⟨f0, f1, f2, f3, f4⟩ := HR2.out.froz
      clear bb
      go_wp2_with fail
      exact bodyPost_ret (results_two (p := 4) (u := 5) (ty := 33) rfl _ _ w.heap.size 33 (tkA T) (0, 0) _ rfl (HR2.out.put T) Tryz.underlying33 rfl (by kernel_rfl)) rfl ⟨by rw [K.out]; rfl, below_put HB2.out (Nat.le_refl _) _ _ _ _ _⟩
end Go.Proofs.YtkfabnchhjfjjabGreatDoor
