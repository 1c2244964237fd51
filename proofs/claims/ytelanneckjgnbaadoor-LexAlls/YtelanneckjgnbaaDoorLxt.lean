/-
  The walk of the document's Tokens.
-/
import Derived.Test.YtelanneckjgnbaaDoorLxb
namespace Go.Proofs.YtelanneckjgnbaaDoor
open Go.RowKit

/-- What Tokens answers. -/
def tksE (s : ByteArray) : Int := if s.size > 4096 then 110 else (begO s 0).2.1
def tksB (s : ByteArray) : Int := if tksE s = 0 then 0 else if s.size > 4096 then 0 else (begO s 0).2.2
def tksL (s : ByteArray) : List Tk := if tksE s = 0 then (begO s 0).1 else []
theorem RL.none {W w : World} (h : Below W.heap.size W w) : RL W w (.slice none 0 0) [] := ⟨Row.nil _ _ _ _, fun k h => by simp [Value.ownBlock] at h, h⟩
set_option maxRecDepth 100000 in
set_option maxHeartbeats 2000000 in
theorem tokens_any (s : ByteArray) (hs : s.size ≤ 140737488355328) (w : World) :
    Calls Tryd.prog 11 #[.string s] w fun e w' => ∃ v, e = .returned (.tuple #[v, .int .i64 (tksE s), .int .i64 (tksB s)]) ∧ RL w w' v (tksL s) := by
  by_cases h : s.size > 4096
  · have K1 : tksE s = 110 := by unfold tksE; rw [if_pos h]
    have K2 : tksB s = 0 := by unfold tksB; rw [K1, if_neg (by decide), if_pos h]
    have K3 : tksL s = [] := by unfold tksL; rw [K1, if_neg (by decide)]
    rw [K1, K2, K3]
    have h' : (s.size : Int) > 4096 := by omega
    clear K1 K2 K3
    go_enter Tryd.func11, Tryd.ntmps11
    go_wp2
    exact bodyPost_ret (results_t3 (p := 2) (u := 3) (v := 4) rfl _ _) rfl ⟨_, rfl, RL.nil w⟩
  · have h' : ¬ (s.size : Int) > 4096 := by omega
    have cB := begin_any s (by omega) w
    obtain ⟨L, E, B, hO⟩ : ∃ L E B, begO s 0 = (L, E, B) := ⟨_, _, _, rfl⟩
    have K1 : tksE s = E := by unfold tksE; rw [if_neg h, hO]
    rw [hO] at cB
    by_cases hE : E = 0
    · have K2 : tksB s = 0 := by unfold tksB; rw [K1, if_pos hE]
      have K3 : tksL s = L := by unfold tksL; rw [K1, if_pos hE, hO]
      rw [K1, K2, K3]
      subst hE
      have he : ((0 : Int) != 0) = false := rfl
      clear K1 K2 K3 hO
      go_enter Tryd.func11, Tryd.ntmps11
      go_wp2_with fail
      refine cB.mono ?_
      rintro _ w1 ⟨v, rfl, hR⟩
      have HX := hR.hid
      clear hR
      go_wp2
      exact bodyPost_ret (results_t3 (p := 2) (u := 3) (v := 4) rfl _ _) rfl ⟨_, rfl, HX.out⟩
    · have K2 : tksB s = B := by unfold tksB; rw [K1, if_neg hE, if_neg h, hO]
      have K3 : tksL s = [] := by unfold tksL; rw [K1, if_neg hE]
      rw [K1, K2, K3]
      have he : (E != 0) = true := by simp [hE]
      clear K1 K2 K3 hO hE
      go_enter Tryd.func11, Tryd.ntmps11
      go_wp2_with fail
      refine cB.mono ?_
      rintro _ w1 ⟨v, rfl, hR⟩
      have HX := hR.hid
      clear hR
      go_wp2
      exact bodyPost_ret (results_t3 (p := 2) (u := 3) (v := 4) rfl _ _) rfl ⟨_, rfl, RL.none HX.out.B⟩
end Go.Proofs.YtelanneckjgnbaaDoor
