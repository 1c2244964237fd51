/-
  The walk of lex.Tokens.
-/
import Derived.Test.YtkfabnchhjfjjabGreatDoorPj
import Derived.Test.YtkfabnchhjfjjabGreatDoorLx2
namespace Go.Proofs.YtkfabnchhjfjjabGreatDoor
open Go.RowKit

theorem tks_long {s : ByteArray} (h : s.size > 4096) : tksE s = 110 ∧ tksB s = 0 ∧ tksL s = [] := by
  have K1 : tksE s = 110 := by unfold tksE; rw [if_pos h]
  exact ⟨K1, by unfold tksB; rw [K1, if_neg (by decide), if_pos h], by unfold tksL; rw [K1, if_neg (by decide)]⟩
theorem tks_short {s : ByteArray} (h : ¬ s.size > 4096) {L : List Tk} {E B : Int} (hO : begO s 0 = (L, E, B)) : tksE s = E ∧ (E = 0 → tksB s = 0 ∧ tksL s = L) ∧ (E ≠ 0 → tksB s = B ∧ tksL s = []) := by
  have K1 : tksE s = E := by unfold tksE; rw [if_neg h, hO]
  refine ⟨K1, fun e => ?_, fun e => ?_⟩
  · unfold tksB tksL; rw [K1, if_pos e, if_pos e, hO]; exact ⟨rfl, rfl⟩
  · unfold tksB tksL; rw [K1, if_neg e, if_neg e, if_neg h, hO]; exact ⟨rfl, rfl⟩
set_option maxRecDepth 100000 in
set_option maxHeartbeats 2000000 in
theorem tokensp_any (s : ByteArray) (w : World) (ht : Tab w) :
    Calls Tryz.prog 50 #[.string s] w fun e w' => ∃ v, e = .returned (.tuple #[v, .int .i64 (tksE s), .int .i64 (tksB s)]) ∧ RL w w' v (tksL s) := by
  by_cases h : s.size > 4096
  · obtain ⟨K1, K2, K3⟩ := tks_long h
    rw [K1, K2, K3]
    have h' : (s.size : Int) > 4096 := by omega
    clear K1 K2 K3
    go_enter Tryz.func50, Tryz.ntmps50
    go_wp2
    exact bodyPost_ret (results_t3 (p := 2) (u := 3) (v := 4) rfl _ _) rfl ⟨_, rfl, RL.nil w⟩
  have h' : ¬ (s.size : Int) > 4096 := by omega
  have HTab := ht.hid
  clear ht
  go_enter Tryz.func50, Tryz.ntmps50
  go_wp2_with fail
  go_loopw [5, 6] (fun l i wr => ∃ (L : List Tk) (k : Nat), k ≤ s.size ∧ i = .int .i64 k ∧ L.length ≤ k ∧ RL w wr l L ∧ Hid (begO s 0 = (L ++ (begO s k).1, (begO s k).2))) (fun _ i _ => s.size - (intOf i).toNat)
  case atStart => exact ⟨[], 0, by omega, rfl, Nat.le_refl _, RL.nil w, by show _ = _; rfl⟩
  case round =>
    obtain ⟨L, k, hk, rfl, hL, hR, HG⟩ := hrel
    have cO := first_any s k (by omega) hk wr (HTab.out.on hR.B)
    unfold fsV fsT at cO
    obtain ⟨E, eE⟩ : ∃ E, oneE s k = E := ⟨_, rfl⟩
    rw [eE] at cO
    have HX := hR.hid
    have KE : Hid (oneE s k = E) := eE
    clear hR eE
    by_cases hE : E = 0
    · have hE' : (E != 0) = false := by simp [hE]
      obtain ⟨T, eT⟩ : ∃ T, oneT s k = T := ⟨_, rfl⟩
      rw [if_pos hE, eT] at cO
      subst hE
      have KT : Hid (oneT s k = T) := eT
      unfold tkA at cO
      clear eT
      go_wp2_with fail
      refine cO.mono ?_
      rintro _ v ⟨rfl, bb⟩
      have HX2 := (HX.out.call bb).hid
      clear bb HX cO
      have HX3 := (HX2.out.alloc (.cells (tkA T) 33)).hid
      have HT : Hid (TkH (v.alloc (.cells (tkA T) 33)) v.heap.size T) := heap_new _ _
      have HN : Hid (∀ b, (u5 : Value).ownBlock = some b → b < v.heap.size) := HX2.out.row.lt
      by_cases hk0 : T.k = 0
      · have e0 : (T.k == 0) = true := by simp [hk0]
        have K : Hid (begO s 0 = (L ++ [T], 0, 0)) := by
          show _ = _
          rw [HG.out, beg_end KE.out (by rw [KT.out]; exact hk0), KT.out]
        clear HG KT KE hk0
        go_wp2_with (at_builtin; refine append_token rfl (.tmp 23) (.tmp 25) rfl T HX3.out rfl (by show Value.slice (some ⟨v.heap.size + 1, 0, none⟩) 1 1 = _; rw [size_alloc]) (by omega) ?_; intro v1 w1 hr1 hs1 hk1; have HX1 := hr1.hid; have HT1 : Hid (TkH w1 v.heap.size T) := (hk1 _ (by simp) (fun e => by have := HN.out _ e; omega)).trans HT.out; obtain ⟨y0, y1, y2, y3, y4⟩ := HT1.out.cells; clear hk1 hs1 hr1)
        obtain ⟨z1, z2, _⟩ := tks_short h K.out
        obtain ⟨z2, z3⟩ := z2 rfl
        exact bodyPost_ret (results_t3 (p := 2) (u := 3) (v := 4) rfl _ _) rfl ⟨_, by rw [z1, z2]; rfl, by rw [z3]; exact HX1.out⟩
      · have e0 : (T.k == 0) = false := by simp [hk0]
        obtain ⟨q1, q2, q3, q4⟩ := beg_more hk KE.out (by rw [KT.out]; exact hk0)
        obtain ⟨Q, eQ⟩ : ∃ Q, oneQ s k = Q := ⟨_, rfl⟩
        rw [KT.out, eQ] at q3
        rw [KT.out, eQ] at q4
        rw [eQ] at q1 q2
        have K : Hid (begO s 0 = ((L ++ [T]) ++ (begO s Q).1, (begO s Q).2)) := by
          show _ = _
          rw [HG.out, q4]
          simp
        have cB := behind_any T
        rw [q3] at cB
        have cB2 := fun w => cB w (by omega) (by omega)
        unfold tkA at cB2
        clear HG KT KE hk0 q4 q3 cB eQ
        go_wp2_with (at_builtin; refine append_token rfl (.tmp 23) (.tmp 25) rfl T HX3.out rfl (by show Value.slice (some ⟨v.heap.size + 1, 0, none⟩) 1 1 = _; rw [size_alloc]) (by omega) ?_; intro v1 w1 hr1 hs1 hk1; have HX1 := hr1.hid; have HT1 : Hid (TkH w1 v.heap.size T) := (hk1 _ (by simp) (fun e => by have := HN.out _ e; omega)).trans HT.out; obtain ⟨y0, y1, y2, y3, y4⟩ := HT1.out.cells; clear hk1 hs1 hr1)
        refine (cB2 _).mono ?_
        rintro _ w2 ⟨rfl, b2⟩
        have HX4 := (HX1.out.call b2).hid
        clear b2 HX1 HT1 cB2
        go_wp2_with fail
        exact ⟨⟨L ++ [T], Q, q2, rfl, by simp; omega, HX4.out, K⟩, by simp only [intOf]; omega⟩
    · have hE' : (E != 0) = true := by simp [hE]
      rw [if_neg hE] at cO
      obtain ⟨B, eB⟩ : ∃ B, oneP s k = B := ⟨_, rfl⟩
      have K : Hid (begO s 0 = (L, E, (B : Int))) := by
        show _ = _
        rw [HG.out, beg_bad (by rw [KE.out]; exact hE), KE.out]
        have : oneB s k = B := by unfold oneB; rw [KE.out, if_neg hE, eB]
        rw [this]
        simp
      rw [eB] at cO
      unfold tkA at cO
      have hE2 : Hid (E ≠ 0) := hE
      clear HG KE hE eB
      go_wp2_with fail
      refine cO.mono ?_
      rintro _ v ⟨rfl, bb⟩
      have HX2 := (HX.out.call bb).hid
      obtain ⟨V, eV⟩ : ∃ V, v.alloc (.cells (tkA (tkP B)) 33) = V := ⟨_, rfl⟩
      have HX3 : Hid (RL w V u5 L) := by rw [← eV]; exact HX2.out.alloc _
      have HT3 : Hid (TkH V v.heap.size (tkP B)) := by rw [← eV]; exact heap_new _ _
      unfold tkA at eV
      clear bb cO
      go_wp2_with fail
      clear eV
      obtain ⟨y0, y1, y2, y3, y4⟩ := HT3.out.cells
      go_region
      go_wp2_with fail
      obtain ⟨z1, _, z2⟩ := tks_short h K.out
      obtain ⟨z2, z3⟩ := z2 hE2.out
      exact bodyPost_ret (results_t3 (p := 2) (u := 3) (v := 4) rfl _ _) rfl ⟨_, by rw [z1, z2]; rfl, by rw [z3]; exact RL.none HX3.out.B.drew⟩
end Go.Proofs.YtkfabnchhjfjjabGreatDoor
