/-
  The walk of the owner's look at lists of feeds.
-/
import Derived.Test.YtjjmpfpbfkploaaOwl
namespace Go.Proofs.Ytjjmpfpbfkploaa
open Go.RowKit

theorem Aprt.hid {w : World} {g N : Nat} {V : Nat → Value} (h : Aprt w g N V) : Hid (Aprt w g N V) := h
theorem P1.hid {w v : World} {g N : Nat} {V : Nat → Value} {n : Nat → Nat} {C : Nat → Nat → Fd} (h : P1 w v g N V n C) : Hid (P1 w v g N V n C) := h
theorem P2.hid {w v : World} {g N : Nat} {V : Nat → Value} {n : Nat → Nat} {i : Nat} {U : Nat → Value} {lv : Value} (h : P2 w v g N V n i U lv) : Hid (P2 w v g N V n i U lv) := h
theorem P3.hid {w v : World} {g N : Nat} {V : Nat → Value} {n : Nat → Nat} {i : Nat} {U : Nat → Value} {lv : Value} {k : Nat} {X : Value} (h : P3 w v g N V n i U lv k X) : Hid (P3 w v g N V n i U lv k X) := h

set_option maxRecDepth 100000 in
set_option maxHeartbeats 8000000 in
theorem ownF_any (w : World) (g N c : Nat) (V : Nat → Value) (n : Nat → Nat) (C : Nat → Nat → Fd) (hN : N ≤ 1000) (hn : ∀ j, j < N → n j ≤ 100000000) (ap : Aprt w g N V) (h : P1 w w g N V n C) :
    Calls Try.prog 39 #[.slice (some ⟨g, 0, none⟩) N c] w fun e w' => e = .returned (.bool true) ∧ Mv w w' (bks N V) := by
  have AP := ap.hid
  have HFm : Hid (∀ j, j < N → ∃ ao c, V j = .slice ao (n j) c ∧ (0 < n j → ∃ b, ao = some ⟨b, 0, none⟩)) := fun j hj => by
    obtain ⟨ao, c, e, h1, _⟩ := (h.row j hj).form
    exact ⟨ao, c, e, h1⟩
  have H1 := h.start.hid
  have HN : Hid (∀ j, j < N → n j ≤ 100000000) := hn
  clear ap h hn
  go_enter Try.func39, Try.ntmps39
  go_wp2
  go_loopw [3] (fun x wr => ∃ i : Nat, i ≤ N ∧ x = .int .i64 i ∧ P1 w wr g N V n (cmF C i 0)) (fun x _ => N - (intOf x).toNat)
  case atStart => exact ⟨0, by omega, rfl, H1.out⟩
  case round =>
    obtain ⟨i, hiN, rfl, hp⟩ := hrel
    clear H1
    by_cases hi : i < N
    · have hi' : (i : Int) < (N : Int) := by omega
      have hni := HN.out i hi
      obtain ⟨ao, cc, eV, hV0, _⟩ := (hp.row i hi).form
      have HP := hp.hid
      have HV : Hid (V i = .slice ao (n i) cc) := eV
      have H0 : Hid (0 < n i → ∃ b, ao = some ⟨b, 0, none⟩) := hV0
      obtain ⟨m, em⟩ : ∃ m, n i = m := ⟨_, rfl⟩
      have hcell := hp.cell i hi
      rw [eV, em] at hcell
      rw [em] at hni H0
      have HM : Hid (n i = m) := em
      clear hp eV hV0 em
      go_wp2
      go_loopw [4] (fun x wr2 => ∃ k : Nat, k ≤ m ∧ x = .int .i64 k ∧ P1 w wr2 g N V n (cmF C i k)) (fun x _ => m - (intOf x).toNat)
      case atStart => exact ⟨0, by omega, rfl, HP.out⟩
      case round =>
        obtain ⟨k, hkm, rfl, hq⟩ := hrel
        clear hcell
        have hcell := hq.cell i hi
        rw [HV.out, HM.out] at hcell
        have HQ := hq.hid
        by_cases hk : k < m
        · have hk' : (k : Int) < (m : Int) := by omega
          obtain ⟨b, rfl⟩ := H0.out (by omega)
          have hr := hq.row i hi
          rw [HV.out, HM.out] at hr
          have z0 := hr.cell (j := k * 3) (by omega)
          have z1 := hr.cell (j := k * 3 + 1) (by omega)
          have z2 := hr.cell (j := k * 3 + 2) (by omega)
          rw [fdF0] at z0
          rw [fdF1] at z1
          rw [fdF2] at z2
          have f0 := hr.frozen (k * 3)
          have f1 := hr.frozen (k * 3 + 1)
          have f2 := hr.frozen (k * 3 + 2)
          clear hr hq
          go_wp2
          exact ⟨⟨k + 1, by omega, by go_num, HQ.out.mark AP.out hi (by rw [HV.out])⟩, by simp only [intOf]; omega⟩
        · obtain rfl : k = m := by omega
          clear hq
          go_wp2
          refine ⟨⟨i + 1, by omega, by go_num, P1.next (by rw [HM.out]; exact HQ.out)⟩, by simp only [intOf]; omega⟩
    · obtain rfl : N = i := by omega
      have H2 := hp.done.hid
      clear hp hiN hi
      go_wp2
      go_loopw [5, 6] (fun lv x wr3 => ∃ (i : Nat) (U : Nat → Value), i ≤ N ∧ x = .int .i64 i ∧ P2 w wr3 g N V n i U lv) (fun _ x _ => N - (intOf x).toNat)
      case atStart => exact ⟨0, _, by omega, rfl, H2.out⟩
      case round =>
        obtain ⟨i, U, hiN, rfl, hp⟩ := hrel
        clear H2
        by_cases hi : i < N
        · have hi' : (i : Int) < (N : Int) := by omega
          have hni := HN.out i hi
          obtain ⟨ao, cc, eV, _, _⟩ := (hp.row i (Nat.le_refl _) hi).form
          have hcell := hp.cell i hi
          rw [eV] at hcell
          have hb := hp.begin AP.out hi
          rw [eV] at hb
          have HP := hb.hid
          clear hp eV hb
          go_wp2
          go_loopw [7, 8] (fun X x wr4 => ∃ k : Nat, k ≤ 16 ∧ x = .int .i64 k ∧ P3 w wr4 g N V n i U u5 k X) (fun _ x _ => 16 - (intOf x).toNat)
          case atStart => exact ⟨0, by omega, rfl, HP.out⟩
          case round =>
            obtain ⟨k, hk16, rfl, hq⟩ := hrel
            have HQ := hq.hid
            clear hq hcell HP
            by_cases hk : k < 16
            · have hk' : (k : Int) < 16 := by omega
              have hy : Hid (apF i (n i) (n i + k) = ⟨0, (-1 - (i : Int)) * 1000 - (k : Int), 0⟩) := by
                show _ = _
                unfold apF
                rw [if_neg (by omega), Nat.add_sub_cancel_left]
              go_wp2_with (at_builtin; refine append_mark rfl (.tmp 53) (.tmp 60) rfl AP.out hi HQ.out ⟨0, (-1 - (i : Int)) * 1000 - (k : Int), 0⟩ hy.out rfl rfl (by omega) ?_; intro X' v' hr'; have HR := hr'.hid; clear hr')
              exact ⟨⟨k + 1, by omega, by go_num, HR.out⟩, by simp only [intOf]; omega⟩
            · obtain rfl : k = 16 := by omega
              obtain ⟨ax, cx, eX⟩ := HQ.out.form
              subst eX
              go_wp2_with (at_builtin; refine append_long rfl (.tmp 62) (.tmp 64) rfl AP.out HQ.out rfl rfl rfl (by omega) ?_; intro lv' v' hr'; have HR := hr'.hid; clear hr')
              exact ⟨⟨i + 1, _, by omega, by go_num, HR.out⟩, by simp only [intOf]; omega⟩
        · obtain rfl : N = i := by omega
          have H3 := hp.hid
          clear hp hiN hi
          go_wp2
          go_loop [9] (fun x => ∃ i : Nat, i ≤ N ∧ x = .int .i64 i) (fun x => N - (intOf x).toNat)
          case atStart => exact ⟨0, by omega, rfl⟩
          case round =>
            obtain ⟨i, hiN, rfl⟩ := hrel
            by_cases hi : i < N
            · have hi' : (i : Int) < (N : Int) := by omega
              have hni := HN.out i hi
              obtain ⟨gl, lc, bu, cu, e1, e2, hu, hf⟩ := H3.out.look hi
              have HF : Hid (∀ k, k < n i + 16 → FdAt wr bu (k * 3) (apF i (n i) k)) := hf
              have hv := H3.out.cell i hi
              have HR : Hid (Rd wr (V i) (n i) (mkF i)) := H3.out.rd i hi
              obtain ⟨ao, cc, eV, h0⟩ := HFm.out i hi
              have H0 : Hid (0 < n i → ∃ b, ao = some ⟨b, 0, none⟩) := h0
              have HV : Hid (V i = .slice ao (n i) cc) := eV
              rw [eV] at hv
              obtain ⟨m, em⟩ : ∃ m, n i = m := ⟨_, rfl⟩
              rw [em] at hv hni hu
              have HM : Hid (n i = m) := em
              subst e1
              clear eV em hf h0 e2
              go_wp2
              go_loop [11] (fun x => ∃ k : Nat, k ≤ m ∧ x = .int .i64 k) (fun x => m - (intOf x).toNat)
              case atStart => exact ⟨0, by omega, rfl⟩
              case round =>
                obtain ⟨k, hkm, rfl⟩ := hrel
                by_cases hk : k < m
                · have hk' : (k : Int) < (m : Int) := by omega
                  obtain ⟨b, c', e3, hx⟩ := HR.out k (by rw [HM.out]; exact hk)
                  rw [HV.out] at e3
                  simp at e3
                  obtain ⟨rfl, rfl⟩ := e3
                  have hy := HF.out k (by rw [HM.out]; omega)
                  rw [show apF i (n i) k = mkF i k from if_pos (by rw [HM.out]; exact hk)] at hy
                  obtain ⟨x0, x1, x2⟩ := hx
                  obtain ⟨y0, y1, y2⟩ := hy
                  unfold mkF at x0 x1 x2 y0 y1 y2
                  dsimp only at x0 x1 x2 y0 y1 y2
                  go_wp2
                  exact ⟨⟨k + 1, by omega, by go_num⟩, by simp only [intOf]; omega⟩
                · obtain rfl : m = k := by omega
                  clear hk hkm
                  go_wp2
                  go_loop [12] (fun x => ∃ k : Nat, k ≤ 16 ∧ x = .int .i64 k) (fun x => 16 - (intOf x).toNat)
                  case atStart => exact ⟨0, by omega, rfl⟩
                  case round =>
                    obtain ⟨k, hk16, rfl⟩ := hrel
                    by_cases hk : k < 16
                    · have hk' : (k : Int) < 16 := by omega
                      have hy := HF.out (n i + k) (by omega)
                      rw [show apF i (n i) (n i + k) = ⟨0, (-1 - (i : Int)) * 1000 - (k : Int), 0⟩ by unfold apF; rw [if_neg (by omega), Nat.add_sub_cancel_left], HM.out] at hy
                      obtain ⟨q, eq⟩ : ∃ q, m + k = q := ⟨_, rfl⟩
                      rw [eq] at hy
                      obtain ⟨y0, y1, y2⟩ := hy
                      dsimp only at y0 y1 y2
                      have eq' : (m : Int) + (k : Int) = (q : Int) := by omega
                      have hq' : (q : Int) < ((m + 16 : Nat) : Int) := by omega
                      go_wp2
                      exact ⟨⟨k + 1, by omega, by go_num⟩, by simp only [intOf]; omega⟩
                    · obtain rfl : k = 16 := by omega
                      go_wp2
                      exact ⟨⟨i + 1, by omega, by go_num⟩, by simp only [intOf]; omega⟩
            · go_wp2
              go_ret
              exact ⟨rfl, H3.out.mv⟩
end Go.Proofs.Ytjjmpfpbfkploaa
