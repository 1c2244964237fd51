/-
  The walk of the owner's look at lists of tokens.
-/
import Derived.Test.YtelanneckjgnbaaDoorOt
namespace Go.Proofs.YtelanneckjgnbaaDoor
open Go.RowKit

theorem spot_sp (i k : Nat) (hi : i ≤ 1000) (hk : k ≤ 1000000000) (w : World) : Calls Tryd.prog 64 #[.int .i64 i, .int .i64 k] w fun e w' => e = .returned (.int .i64 (spI i k)) ∧ w' = w := spot_any i k hi hk w
theorem behind_bh (i k : Nat) (hi : i ≤ 1000) (hk : k ≤ 1000) (w : World) : Calls Tryd.prog 65 #[.int .i64 i, .int .i64 k] w fun e w' => e = .returned (.int .i64 (bhI i k)) ∧ w' = w := behindR_any i k hi hk w
theorem drewN_add (w : World) (a b : Nat) : (w.drewN a).drewN b = w.drewN (a + b) := by
  unfold World.drewN; simp [Nat.add_assoc]
theorem below_drewMv {w v : World} {F : Nat → Prop} (h : Mv w v F) (n : Nat) : Mv w (v.drewN n) F := ⟨h.os, h.tape, h.output, h.size, h.block⟩
set_option maxRecDepth 100000 in
set_option maxHeartbeats 8000000 in
theorem ownT_any (w : World) (g N c : Nat) (V : Nat → Value) (n : Nat → Nat) (C : Nat → Nat → Value) (hC : ∀ j k, j < N → k < n j → ∃ p, C j (k * 5 + 4) = .int .i64 p) (hN : N ≤ 1000) (hn : ∀ j, j < N → n j ≤ 100000000) (ap : Aprt w g N V) (h : P1 49 5 w w g N V n C) :
    Calls Tryd.prog 32 #[.slice (some ⟨g, 0, none⟩) N c] w fun e w' => e = .returned (.bool true) ∧ Mv w w' (bks N V) := by
  have AP := ap.hid
  have HFm : Hid (∀ j, j < N → ∃ ao c, V j = .slice ao (n j) c ∧ (0 < n j → ∃ b, ao = some ⟨b, 0, none⟩)) := fun j hj => by
    obtain ⟨ao, c, e, h1, _⟩ := (h.row j hj).form
    exact ⟨ao, c, e, h1⟩
  have H1 := h.startT.hid
  have HN : Hid (∀ j, j < N → n j ≤ 100000000) := hn
  have HC : Hid (∀ i k, ∃ p, i < N → k < n i → cmT C i k i (k * 5 + 4) = .int .i64 p) := fun i k => by
    by_cases hh : i < N ∧ k < n i
    · obtain ⟨p, hp⟩ := hC i k hh.1 hh.2
      exact ⟨p, fun _ _ => by unfold cmT; rw [if_neg (by omega), hp]⟩
    · exact ⟨0, fun a b => absurd ⟨a, b⟩ hh⟩
  clear ap h hn hC
  go_enter Tryd.func32, Tryd.ntmps32
  go_wp2
  go_loopw [4] (fun x wr => ∃ i : Nat, i ≤ N ∧ x = .int .i64 i ∧ P1 49 5 w wr g N V n (cmT C i 0)) (fun x _ => N - (intOf x).toNat)
  case atStart => exact ⟨0, by omega, rfl, H1.out⟩
  case round =>
    obtain ⟨i, hiN, rfl, hp⟩ := hrel
    clear H1
    by_cases hi : i < N
    · have hi' : (i : Int) < (N : Int) := by omega
      have hni := HN.out i hi
      obtain ⟨ao, cc, eV, hV0, _⟩ := (hp.row i hi).form
      have HP := hp.hid
      have HV : Hid (V i = .slice ao (n i) cc) := eV
      have H0 : Hid (0 < n i → ∃ b, ao = some ⟨b, 0, none⟩) := hV0
      obtain ⟨m, em⟩ : ∃ m, n i = m := ⟨_, rfl⟩
      have hcell := hp.cell i hi
      rw [eV, em] at hcell
      rw [em] at hni H0
      have HM : Hid (n i = m) := em
      clear hp eV hV0 em
      go_wp2
      go_loopw [5] (fun x wr2 => ∃ k : Nat, k ≤ m ∧ x = .int .i64 k ∧ P1 49 5 w wr2 g N V n (cmT C i k)) (fun x _ => m - (intOf x).toNat)
      case atStart => exact ⟨0, by omega, rfl, HP.out⟩
      case round =>
        obtain ⟨k, hkm, rfl, hq⟩ := hrel
        clear hcell
        have hcell := hq.cell i hi
        rw [HV.out, HM.out] at hcell
        have HQ := hq.hid
        by_cases hk : k < m
        · have hk' : (k : Int) < (m : Int) := by omega
          obtain ⟨b, rfl⟩ := H0.out (by omega)
          have hr := hq.row i hi
          rw [HV.out, HM.out] at hr
          have z4 := hr.cell (j := k * 5 + 4) (by omega)
          have f4 := hr.frozen (k * 5 + 4)
          obtain ⟨p, hp⟩ := HC.out i k
          rw [hp hi (by rw [HM.out]; exact hk)] at z4
          have cS := spot_sp i k (by omega) (by omega)
          obtain ⟨sp, esp⟩ : ∃ sp, spI i k = sp := ⟨_, rfl⟩
          have HSP : Hid (spI i k = sp) := esp
          rw [esp] at cS
          clear hr hq hp esp
          go_wp2_with fail
          go_region_with (go_at_call 64; refine (cS _).mono ?_; rintro _ vv ⟨rfl, q⟩; obtain rfl := q.symm)
          all_goals go_wp2
          all_goals exact ⟨⟨k + 1, by omega, by go_num, (by have := (HQ.out.markT AP.out hi (k := k) (by rw [HV.out])).drew; rwa [HSP.out] at this)⟩, by simp only [intOf]; omega⟩
        · obtain rfl : k = m := by omega
          clear hq
          go_wp2
          refine ⟨⟨i + 1, by omega, by go_num, P1.nextT (by rw [HM.out]; exact HQ.out)⟩, by simp only [intOf]; omega⟩
    · obtain rfl : N = i := by omega
      have H2 := (hp.doneT.done (le := 39) (K := 8) (A := apT C n)).hid
      clear hp hiN hi HC
      go_wp2
      go_loopw [3, 6] (fun lv x wr3 => ∃ (i : Nat) (U : Nat → Value), i ≤ N ∧ x = .int .i64 i ∧ P2 49 39 5 8 w wr3 g N V n (mkT' C) (apT C n) i U lv) (fun _ x _ => N - (intOf x).toNat)
      case atStart => exact ⟨0, _, by omega, rfl, H2.out⟩
      case round =>
        obtain ⟨i, U, hiN, rfl, hp⟩ := hrel
        clear H2
        by_cases hi : i < N
        · have hi' : (i : Int) < (N : Int) := by omega
          have hni := HN.out i hi
          obtain ⟨ao, cc, eV, _, _⟩ := (hp.row i (Nat.le_refl _) hi).form
          have hcell := hp.cell i hi
          rw [eV] at hcell
          have hb := hp.begin AP.out hi (fun q hq => (apT_in hq).symm)
          rw [eV] at hb
          have HP := hb.hid
          clear hp eV hb
          go_wp2
          go_loopw [7, 8] (fun X x wr4 => ∃ k : Nat, k ≤ 8 ∧ x = .int .i64 k ∧ P3 49 39 5 8 w wr4 g N V n (mkT' C) (apT C n) i U u3 k X) (fun _ x _ => 8 - (intOf x).toNat)
          case atStart => exact ⟨0, by omega, rfl, HP.out⟩
          case round =>
            obtain ⟨k, hk8, rfl, hq⟩ := hrel
            have HQ := hq.hid
            clear hq hcell HP
            by_cases hk : k < 8
            · have hk' : (k : Int) < 8 := by omega
              have cS := behind_bh i k (by omega) (by omega)
              go_wp2_with (first | (go_at_call 65; refine (cS _).mono ?_; rintro _ vv ⟨rfl, q⟩; obtain rfl := q.symm) | (at_builtin; refine append_markT rfl (.tmp 52) (.tmp 57) rfl AP.out hi HQ.out rfl rfl (by omega) ?_; intro X' v' hr'; have HR := hr'.hid; clear hr'))
              exact ⟨⟨k + 1, by omega, by go_num, HR.out⟩, by simp only [intOf]; omega⟩
            · obtain rfl : k = 8 := by omega
              obtain ⟨ax, cx, eX⟩ := HQ.out.form
              subst eX
              go_wp2_with (at_builtin; refine append_longT rfl (.tmp 59) (.tmp 61) rfl AP.out HQ.out rfl rfl rfl (by omega) ?_; intro lv' v' hr'; have HR := hr'.hid; clear hr')
              exact ⟨⟨i + 1, _, by omega, by go_num, HR.out⟩, by simp only [intOf]; omega⟩
        · obtain rfl : N = i := by omega
          have H3 := hp.hid
          obtain ⟨W, eW⟩ : ∃ W, W = wr := ⟨_, rfl⟩
          rw [← eW] at H3
          have HMv : Hid (Mv w W (bks N V)) := H3.out.mv
          clear hp hiN hi
          go_wp2
          rw [← eW]
          clear eW
          go_loopw [9] (fun x wz => ∃ i q : Nat, i ≤ N ∧ x = .int .i64 i ∧ wz = W.drewN q) (fun x _ => N - (intOf x).toNat)
          case atStart => exact ⟨0, 0, by omega, rfl, rfl⟩
          case round =>
            obtain ⟨i, nq0, hiN, rfl, rfl⟩ := hrel
            by_cases hi : i < N
            · have hi' : (i : Int) < (N : Int) := by omega
              have hni := HN.out i hi
              obtain ⟨gl, lc, bu, cu, e1, e2, hu, hf⟩ := H3.out.look (by decide) (by decide) hi
              have HF : Hid (∀ q, q < (n i + 8) * 5 → W.cell? ⟨bu, q, none⟩ = some (apT C n i q)) := hf
              have hv := H3.out.cell i hi
              have HR : Hid (Rd W 5 (V i) (n i) (mkT' C i)) := H3.out.rd i hi
              obtain ⟨ao, cc, eV, h0⟩ := HFm.out i hi
              have H0 : Hid (0 < n i → ∃ b, ao = some ⟨b, 0, none⟩) := h0
              have HV : Hid (V i = .slice ao (n i) cc) := eV
              rw [eV] at hv
              obtain ⟨m, em⟩ : ∃ m, n i = m := ⟨_, rfl⟩
              rw [em] at hv hni hu
              have HM : Hid (n i = m) := em
              obtain ⟨m8, em8⟩ : ∃ m8, m + 8 = m8 := ⟨_, rfl⟩
              rw [em8] at hu
              have HM8 : Hid (m + 8 = m8) := em8
              subst e1
              clear eV em hf h0 e2 em8
              go_wp2
              go_loopw [11] (fun x wz => ∃ k q : Nat, k ≤ m ∧ x = .int .i64 k ∧ wz = W.drewN q) (fun x _ => m - (intOf x).toNat)
              case atStart => exact ⟨0, nq0, by omega, rfl, rfl⟩
              case round =>
                obtain ⟨k, nq1, hkm, rfl, rfl⟩ := hrel
                by_cases hk : k < m
                · have hk' : (k : Int) < (m : Int) := by omega
                  obtain ⟨b, c', e3, hx⟩ := HR.out (k * 5 + 4) (by rw [HM.out]; omega)
                  rw [HV.out] at e3
                  simp at e3
                  obtain ⟨rfl, rfl⟩ := e3
                  have hy := HF.out (k * 5 + 4) (by rw [HM.out]; omega)
                  rw [apT_in (by rw [HM.out]; omega)] at hy
                  have em : mkT' C i (k * 5 + 4) = .int .i64 (spI i k) := by unfold mkT'; rw [if_pos (by omega), show (k * 5 + 4) / 5 = k by omega]
                  rw [em] at hx hy
                  have cS := spot_sp i k (by omega) (by omega)
                  obtain ⟨sp, esp⟩ : ∃ sp, spI i k = sp := ⟨_, rfl⟩
                  rw [esp] at cS hx hy
                  clear em esp
                  have k8' : (k : Int) < (m8 : Int) := by have := HM8.out; omega
                  obtain ⟨Y, eY⟩ : ∃ Y, W.drewN nq1 = Y := ⟨_, rfl⟩
                  have hvY : Y.cell? ⟨g, i, none⟩ = some (.slice (some ⟨b, 0, none⟩) m cc) := by rw [← eY]; exact hv
                  have huY : Y.cell? ⟨gl, i, none⟩ = some (.slice (some ⟨bu, 0, none⟩) m8 cu) := by rw [← eY]; exact hu
                  have hxY : Y.cell? ⟨b, k * 5 + 4, none⟩ = some (.int .i64 sp) := by rw [← eY]; exact hx
                  have hyY : Y.cell? ⟨bu, k * 5 + 4, none⟩ = some (.int .i64 sp) := by rw [← eY]; exact hy
                  have EY : Hid (W.drewN nq1 = Y) := eY
                  clear hv hu hx hy
                  go_wp2_with fail
                  clear eY
                  go_quiet ((go_at_call 64; refine Calls.quiet_of_same (cS _)))
                  go_wp2_with fail
                  exact ⟨⟨k + 1, nq1 + nq, by omega, by go_num, by rw [← EY.out]; exact drewN_add W nq1 nq⟩, by simp only [intOf]; omega⟩
                · obtain rfl : m = k := by omega
                  clear hk hkm
                  go_wp2
                  go_loopw [12] (fun x wz => ∃ k q : Nat, k ≤ 8 ∧ x = .int .i64 k ∧ wz = W.drewN q) (fun x _ => 8 - (intOf x).toNat)
                  case atStart => exact ⟨0, nq1, by omega, rfl, rfl⟩
                  case round =>
                    obtain ⟨k, nq2, hk8, rfl, rfl⟩ := hrel
                    by_cases hk : k < 8
                    · have hk' : (k : Int) < 8 := by omega
                      have hy := HF.out ((n i + k) * 5 + 4) (by omega)
                      rw [apT_out, HM.out] at hy
                      have cS := behind_bh i k (by omega) (by omega)
                      obtain ⟨sp, esp⟩ : ∃ sp, bhI i k = sp := ⟨_, rfl⟩
                      rw [esp] at cS hy
                      obtain ⟨q, eq⟩ : ∃ q, m + k = q := ⟨_, rfl⟩
                      rw [eq] at hy
                      have eq' : (m : Int) + (k : Int) = (q : Int) := by omega
                      have hq' : (q : Int) < (m8 : Int) := by have := HM8.out; omega
                      have hqb : (q : Int) ≤ 9223372036854775807 := by have := HM8.out; omega
                      obtain ⟨Y, eY⟩ : ∃ Y, W.drewN nq2 = Y := ⟨_, rfl⟩
                      have huY : Y.cell? ⟨gl, i, none⟩ = some (.slice (some ⟨bu, 0, none⟩) m8 cu) := by rw [← eY]; exact hu
                      have hyY : Y.cell? ⟨bu, q * 5 + 4, none⟩ = some (.int .i64 sp) := by rw [← eY]; exact hy
                      have EY : Hid (W.drewN nq2 = Y) := eY
                      clear esp eq hu hy hv
                      go_wp2_with fail
                      clear eY
                      go_quiet ((go_at_call 65; refine Calls.quiet_of_same (cS _)))
                      go_wp2_with fail
                      exact ⟨⟨k + 1, nq2 + nq, by omega, by go_num, by rw [← EY.out]; exact drewN_add W nq2 nq⟩, by simp only [intOf]; omega⟩
                    · obtain rfl : k = 8 := by omega
                      go_wp2
                      exact ⟨⟨i + 1, _, by omega, by go_num, rfl⟩, by simp only [intOf]; omega⟩
            · go_wp2
              go_ret
              exact ⟨rfl, below_drewMv HMv.out _⟩
end Go.Proofs.YtelanneckjgnbaaDoor
