import Derived.Test.YtighocmdlifheaaDoorM15
import Derived.Test.YtighocmdlifheaaDoorM5
import Derived.Test.YtighocmdlifheaaDoorM6
/-
  The walk of the owner's look at lists of texts.
-/
namespace Go.Proofs.YtighocmdlifheaaDoor
open Go.RowKit

theorem GB.keep {W v : World} (h : GB W v) {b j : Nat} {x : Option Value} (hc : W.cell? ⟨b, j, none⟩ = x) (hb : b < W.heap.size) : v.cell? ⟨b, j, none⟩ = x := (World.cell?_of_block (h.block b hb)).trans hc
theorem GB.froz {W v : World} (h : GB W v) {b j : Nat} (hc : W.frozen? ⟨b, j, none⟩ = false) (hb : b < W.heap.size) : v.frozen? ⟨b, j, none⟩ = false := by
  unfold World.frozen? at hc ⊢
  rw [h.block b hb]; exact hc
/-- The world has grown from X on, and one block may have been written. -/
structure GX (X : World) (b : Nat) (v : World) : Prop where
  size : X.heap.size ≤ v.heap.size
  blk : ∀ q, q < X.heap.size → q ≠ b → v.heap[q]? = X.heap[q]?
theorem GX.refl (X : World) (b : Nat) : GX X b X := ⟨Nat.le_refl _, fun _ _ _ => rfl⟩
theorem GX.drew {X v : World} {b : Nat} (h : GX X b v) : GX X b v.drew := ⟨h.size, h.blk⟩
theorem GX.call {X u v : World} {b : Nat} (k : Below u.heap.size u v) (h : GX X b u) : GX X b v := ⟨Nat.le_trans h.size k.size, fun q hq hb => (k.block q (Nat.lt_of_lt_of_le hq h.size)).trans (h.blk q hq hb)⟩
theorem GX.set {X v : World} {b j : Nat} {x : Value} (h : GX X b v) : GX X b (v.setCell ⟨b, j, none⟩ x) := ⟨by simpa using h.size, fun q hq hb => (Below.heap_setCell _ _ _ _ (by simpa using hb)).trans (h.blk q hq hb)⟩
theorem GX.keep {X v : World} {b g j : Nat} {x : Option Value} (hc : X.cell? ⟨g, j, none⟩ = x) (hg : g < X.heap.size) (hne : g ≠ b) (h : GX X b v) : v.cell? ⟨g, j, none⟩ = x ∧ GX X b v := ⟨(World.cell?_of_block (h.blk g hg hne)).trans hc, h⟩
/-- What the last look reads: four cells. -/
theorem GB.four {W v : World} (h : GB W v) {b1 j1 b2 j2 b3 j3 b4 j4 : Nat} {x1 x2 x3 x4 : Option Value} (c1 : W.cell? ⟨b1, j1, none⟩ = x1) (c2 : W.cell? ⟨b2, j2, none⟩ = x2) (c3 : W.cell? ⟨b3, j3, none⟩ = x3) (c4 : W.cell? ⟨b4, j4, none⟩ = x4)
    (hb : b1 < W.heap.size ∧ b2 < W.heap.size ∧ b3 < W.heap.size ∧ b4 < W.heap.size) : v.cell? ⟨b1, j1, none⟩ = x1 ∧ v.cell? ⟨b2, j2, none⟩ = x2 ∧ v.cell? ⟨b3, j3, none⟩ = x3 ∧ v.cell? ⟨b4, j4, none⟩ = x4 ∧ GB W v :=
  ⟨h.keep c1 hb.1, h.keep c2 hb.2.1, h.keep c3 hb.2.2.1, h.keep c4 hb.2.2.2, h⟩
theorem GB.two {W v : World} (h : GB W v) {b1 j1 b2 j2 : Nat} {x1 x2 : Option Value} (c1 : W.cell? ⟨b1, j1, none⟩ = x1) (c2 : W.cell? ⟨b2, j2, none⟩ = x2)
    (hb : b1 < W.heap.size ∧ b2 < W.heap.size) : v.cell? ⟨b1, j1, none⟩ = x1 ∧ v.cell? ⟨b2, j2, none⟩ = x2 ∧ GB W v :=
  ⟨h.keep c1 hb.1, h.keep c2 hb.2, h⟩
theorem Mv.call {w v v' : World} {F : Nat → Prop} (h : Mv w v F) (k : Below v.heap.size v v') : Mv w v' F := h.trans (F' := fun _ => False) ⟨k.os, k.tape, k.output, k.size, fun b hb _ => k.block b hb⟩ (fun _ e => e.elim)
set_option maxRecDepth 100000 in
set_option maxHeartbeats 8000000 in
theorem ownX_any (w : World) (g N c : Nat) (V : Nat → Value) (n : Nat → Nat) (C : Nat → Nat → Value) (hC : ∀ j q, j < N → q < n j → ∃ p, C j q = .string p) (hN : N ≤ 1000) (hn : ∀ j, j < N → n j ≤ 2000000) (ap : Aprt w g N V) (h : P1 9 1 w w g N V n C) :
    Calls Tryd.prog 41 #[.slice (some ⟨g, 0, none⟩) N c] w fun e w' => e = .returned (.bool true) ∧ Mv w w' (bks N V) := by
  have AP := ap.hid
  have HFm : Hid (∀ j, j < N → ∃ ao c, V j = .slice ao (n j) c ∧ (0 < n j → ∃ b, ao = some ⟨b, 0, none⟩)) := fun j hj => by
    obtain ⟨ao, c, e, h1, _⟩ := (h.row j hj).form
    exact ⟨ao, c, e, h1⟩
  have H1 := h.startX.hid
  have HN : Hid (∀ j, j < N → n j ≤ 2000000) := hn
  have HC : Hid (∀ i k, ∃ p, i < N → k < n i → cmX C i k i k = .string p) := fun i k => by
    by_cases hh : i < N ∧ k < n i
    · obtain ⟨p, hp⟩ := hC i k hh.1 hh.2
      exact ⟨p, fun _ _ => by unfold cmX; rw [if_neg (by omega), hp]⟩
    · exact ⟨⟨#[]⟩, fun a b => absurd ⟨a, b⟩ hh⟩
  clear ap h hn hC
  go_enter Tryd.func41, Tryd.ntmps41
  go_wp2
  go_loopw [3] (fun x wr => ∃ i : Nat, i ≤ N ∧ x = .int .i64 i ∧ P1 9 1 w wr g N V n (cmX C i 0)) (fun x _ => N - (intOf x).toNat)
  case atStart => exact ⟨0, by omega, rfl, H1.out⟩
  case round =>
    obtain ⟨i, hiN, rfl, hp⟩ := hrel
    clear H1
    by_cases hi : i < N
    · have hi' : (i : Int) < (N : Int) := by omega
      have hni := HN.out i hi
      obtain ⟨ao, cc, eV, hV0, _⟩ := (hp.row i hi).form
      have HP := hp.hid
      have HV : Hid (V i = .slice ao (n i) cc) := eV
      have H0 : Hid (0 < n i → ∃ b, ao = some ⟨b, 0, none⟩) := hV0
      obtain ⟨m, em⟩ : ∃ m, n i = m := ⟨_, rfl⟩
      have hcell := hp.cell i hi
      rw [eV, em] at hcell
      rw [em] at hni H0
      have HM : Hid (n i = m) := em
      clear hp eV hV0 em
      go_wp2
      go_loopw [4] (fun x wr2 => ∃ k : Nat, k ≤ m ∧ x = .int .i64 k ∧ P1 9 1 w wr2 g N V n (cmX C i k)) (fun x _ => m - (intOf x).toNat)
      case atStart => exact ⟨0, by omega, rfl, HP.out⟩
      case round =>
        obtain ⟨k, hkm, rfl, hq⟩ := hrel
        clear hcell
        have hcell := hq.cell i hi
        rw [HV.out, HM.out] at hcell
        have HQ := hq.hid
        by_cases hk : k < m
        · have hk' : (k : Int) < (m : Int) := by omega
          obtain ⟨b, rfl⟩ := H0.out (by omega)
          have hr := hq.row i hi
          rw [HV.out, HM.out] at hr
          have z4 := hr.cell (j := k) (by omega)
          have f4 := hr.frozen k
          obtain ⟨p, hp⟩ := HC.out i k
          rw [hp hi (by rw [HM.out]; exact hk)] at z4
          obtain ⟨sp, esp, cS⟩ := mark_mk i k (by omega) (by omega)
          have HSP : Hid (mkX i k = .string sp) := esp
          obtain ⟨pr, epr⟩ : ∃ pr : Int, (i : Int) * 1000 = pr := ⟨_, rfl⟩
          obtain ⟨sm, esm⟩ : ∃ sm : Int, pr + (k : Int) = sm := ⟨_, rfl⟩
          have pr1 : -9223372036854775808 ≤ pr := by omega
          have pr2 : pr ≤ 9223372036854775807 := by omega
          have sm1 : -9223372036854775808 ≤ sm := by omega
          have sm2 : sm ≤ 9223372036854775807 := by omega
          rw [epr, esm] at cS
          have hw1 : IntKind.i64.wrap pr = pr := by rw [IntKind.wrap_i64]; omega
          have hw2 : IntKind.i64.wrap sm = sm := by rw [IntKind.wrap_i64]; omega
          have hbl : b < wr.heap.size := hr.lt b rfl
          have hgl : g < wr.heap.size := Nat.lt_of_lt_of_le AP.out.gl hq.mv.size
          clear hr hq hp esp
          go_wp2_with fail
          have hgb : g ≠ b := fun e => AP.out.far i hi (by rw [HV.out, e]; rfl)
          go_region_held3 (fun v' => v'.cell? ⟨g, i, none⟩ = some (.slice (some ⟨b, 0, none⟩) m cc) ∧ GX wr b v')
            (exact GX.keep hcell hgl hgb (by (repeat (first | with_reducible assumption | with_reducible exact GX.refl _ _ | with_reducible apply GX.drew | with_reducible apply GX.set | with_reducible refine GX.call (by with_reducible assumption) ?_))))
            (first
              | (go_at_call 56; refine (cS _).mono ?_; rintro _ w1 ⟨rfl, hb1⟩; have g1 : GB wr w1 := GB.call hb1 (by repeat (first | with_reducible exact GB.refl _ | with_reducible apply GB.drew)); have z41 := g1.keep z4 hbl; have f41 := g1.froz f4 hbl))
          have HG1 : Hid (GB wr w1) := g1
          clear g1
          go_wp2
          exact ⟨⟨k + 1, by omega, by go_num, (by have := (HQ.out.call AP.out HG1.out).markX AP.out hi (k := k) (by rw [HV.out]); rwa [HSP.out] at this)⟩, by simp only [intOf]; omega⟩
        · obtain rfl : k = m := by omega
          clear hq
          go_wp2
          refine ⟨⟨i + 1, by omega, by go_num, P1.nextX (by rw [HM.out]; exact HQ.out)⟩, by simp only [intOf]; omega⟩
    · obtain rfl : N = i := by omega
      have H2 := (hp.doneX.done (le := 34) (K := 16) (A := apX n)).hid
      clear hp hiN hi HC
      go_wp2
      go_loopw [5, 6] (fun lv x wr3 => ∃ (i : Nat) (U : Nat → Value), i ≤ N ∧ x = .int .i64 i ∧ P2 9 34 1 16 w wr3 g N V n mkX (apX n) i U lv) (fun _ x _ => N - (intOf x).toNat)
      case atStart => exact ⟨0, _, by omega, rfl, H2.out⟩
      case round =>
        obtain ⟨i, U, hiN, rfl, hp⟩ := hrel
        clear H2
        by_cases hi : i < N
        · have hi' : (i : Int) < (N : Int) := by omega
          have hni := HN.out i hi
          obtain ⟨ao, cc, eV, _, _⟩ := (hp.row i (Nat.le_refl _) hi).form
          have hcell := hp.cell i hi
          rw [eV] at hcell
          have hb := hp.begin AP.out hi (fun q hq => (apX_in hq).symm)
          rw [eV] at hb
          have HP := hb.hid
          clear hp eV hb
          go_wp2
          go_loopw [7, 8] (fun X x wr4 => ∃ k : Nat, k ≤ 16 ∧ x = .int .i64 k ∧ P3 9 34 1 16 w wr4 g N V n mkX (apX n) i U u5 k X) (fun _ x _ => 16 - (intOf x).toNat)
          case atStart => exact ⟨0, by omega, rfl, HP.out⟩
          case round =>
            obtain ⟨k, hk8, rfl, hq⟩ := hrel
            have HQ := hq.hid
            clear hq hcell HP
            by_cases hk : k < 16
            · have hk' : (k : Int) < 16 := by omega
              obtain ⟨sp, esp, cS⟩ := mark_bh i k (by omega) (by omega)
              obtain ⟨x1, ex1⟩ : ∃ x1 : Int, -1 - (i : Int) = x1 := ⟨_, rfl⟩
              obtain ⟨x2, ex2⟩ : ∃ x2 : Int, x1 * 1000 = x2 := ⟨_, rfl⟩
              obtain ⟨x3, ex3⟩ : ∃ x3 : Int, x2 - (k : Int) = x3 := ⟨_, rfl⟩
              have hw1 : IntKind.i64.wrap x1 = x1 := by rw [IntKind.wrap_i64]; omega
              have hw2 : IntKind.i64.wrap x2 = x2 := by rw [IntKind.wrap_i64]; omega
              have hw3 : IntKind.i64.wrap x3 = x3 := by rw [IntKind.wrap_i64]; omega
              have r1 : -9223372036854775808 ≤ x1 := by omega
              have r2 : x1 ≤ 9223372036854775807 := by omega
              have r3 : -9223372036854775808 ≤ x2 := by omega
              have r4 : x2 ≤ 9223372036854775807 := by omega
              have r5 : -9223372036854775808 ≤ x3 := by omega
              have r6 : x3 ≤ 9223372036854775807 := by omega
              rw [ex1, ex2, ex3] at cS
              have HSP : Hid (bhX i k = .string sp) := esp
              clear esp
              go_wp2_with (first | (go_at_call 56; refine (cS _).mono ?_; rintro _ w1 ⟨rfl, hb1⟩; have HQ1 := (HQ.out.call AP.out hb1).hid; clear hb1) | (at_builtin; refine append_markX rfl (.tmp 53) (.tmp 60) rfl AP.out hi HQ1.out sp HSP.out rfl rfl (by omega) ?_; intro X' v' hr'; have HR := hr'.hid; clear hr'))
              exact ⟨⟨k + 1, by omega, by go_num, HR.out⟩, by simp only [intOf]; omega⟩
            · obtain rfl : k = 16 := by omega
              obtain ⟨ax, cx, eX⟩ := HQ.out.form
              subst eX
              go_wp2_with (at_builtin; refine append_longX rfl (.tmp 62) (.tmp 64) rfl AP.out HQ.out rfl rfl rfl (by omega) ?_; intro lv' v' hr'; have HR := hr'.hid; clear hr')
              exact ⟨⟨i + 1, _, by omega, by go_num, HR.out⟩, by simp only [intOf]; omega⟩
        · obtain rfl : N = i := by omega
          have H3 := hp.hid
          obtain ⟨W, eW⟩ : ∃ W, W = wr := ⟨_, rfl⟩
          rw [← eW] at H3
          have HMv : Hid (Mv w W (bks N V)) := H3.out.mv
          clear hp hiN hi
          go_wp2
          rw [← eW]
          clear eW
          go_loopw [9] (fun x wz => ∃ i : Nat, i ≤ N ∧ x = .int .i64 i ∧ GB W wz) (fun x _ => N - (intOf x).toNat)
          case atStart => exact ⟨0, by omega, rfl, GB.refl _⟩
          case round =>
            obtain ⟨i, hiN, rfl, hgz⟩ := hrel
            have HGZ : Hid (GB W wr) := hgz
            by_cases hi : i < N
            · have hi' : (i : Int) < (N : Int) := by omega
              have hni := HN.out i hi
              obtain ⟨gl, lc, bu, cu, e1, e2, hu0, hf⟩ := H3.out.look (by decide) (by decide) hi
              have HF : Hid (∀ q, q < (n i + 16) * 1 → W.cell? ⟨bu, q, none⟩ = some (apX n i q)) := hf
              have hv0 := H3.out.cell i hi
              have HR : Hid (Rd W 1 (V i) (n i) (mkX i)) := H3.out.rd i hi
              obtain ⟨ao, cc, eV, h0⟩ := HFm.out i hi
              have H0 : Hid (0 < n i → ∃ b, ao = some ⟨b, 0, none⟩) := h0
              have HV : Hid (V i = .slice ao (n i) cc) := eV
              rw [eV] at hv0
              obtain ⟨m, em⟩ : ∃ m, n i = m := ⟨_, rfl⟩
              rw [em] at hv0 hni hu0
              have HM : Hid (n i = m) := em
              obtain ⟨m8, em8⟩ : ∃ m8, m + 16 = m8 := ⟨_, rfl⟩
              rw [em8] at hu0
              have HM8 : Hid (m + 16 = m8) := em8
              have HU : Hid (W.cell? ⟨gl, i, none⟩ = some (.slice (some ⟨bu, 0, none⟩) m8 cu)) := hu0
              have HVC : Hid (W.cell? ⟨g, i, none⟩ = some (.slice ao m cc)) := hv0
              have hlU := World.block_lt_of_cell? W _ hu0
              have hlV := World.block_lt_of_cell? W _ hv0
              have hv := hgz.keep hv0 hlV
              have hu := hgz.keep hu0 hlU
              subst e1
              clear eV em hf h0 e2 em8 hv0 hu0 hgz
              go_wp2
              go_loopw [11] (fun x wz => ∃ k : Nat, k ≤ m ∧ x = .int .i64 k ∧ GB W wz) (fun x _ => m - (intOf x).toNat)
              case atStart => exact ⟨0, by omega, rfl, HGZ.out⟩
              case round =>
                obtain ⟨k, hkm, rfl, hgy⟩ := hrel
                obtain ⟨Y, eY⟩ : ∃ Y, Y = wr := ⟨_, rfl⟩
                rw [← eY] at hgy
                have HGY : Hid (GB W Y) := hgy
                clear hv hu
                by_cases hk : k < m
                · have hk' : (k : Int) < (m : Int) := by omega
                  obtain ⟨b, c', e3, hx0⟩ := HR.out k (by rw [HM.out]; omega)
                  rw [HV.out] at e3
                  simp at e3
                  obtain ⟨rfl, rfl⟩ := e3
                  have hy0 := HF.out k (by rw [HM.out]; omega)
                  rw [apX_in (by rw [HM.out]; omega)] at hy0
                  obtain ⟨sp, esp, cS⟩ := mark_mk i k (by omega) (by omega)
                  rw [esp] at hx0 hy0
                  obtain ⟨pr, epr⟩ : ∃ pr : Int, (i : Int) * 1000 = pr := ⟨_, rfl⟩
                  obtain ⟨sm, esm⟩ : ∃ sm : Int, pr + (k : Int) = sm := ⟨_, rfl⟩
                  have hw1 : IntKind.i64.wrap pr = pr := by rw [IntKind.wrap_i64]; omega
                  have hw2 : IntKind.i64.wrap sm = sm := by rw [IntKind.wrap_i64]; omega
                  rw [epr, esm] at cS
                  have k8' : (k : Int) < (m8 : Int) := by have := HM8.out; omega
                  have hl1 := World.block_lt_of_cell? W _ hx0
                  have hl2 := World.block_lt_of_cell? W _ hy0
                  have HS : Hid (∀ v', GB W v' → v'.cell? ⟨g, i, none⟩ = some (.slice (some ⟨b, 0, none⟩) m cc) ∧ v'.cell? ⟨gl, i, none⟩ = some (.slice (some ⟨bu, 0, none⟩) m8 cu) ∧ v'.cell? ⟨b, k, none⟩ = some (.string sp) ∧ v'.cell? ⟨bu, k, none⟩ = some (.string sp) ∧ GB W v') := fun v' hv' => hv'.four HVC.out HU.out hx0 hy0 ⟨hlV, hlU, hl1, hl2⟩
                  clear hx0 hy0 hl1 hl2 esp
                  go_wp2_with fail
                  rw [← eY]
                  clear eY
                  go_region_held3 (fun v' => v'.cell? ⟨g, i, none⟩ = some (.slice (some ⟨b, 0, none⟩) m cc) ∧ v'.cell? ⟨gl, i, none⟩ = some (.slice (some ⟨bu, 0, none⟩) m8 cu) ∧ v'.cell? ⟨b, k, none⟩ = some (.string sp) ∧ v'.cell? ⟨bu, k, none⟩ = some (.string sp) ∧ GB W v')
                    (exact HS.out _ (by (repeat (first | with_reducible assumption | with_reducible exact HGY.out | with_reducible apply GB.drew | with_reducible refine GB.call (by with_reducible assumption) ?_))))
                    (first
                      | (go_at_call 56; refine (cS _).mono ?_; rintro _ w1 ⟨rfl, hb1⟩))
                  rename_i hh
                  have HG1 : Hid (GB W w1) := hh.2.2.2.2
                  clear hh
                  go_wp2
                  exact ⟨⟨k + 1, by omega, by go_num, HG1.out⟩, by simp only [intOf]; omega⟩
                · obtain rfl : m = k := by omega
                  clear hk hkm
                  rw [eY] at HGY
                  clear eY hgy
                  go_wp2
                  go_loopw [12] (fun x wz => ∃ k : Nat, k ≤ 16 ∧ x = .int .i64 k ∧ GB W wz) (fun x _ => 16 - (intOf x).toNat)
                  case atStart => exact ⟨0, by omega, rfl, HGY.out⟩
                  case round =>
                    obtain ⟨k, hk8, rfl, hgx⟩ := hrel
                    obtain ⟨Y, eY⟩ : ∃ Y, Y = wr := ⟨_, rfl⟩
                    rw [← eY] at hgx
                    have HGX : Hid (GB W Y) := hgx
                    by_cases hk : k < 16
                    · have hk' : (k : Int) < 16 := by omega
                      have hy0 := HF.out (n i + k) (by omega)
                      rw [apX_out, HM.out] at hy0
                      obtain ⟨sp, esp, cS⟩ := mark_bh i k (by omega) (by omega)
                      rw [esp] at hy0
                      obtain ⟨x1, ex1⟩ : ∃ x1 : Int, -1 - (i : Int) = x1 := ⟨_, rfl⟩
                      obtain ⟨x2, ex2⟩ : ∃ x2 : Int, x1 * 1000 = x2 := ⟨_, rfl⟩
                      obtain ⟨x3, ex3⟩ : ∃ x3 : Int, x2 - (k : Int) = x3 := ⟨_, rfl⟩
                      have hw1 : IntKind.i64.wrap x1 = x1 := by rw [IntKind.wrap_i64]; omega
                      have hw2 : IntKind.i64.wrap x2 = x2 := by rw [IntKind.wrap_i64]; omega
                      have hw3 : IntKind.i64.wrap x3 = x3 := by rw [IntKind.wrap_i64]; omega
                      rw [ex1, ex2, ex3] at cS
                      obtain ⟨q, eq⟩ : ∃ q, m + k = q := ⟨_, rfl⟩
                      rw [eq] at hy0
                      have eq' : (m : Int) + (k : Int) = (q : Int) := by omega
                      have hq' : (q : Int) < (m8 : Int) := by have := HM8.out; omega
                      have hqb : (q : Int) ≤ 9223372036854775807 := by have := HM8.out; omega
                      have hwq : IntKind.i64.wrap (q : Int) = (q : Int) := by rw [IntKind.wrap_i64]; omega
                      have hl2 := World.block_lt_of_cell? W _ hy0
                      have HS : Hid (∀ v', GB W v' → v'.cell? ⟨gl, i, none⟩ = some (.slice (some ⟨bu, 0, none⟩) m8 cu) ∧ v'.cell? ⟨bu, q, none⟩ = some (.string sp) ∧ GB W v') := fun v' hv' => hv'.two HU.out hy0 ⟨hlU, hl2⟩
                      clear hy0 hl2 esp eq
                      go_wp2_with fail
                      rw [← eY]
                      clear eY
                      go_region_held3 (fun v' => v'.cell? ⟨gl, i, none⟩ = some (.slice (some ⟨bu, 0, none⟩) m8 cu) ∧ v'.cell? ⟨bu, q, none⟩ = some (.string sp) ∧ GB W v')
                        (exact HS.out _ (by (repeat (first | with_reducible assumption | with_reducible exact HGX.out | with_reducible apply GB.drew | with_reducible refine GB.call (by with_reducible assumption) ?_))))
                        (first
                          | (go_at_call 56; refine (cS _).mono ?_; rintro _ w1 ⟨rfl, hb1⟩))
                      rename_i hh
                      have HG1 : Hid (GB W w1) := hh.2.2
                      clear hh
                      go_wp2
                      exact ⟨⟨k + 1, by omega, by go_num, HG1.out⟩, by simp only [intOf]; omega⟩
                    · obtain rfl : k = 16 := by omega
                      rw [eY] at HGX
                      clear eY hgx
                      go_wp2
                      exact ⟨⟨i + 1, by omega, by go_num, HGX.out⟩, by simp only [intOf]; omega⟩
            · go_wp2
              go_ret
              exact ⟨rfl, HMv.out.call hgz⟩
end Go.Proofs.YtighocmdlifheaaDoor

/-
  The owner's look at a list of nothing: the book's.
-/
namespace Go.Proofs.YtighocmdlifheaaDoor
open Go.RowKit

set_option maxRecDepth 100000 in
set_option maxHeartbeats 2000000 in
theorem nilInts (w : World) : Calls Tryd.prog 31 #[.slice none 0 0] w fun e w' => e = .returned (.bool true) ∧ w' = w := by
  go_enter Tryd.func31, Tryd.ntmps31
  go_wp2
  refine wp_loop_rounds 1 ?_
  rw [rounds_succ]
  go_wp2
  refine wp_loop_rounds 1 ?_
  rw [rounds_succ]
  go_wp2
  refine wp_loop_rounds 1 ?_
  rw [rounds_succ]
  go_wp2
  go_ret
  exact ⟨rfl, rfl⟩
set_option maxRecDepth 100000 in
set_option maxHeartbeats 2000000 in
theorem nilNumbers (w : World) : Calls Tryd.prog 33 #[.slice none 0 0] w fun e w' => e = .returned (.bool true) ∧ w' = w := by
  go_enter Tryd.func33, Tryd.ntmps33
  go_wp2
  refine wp_loop_rounds 1 ?_
  rw [rounds_succ]
  go_wp2
  refine wp_loop_rounds 1 ?_
  rw [rounds_succ]
  go_wp2
  refine wp_loop_rounds 1 ?_
  rw [rounds_succ]
  go_wp2
  go_ret
  exact ⟨rfl, rfl⟩
set_option maxRecDepth 100000 in
set_option maxHeartbeats 2000000 in
theorem nilOrders (w : World) : Calls Tryd.prog 34 #[.slice none 0 0] w fun e w' => e = .returned (.bool true) ∧ w' = w := by
  go_enter Tryd.func34, Tryd.ntmps34
  go_wp2
  refine wp_loop_rounds 1 ?_
  rw [rounds_succ]
  go_wp2
  refine wp_loop_rounds 1 ?_
  rw [rounds_succ]
  go_wp2
  refine wp_loop_rounds 1 ?_
  rw [rounds_succ]
  go_wp2
  go_ret
  exact ⟨rfl, rfl⟩
set_option maxRecDepth 100000 in
set_option maxHeartbeats 2000000 in
theorem nilLevels (w : World) : Calls Tryd.prog 35 #[.slice none 0 0] w fun e w' => e = .returned (.bool true) ∧ w' = w := by
  go_enter Tryd.func35, Tryd.ntmps35
  go_wp2
  refine wp_loop_rounds 1 ?_
  rw [rounds_succ]
  go_wp2
  refine wp_loop_rounds 1 ?_
  rw [rounds_succ]
  go_wp2
  refine wp_loop_rounds 1 ?_
  rw [rounds_succ]
  go_wp2
  go_ret
  exact ⟨rfl, rfl⟩
set_option maxRecDepth 100000 in
set_option maxHeartbeats 2000000 in
theorem nilHits (w : World) : Calls Tryd.prog 36 #[.slice none 0 0] w fun e w' => e = .returned (.bool true) ∧ w' = w := by
  go_enter Tryd.func36, Tryd.ntmps36
  go_wp2
  refine wp_loop_rounds 1 ?_
  rw [rounds_succ]
  go_wp2
  refine wp_loop_rounds 1 ?_
  rw [rounds_succ]
  go_wp2
  refine wp_loop_rounds 1 ?_
  rw [rounds_succ]
  go_wp2
  go_ret
  exact ⟨rfl, rfl⟩
set_option maxRecDepth 100000 in
set_option maxHeartbeats 2000000 in
theorem nilEvents (w : World) : Calls Tryd.prog 37 #[.slice none 0 0] w fun e w' => e = .returned (.bool true) ∧ w' = w := by
  go_enter Tryd.func37, Tryd.ntmps37
  go_wp2
  refine wp_loop_rounds 1 ?_
  rw [rounds_succ]
  go_wp2
  refine wp_loop_rounds 1 ?_
  rw [rounds_succ]
  go_wp2
  refine wp_loop_rounds 1 ?_
  rw [rounds_succ]
  go_wp2
  go_ret
  exact ⟨rfl, rfl⟩
set_option maxRecDepth 100000 in
set_option maxHeartbeats 2000000 in
theorem nilFeeds (w : World) : Calls Tryd.prog 38 #[.slice none 0 0] w fun e w' => e = .returned (.bool true) ∧ w' = w := by
  go_enter Tryd.func38, Tryd.ntmps38
  go_wp2
  refine wp_loop_rounds 1 ?_
  rw [rounds_succ]
  go_wp2
  refine wp_loop_rounds 1 ?_
  rw [rounds_succ]
  go_wp2
  refine wp_loop_rounds 1 ?_
  rw [rounds_succ]
  go_wp2
  go_ret
  exact ⟨rfl, rfl⟩
set_option maxRecDepth 100000 in
set_option maxHeartbeats 2000000 in
theorem nilActions (w : World) : Calls Tryd.prog 39 #[.slice none 0 0] w fun e w' => e = .returned (.bool true) ∧ w' = w := by
  go_enter Tryd.func39, Tryd.ntmps39
  go_wp2
  refine wp_loop_rounds 1 ?_
  rw [rounds_succ]
  go_wp2
  refine wp_loop_rounds 1 ?_
  rw [rounds_succ]
  go_wp2
  refine wp_loop_rounds 1 ?_
  rw [rounds_succ]
  go_wp2
  go_ret
  exact ⟨rfl, rfl⟩
set_option maxRecDepth 100000 in
set_option maxHeartbeats 2000000 in
theorem nilTolds (w : World) : Calls Tryd.prog 40 #[.slice none 0 0] w fun e w' => e = .returned (.bool true) ∧ w' = w := by
  go_enter Tryd.func40, Tryd.ntmps40
  go_wp2
  refine wp_loop_rounds 1 ?_
  rw [rounds_succ]
  go_wp2
  refine wp_loop_rounds 1 ?_
  rw [rounds_succ]
  go_wp2
  refine wp_loop_rounds 1 ?_
  rw [rounds_succ]
  go_wp2
  go_ret
  exact ⟨rfl, rfl⟩
set_option maxRecDepth 100000 in
theorem nilLongs (w : World) : Calls Tryd.prog 32 #[.slice none 0 0] w fun e w' => e = .returned (.bool true) ∧ w' = w := by
  go_enter Tryd.func32, Tryd.ntmps32
  go_wp2
  refine wp_loop_rounds 1 ?_
  rw [rounds_succ]
  go_wp2
  refine wp_loop_rounds 1 ?_
  rw [rounds_succ]
  go_wp2
  refine wp_loop_rounds 1 ?_
  rw [rounds_succ]
  go_wp2
  go_ret
  exact ⟨rfl, rfl⟩
end Go.Proofs.YtighocmdlifheaaDoor

/-
  The book of lists of texts: one more is put in; its owner looks at all.
-/
namespace Go.Proofs.YtighocmdlifheaaDoor
open Go.RowKit

theorem Row.hid {w : World} {e : TypeId} {s n : Nat} {v : Value} {f : Nat → Value} (h : Row w e s v n f) : Hid (Row w e s v n f) := h
theorem one_at (x : Value) : ∀ j, j < 1 → [x][j]? = some ((fun _ => x) j) := fun j hj => by obtain rfl : j = 0 := (by omega); rfl
def bxA (lv : Value) : Array Value := #[.slice none 0 0, .slice none 0 0, .slice none 0 0, .slice none 0 0, .slice none 0 0, .slice none 0 0, .slice none 0 0, .slice none 0 0, .slice none 0 0, .slice none 0 0, lv]
def BxH (w : World) (bk : Nat) (lv : Value) : Prop := w.heap[bk]? = some (.cells (bxA lv) 52 (0, 0))
theorem BxH.hid {w : World} {bk : Nat} {lv : Value} (h : BxH w bk lv) : Hid (BxH w bk lv) := h
theorem BxH.set {w : World} {bk : Nat} {lv : Value} (h : BxH w bk lv) (x : Value) : BxH (w.setCell ⟨bk, 10, none⟩ x) bk x := heap_set x h
theorem BxH.lt {w : World} {bk : Nat} {lv : Value} (h : BxH w bk lv) : bk < w.heap.size := (Array.getElem?_eq_some_iff.1 h).1
theorem BxH.ne {w : World} {bk : Nat} {lv : Value} (h : BxH w bk lv) {x : Value} {n : Nat} {f : Nat → Value} {e : TypeId} {s : Nat} (hr : Row w e s x n f) (he : e ≠ 52) : x.ownBlock ≠ some bk := by
  intro e1
  obtain ⟨c, fz, h1⟩ := hr.kind bk e1
  rw [h] at h1
  simp at h1
  exact he h1.2.1.symm
set_option maxRecDepth 100000 in
set_option maxHeartbeats 2000000 in
theorem bookAdd_any (w : World) (bk i : Nat) (lv : Value) (U : Nat → Value) (ao : Option Addr) (m c : Nat) (hb : BxH w bk lv) (hr : Row w 34 1 lv i U) (hi : i ≤ 1000) :
    Calls Tryd.prog 14 #[.pointer (some ⟨bk, 0, none⟩), .slice ao m c] w fun e w' => (∃ r, e = .returned r) ∧ ∃ lv', BxH w' bk lv' ∧ Row w' 34 1 lv' (i + 1) (fun j => if j = i then .slice ao m c else U j) ∧ (lv'.ownBlock = lv.ownBlock ∨ ∃ q, lv'.ownBlock = some q ∧ w.heap.size ≤ q) ∧ Mv w w' (fun b => b = bk ∨ lv.ownBlock = some b) := by
  obtain ⟨i0, h0, hz0, hz1, hz2⟩ := info_parts Tryd.info34
  have q7 : w.cell? ⟨bk, 10, none⟩ = some lv := cell_of hb 10
  have HB := hb.hid
  have HR : Hid (Row w 34 1 lv i U) := hr
  have hne := hb.ne hr (by decide)
  have HNE : Hid (lv.ownBlock ≠ some bk) := hne
  clear hb hr hne
  go_enter Tryd.func14, Tryd.ntmps14
  go_wp2_with (at_builtin; refine wpList_append_own_at _ rfl (.tmp 8) (.tmp 10) 50 rfl 0 34 i0 _ 1 24 Tryd.underlying50 h0 hz0 hz1 hz2 rfl (by decide) lv i _ rfl (HR.out.alloc _) ⟨w.heap.size, 0, none⟩ 1 1 [.slice ao m c] rfl rfl (World.news_of_block (heap_new w _)) (by intro u hu; simp at hu; rw [hu]; rfl) (by unfold maxLen; omega) (by omega) (Nat.zero_le _) ?_; intro lv' w1 r1 r2 _ r4; have hb1 : w1.heap[bk]? = w.heap[bk]? := (r2.block bk (by rw [size_alloc]; have := HB.out.lt; omega) (fun e => HNE.out e.symm)).trans (Below.heap_alloc _ _ _ HB.out.lt); have H1 : Hid (BxH w1 bk lv) := hb1.trans HB.out; have p7 : w1.cell? ⟨bk, 10, none⟩ = some lv := cell_of H1.out 10; have f7 := frozen_of H1.out 10; have hrow := Row.snoc (x := fun _ => .slice ao m c) r1 rfl (one_at _); obtain ⟨al, cl, el, _, _⟩ := hrow.form; subst el; have HROW := Row.hid hrow; have HG : Hid (_) := r2; have H4 : Hid (_) := r4; clear hb1 r1 r2 r4 hrow q7)
  go_end0
  refine ⟨⟨_, rfl⟩, _, H1.out.set _, ?_, ?_, ?_⟩
  · refine (HROW.out.congr (fun j hj => ?_)).of_block (fun b hb => ?_)
    · by_cases e : j < i * 1
      · rw [if_pos e, if_neg (show ¬ j = i by omega)]
      · rw [if_neg e, if_pos (show j = i by omega)]
    · exact Below.heap_setCell _ _ _ _ (fun e => (H1.out.ne HROW.out (by decide)) (by rw [hb, e]))
  · rcases H4.out with h | h
    · exact .inl h
    · exact .inr ⟨_, h, by rw [size_alloc]; omega⟩
  · exact (((Mv.refl w _).alloc _).grown HG.out (fun b e => .inl (.inr e))).setCell (.inl (.inl rfl)) _

set_option maxRecDepth 100000 in
set_option maxHeartbeats 2000000 in
theorem bookOwn_any (w : World) (bk g N c : Nat) (V : Nat → Value) (n : Nat → Nat) (C : Nat → Nat → Value) (hC : ∀ j q, j < N → q < n j → ∃ p, C j q = .string p) (hN : N ≤ 1000) (hn : ∀ j, j < N → n j ≤ 2000000) (ap : Aprt w g N V) (h : P1 9 1 w w g N V n C) (hb : BxH w bk (.slice (some ⟨g, 0, none⟩) N c)) :
    Calls Tryd.prog 15 #[.pointer (some ⟨bk, 0, none⟩)] w fun e w' => e = .returned (.bool true) ∧ Mv w w' (bks N V) := by
  have p0 : w.cell? ⟨bk, 0, none⟩ = some (.slice none 0 0) := cell_of hb 0
  have p1 : w.cell? ⟨bk, 1, none⟩ = some (.slice none 0 0) := cell_of hb 1
  have p2 : w.cell? ⟨bk, 2, none⟩ = some (.slice none 0 0) := cell_of hb 2
  have p3 : w.cell? ⟨bk, 3, none⟩ = some (.slice none 0 0) := cell_of hb 3
  have p4 : w.cell? ⟨bk, 4, none⟩ = some (.slice none 0 0) := cell_of hb 4
  have p5 : w.cell? ⟨bk, 5, none⟩ = some (.slice none 0 0) := cell_of hb 5
  have p6 : w.cell? ⟨bk, 6, none⟩ = some (.slice none 0 0) := cell_of hb 6
  have p7 : w.cell? ⟨bk, 7, none⟩ = some (.slice none 0 0) := cell_of hb 7
  have p8 : w.cell? ⟨bk, 8, none⟩ = some (.slice none 0 0) := cell_of hb 8
  have p9 : w.cell? ⟨bk, 9, none⟩ = some (.slice none 0 0) := cell_of hb 9
  have p10 : w.cell? ⟨bk, 10, none⟩ = some (.slice (some ⟨g, 0, none⟩) N c) := cell_of hb 10
  have CF : Hid (Calls Tryd.prog 41 #[.slice (some ⟨g, 0, none⟩) N c] w fun e w' => e = .returned (.bool true) ∧ Mv w w' (bks N V)) := ownX_any w g N c V n C hC hN hn ap h
  clear hb h ap hn hC
  go_enter Tryd.func15, Tryd.ntmps15
  go_wp2_with fail
  refine (nilInts _).mono ?_
  rintro _ v' ⟨rfl, e⟩
  obtain rfl := e.symm
  go_wp2_with fail
  refine (nilLongs _).mono ?_
  rintro _ v' ⟨rfl, e⟩
  obtain rfl := e.symm
  go_wp2_with fail
  refine (nilNumbers _).mono ?_
  rintro _ v' ⟨rfl, e⟩
  obtain rfl := e.symm
  go_wp2_with fail
  refine (nilOrders _).mono ?_
  rintro _ v' ⟨rfl, e⟩
  obtain rfl := e.symm
  go_wp2_with fail
  refine (nilLevels _).mono ?_
  rintro _ v' ⟨rfl, e⟩
  obtain rfl := e.symm
  go_wp2_with fail
  refine (nilHits _).mono ?_
  rintro _ v' ⟨rfl, e⟩
  obtain rfl := e.symm
  go_wp2_with fail
  refine (nilEvents _).mono ?_
  rintro _ v' ⟨rfl, e⟩
  obtain rfl := e.symm
  go_wp2_with fail
  refine (nilFeeds _).mono ?_
  rintro _ v' ⟨rfl, e⟩
  obtain rfl := e.symm
  go_wp2_with fail
  refine (nilActions _).mono ?_
  rintro _ v' ⟨rfl, e⟩
  obtain rfl := e.symm
  go_wp2_with fail
  refine (nilTolds _).mono ?_
  rintro _ v' ⟨rfl, e⟩
  obtain rfl := e.symm
  go_wp2_with fail
  refine CF.out.mono ?_
  rintro _ v ⟨rfl, hm⟩
  have HM : Hid (Mv w v (bks N V)) := hm
  clear hm CF
  go_wp2
  go_ret
  exact ⟨rfl, HM.out⟩
end Go.Proofs.YtighocmdlifheaaDoor

/-
  A book of lists while they come in: each lies in memory of its own.
-/
namespace Go.Proofs.YtighocmdlifheaaDoor
open Go.RowKit

/-- The first i lists are in. -/
structure Bag (e le : TypeId) (s : Nat) (w v : World) (i : Nat) (lv : Value) (V : Nat → Value) (n : Nat → Nat) (C : Nat → Nat → Value) : Prop where
  row : ∀ j, j < i → Row v e s (V j) (n j) (C j)
  long : Row v le 1 lv i V
  dis : ∀ j j', j < i → j' < i → j ≠ j' → ∀ b, (V j).ownBlock = some b → (V j').ownBlock ≠ some b
  new : ∀ j, j < i → ∀ b, (V j).ownBlock = some b → w.heap.size ≤ b
  lnew : ∀ b, lv.ownBlock = some b → w.heap.size ≤ b
  B : Below w.heap.size w v
section
variable {e le : TypeId} {s : Nat} {w v v' : World} {i : Nat} {lv : Value} {V : Nat → Value} {n : Nat → Nat} {C : Nat → Nat → Value}
theorem Bag.hid (h : Bag e le s w v i lv V n C) : Hid (Bag e le s w v i lv V n C) := h
theorem Bag.call (h : Bag e le s w v i lv V n C) (k : Below v.heap.size v v') : Bag e le s w v' i lv V n C :=
  ⟨fun j hj => (h.row j hj).of_block (fun b hb => k.block b ((h.row j hj).lt b hb)), h.long.of_block (fun b hb => k.block b (h.long.lt b hb)), h.dis, h.new, h.lnew, below2 h.B k⟩
/-- One more is put in. -/
theorem Bag.add {X lv' : Value} {m bk : Nat} {f : Nat → Value} (hel : e ≠ le) (h : Bag e le s w v i lv V n C) (hX : Row v e s X m f) (hnew : ∀ b, X.ownBlock = some b → w.heap.size ≤ b)
    (hd : ∀ j, j < i → ∀ b, (V j).ownBlock = some b → X.ownBlock ≠ some b) (hbk : w.heap.size ≤ bk) (hbr : ∀ (x : Value) (m : Nat) (f : Nat → Value), Row v e s x m f → x.ownBlock ≠ some bk)
    (hr : Row v' le 1 lv' (i + 1) (fun j => if j = i then X else V j)) (ho : lv'.ownBlock = lv.ownBlock ∨ ∃ q, lv'.ownBlock = some q ∧ v.heap.size ≤ q) (hm : Mv v v' (fun b => b = bk ∨ lv.ownBlock = some b)) :
    Bag e le s w v' (i + 1) lv' (fun j => if j = i then X else V j) (fun j => if j = i then m else n j) (fun j => if j = i then f else C j) := by
  have keep : ∀ {x : Value} {m : Nat} {f : Nat → Value}, Row v e s x m f → Row v' e s x m f := fun hx => hm.row hx (fun b hb h' => h'.elim (fun e1 => hbr _ _ _ hx (by rw [hb, e1])) (fun e1 => (hx.apart h.long hel) b hb e1))
  refine ⟨fun j hj => ?_, hr, fun j j' hj hj' hne b => ?_, fun j hj b => ?_, fun b hb => ?_, ?_⟩
  · by_cases e1 : j = i
    · simp only [e1, if_true]; exact keep hX
    · simp only [e1, if_false]; exact keep (h.row j (by omega))
  · by_cases e1 : j = i
    · have e2 : ¬ j' = i := by omega
      simp only [e1, e2, if_true, if_false]
      exact fun hb hb' => hd j' (by omega) b hb' hb
    · by_cases e2 : j' = i
      · simp only [e1, e2, if_true, if_false]
        exact fun hb => hd j (by omega) b hb
      · simp only [e1, e2, if_false]
        exact h.dis j j' (by omega) (by omega) hne b
  · by_cases e1 : j = i
    · simp only [e1, if_true]; exact hnew b
    · simp only [e1, if_false]; exact h.new j (by omega) b
  · rcases ho with h1 | ⟨q, h1, hq⟩
    · rw [h1] at hb; exact h.lnew b hb
    · rw [h1] at hb; cases hb; exact Nat.le_trans h.B.size hq
  · refine h.B.trans (hm.below h.B.size (fun b hb => ?_))
    rcases hb with h1 | h1
    · rw [h1]; exact hbk
    · exact h.lnew b h1
/-- All are in: what the owner's look asks. -/
theorem Bag.own {g c : Nat} (hel : e ≠ le) (h : Bag e le s w v i (.slice (some ⟨g, 0, none⟩) i c) V n C) : Aprt v g i V ∧ P1 e s v v g i V n C := by
  refine ⟨⟨h.dis, fun j hj hb => (h.row j hj).apart h.long hel g hb rfl, fun j hj b hb => (h.row j hj).lt b hb, h.long.lt g rfl⟩, ⟨h.row, fun j hj => h.long.cell (by omega), Mv.refl _ _⟩⟩
end
end Go.Proofs.YtighocmdlifheaaDoor
