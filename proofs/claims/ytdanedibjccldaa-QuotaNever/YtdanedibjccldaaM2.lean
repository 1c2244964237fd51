import Derived.Test.YtdanedibjccldaaM1
/-
  QuotaNever: a round of its loop, kind 1.
-/
namespace Go.Proofs.Ytdanedibjccldaa
open Go.RowKit
set_option linter.unusedVariables false

set_option maxRecDepth 1000000 in
set_option maxHeartbeats 40000000 in
theorem nact1 (c : Cf) (la : Option Addr) (ll lc : Nat) (A : Nat → Act4) (w : World) (hA : Acts w la ll A) (hll : ll ≤ 9223372036854775807) (B b : Nat) (k u : Nat → Value) (i : Nat) (hlt : i < ll) (wr : World) (hN : NI w wr B b c) (hkk : (A i).k = 1) (Q0 : Exit → Act → World → Prop) :
    Code.wp Try.prog (bodyOf Try.f4.body) (Exit.then (fun a' w'' => WI w B b c la ll lc k a' w'' ∧ mu ll a' w'' < mu ll ⟨fr k u la ll lc B b (i : Int), []⟩ wr) Q0) ⟨fr k u la ll lc B b (i : Int), []⟩ wr := by
  have hi : i ≤ ll := by omega
  have hb : (i : Int) < (ll : Int) := by omega
  obtain ⟨QQ, eQ⟩ : ∃ QQ, (fun a' w'' => WI w B b c la ll lc k a' w'' ∧ mu ll a' w'' < mu ll ⟨fr k u la ll lc B b (i : Int), []⟩ wr) = QQ := ⟨_, rfl⟩
  rw [eQ]
  replace eQ : Hid (_ = QQ) := eQ
  conv => arg 2; whnf
  unfold fr
  obtain ⟨ab, off, rfl, hbl, hcell⟩ := hA (by omega)
  obtain ⟨hok4, k0, k1, k2, k3⟩ := hcell i hlt
  clear hcell hA
  have hbk := hN.mv.block ab hbl (fun e => e)
  have hcc : ∀ j, wr.cell? ⟨ab, j, none⟩ = w.cell? ⟨ab, j, none⟩ := fun j => by unfold World.cell?; rw [hbk]
  rw [← hcc] at k0 k1 k2 k3
  clear hcc hbk
  obtain ⟨m, hm, ok, es, ea⟩ := hN.ms
  obtain ⟨⟨kk, cl, n, t⟩, eA⟩ : ∃ a, A i = a := ⟨_, rfl⟩
  rw [eA] at k0 k1 k2 k3 hok4 hkk
  obtain ⟨o1, o2, o3, o4⟩ := hok4
  simp only at k0 k1 k2 k3 o1 o2 o3 o4 hkk
  obtain rfl : kk = 1 := hkk
  have hR := hN.ri hm 1 cl n t
  clear hN eA
  go_upto_region 9 with fail
  generalize hWW : wr.alloc _ = W1 at hR ⊢
  generalize hXX : wr.heap.size = X at hR ⊢
  clear hWW hXX k0 k1 k2 k3 hm
  have z1 := hR.x1
  go_wp2_with fail
  refine (used_any hR.ms ok cl).mono ?_
  rintro _ w3 ⟨rfl, q3⟩
  replace hR := hR.qt q3
  clear z1 q3
  go_wp2_with fail
  refine (used_any hR.ms ok 1).mono ?_
  rintro _ w4 ⟨rfl, q3⟩
  replace hR := hR.qt q3
  clear q3
  go_wp2_with fail
  refine (win_any hR.ms ok).mono ?_
  rintro _ w5 ⟨rfl, q3⟩
  replace hR := hR.qt q3
  clear q3
  have z0 := hR.x0
  have z1 := hR.x1
  have z2 := hR.x2
  go_wp2_with fail
  refine (acts_any hR.ms ok cl n).mono ?_
  rintro _ w6 ⟨rfl, q3, h3⟩
  by_cases hf : actE m cl n = 0
  · have okM := actM_ok ok cl n
    have eL : Hid _ := act_l m cl n
    have esM : Hid ((actM m cl n).s = c.st) := eL.out.2.2.1.trans es
    have eaM : Hid ((actM m cl n).a = c.ac) := eL.out.2.2.2.1.trans ea
    replace hR := hR.go q3 h3
    clear q3 h3 z0 z1 z2
    rw [hf]
    by_cases hc : cl = 1
    · subst hc
      have z1 := hR.x1
      go_wp2_with fail
      refine (used_any hR.ms okM 1).mono ?_
      rintro _ w7 ⟨rfl, q3⟩
      replace hR := hR.qt q3
      clear z1 q3
      go_wp2_with fail
      refine (used_any hR.ms okM 1).mono ?_
      rintro _ w8 ⟨rfl, q3⟩
      replace hR := hR.qt q3
      clear q3
      go_wp2_with fail
      refine (win_any hR.ms okM).mono ?_
      rintro _ w9 ⟨rfl, q3⟩
      replace hR := hR.qt q3
      clear q3
      have hNI : NI w w9 B b c := hR.ni okM esM.out eaM.out
      obtain ⟨u1, u2⟩ := useP_in okM 1
      obtain ⟨u3, u4⟩ := useN_in okM 1
      rw [esM.out] at u2
      rw [eaM.out] at u4
      rw [show (actM m 1 n).t / (actM m 1 n).l = m.t / m.l by rw [eL.out.1, eL.out.2.1]]
      have hown := act_own hf
      have a2 : c.ac ≤ 1000000 := by have h9 := okM.a2; rw [eaM.out] at h9; exact h9
      generalize useP (actM m 1 n) 1 = P1 at u1 u2 ⊢
      generalize useN (actM m 1 n) 1 = N1 at u3 u4 hown ⊢
      generalize useP m 1 = P0
      generalize useN m 1 = N0 at hown ⊢
      generalize m.t / m.l = V
      subst hown
      have z0 := hR.x0
      have z1 := hR.x1
      have z2 := hR.x2
      have y11 := hR.y11
      have y13 := hR.y13
      go_wp2_with fail
      all_goals (rw [← eQ.out]; exact ⟨wi_mk (i := i + 1) (by omega) (by omega) hNI rfl, by simp [mu, fr, intOf]; omega⟩)
    · have z1 := hR.x1
      go_wp2_with fail
      refine (used_any hR.ms okM cl).mono ?_
      rintro _ w7 ⟨rfl, q3⟩
      replace hR := hR.qt q3
      clear z1 q3
      go_wp2_with fail
      refine (used_any hR.ms okM 1).mono ?_
      rintro _ w8 ⟨rfl, q3⟩
      replace hR := hR.qt q3
      clear q3
      go_wp2_with fail
      refine (win_any hR.ms okM).mono ?_
      rintro _ w9 ⟨rfl, q3⟩
      replace hR := hR.qt q3
      clear q3
      have hNI : NI w w9 B b c := hR.ni okM esM.out eaM.out
      obtain ⟨u1, u2⟩ := useP_in okM cl
      obtain ⟨u3, u4⟩ := useN_in okM cl
      rw [esM.out] at u2
      rw [eaM.out] at u4
      rw [show (actM m cl n).t / (actM m cl n).l = m.t / m.l by rw [eL.out.1, eL.out.2.1]]
      rw [(act_other (y := 1) hc).1, (act_other (y := 1) hc).2]
      have hown := act_own hf
      have a2 : c.ac ≤ 1000000 := by have h9 := okM.a2; rw [eaM.out] at h9; exact h9
      generalize useP (actM m cl n) cl = P1 at u1 u2 ⊢
      generalize useN (actM m cl n) cl = N1 at u3 u4 hown ⊢
      generalize useP m cl = P0
      generalize useN m cl = N0 at hown ⊢
      generalize useP m 1 = Q
      generalize useN m 1 = K
      generalize m.t / m.l = V
      subst hown
      have z0 := hR.x0
      have z1 := hR.x1
      have z2 := hR.x2
      have y11 := hR.y11
      have y13 := hR.y13
      go_wp2_with fail
      all_goals (rw [← eQ.out]; exact ⟨wi_mk (i := i + 1) (by omega) (by omega) hNI rfl, by simp [mu, fr, intOf]; omega⟩)
  · rw [actM_id hf] at h3
    replace hR := hR.go q3 h3
    clear q3 h3 z0 z1 z2
    generalize actE m cl n = f at hf ⊢
    have z1 := hR.x1
    go_wp2_with fail
    refine (used_any hR.ms ok cl).mono ?_
    rintro _ w7 ⟨rfl, q3⟩
    replace hR := hR.qt q3
    clear z1 q3
    go_wp2_with fail
    refine (used_any hR.ms ok 1).mono ?_
    rintro _ w8 ⟨rfl, q3⟩
    replace hR := hR.qt q3
    clear q3
    go_wp2_with fail
    refine (win_any hR.ms ok).mono ?_
    rintro _ w9 ⟨rfl, q3⟩
    replace hR := hR.qt q3
    clear q3
    have hNI : NI w w9 B b c := hR.ni ok es ea
    obtain ⟨u1, u2⟩ := useP_in ok cl
    obtain ⟨u3, u4⟩ := useN_in ok cl
    rw [es] at u2
    rw [ea] at u4
    generalize useP m cl = P at u1 u2 ⊢
    generalize useN m cl = N at u3 u4 ⊢
    generalize useP m 1 = Q
    generalize useN m 1 = K
    generalize m.t / m.l = V
    have z0 := hR.x0
    have z1 := hR.x1
    have z2 := hR.x2
    have y11 := hR.y11
    have y13 := hR.y13
    go_wp2_with fail
    all_goals (rw [← eQ.out]; exact ⟨wi_mk (i := i + 1) (by omega) (by omega) hNI rfl, by simp [mu, fr, intOf]; omega⟩)
end Go.Proofs.Ytdanedibjccldaa

/-
  QuotaNever: a round of its loop, kind 2.
-/
namespace Go.Proofs.Ytdanedibjccldaa
open Go.RowKit
set_option linter.unusedVariables false

set_option maxRecDepth 1000000 in
set_option maxHeartbeats 40000000 in
theorem nact2 (c : Cf) (la : Option Addr) (ll lc : Nat) (A : Nat → Act4) (w : World) (hA : Acts w la ll A) (hll : ll ≤ 9223372036854775807) (B b : Nat) (k u : Nat → Value) (i : Nat) (hlt : i < ll) (wr : World) (hN : NI w wr B b c) (hkk : (A i).k = 2) (Q0 : Exit → Act → World → Prop) :
    Code.wp Try.prog (bodyOf Try.f4.body) (Exit.then (fun a' w'' => WI w B b c la ll lc k a' w'' ∧ mu ll a' w'' < mu ll ⟨fr k u la ll lc B b (i : Int), []⟩ wr) Q0) ⟨fr k u la ll lc B b (i : Int), []⟩ wr := by
  have hi : i ≤ ll := by omega
  have hb : (i : Int) < (ll : Int) := by omega
  obtain ⟨QQ, eQ⟩ : ∃ QQ, (fun a' w'' => WI w B b c la ll lc k a' w'' ∧ mu ll a' w'' < mu ll ⟨fr k u la ll lc B b (i : Int), []⟩ wr) = QQ := ⟨_, rfl⟩
  rw [eQ]
  replace eQ : Hid (_ = QQ) := eQ
  conv => arg 2; whnf
  unfold fr
  obtain ⟨ab, off, rfl, hbl, hcell⟩ := hA (by omega)
  obtain ⟨hok4, k0, k1, k2, k3⟩ := hcell i hlt
  clear hcell hA
  have hbk := hN.mv.block ab hbl (fun e => e)
  have hcc : ∀ j, wr.cell? ⟨ab, j, none⟩ = w.cell? ⟨ab, j, none⟩ := fun j => by unfold World.cell?; rw [hbk]
  rw [← hcc] at k0 k1 k2 k3
  clear hcc hbk
  obtain ⟨m, hm, ok, es, ea⟩ := hN.ms
  obtain ⟨⟨kk, cl, n, t⟩, eA⟩ : ∃ a, A i = a := ⟨_, rfl⟩
  rw [eA] at k0 k1 k2 k3 hok4 hkk
  obtain ⟨o1, o2, o3, o4⟩ := hok4
  simp only at k0 k1 k2 k3 o1 o2 o3 o4 hkk
  obtain rfl : kk = 2 := hkk
  have hR := hN.ri hm 2 cl n t
  clear hN eA
  go_upto_region 9 with fail
  generalize hWW : wr.alloc _ = W1 at hR ⊢
  generalize hXX : wr.heap.size = X at hR ⊢
  clear hWW hXX k0 k1 k2 k3 hm
  have z1 := hR.x1
  go_wp2_with fail
  refine (used_any hR.ms ok cl).mono ?_
  rintro _ w3 ⟨rfl, q3⟩
  replace hR := hR.qt q3
  clear z1 q3
  go_wp2_with fail
  refine (used_any hR.ms ok 1).mono ?_
  rintro _ w4 ⟨rfl, q3⟩
  replace hR := hR.qt q3
  clear q3
  go_wp2_with fail
  refine (win_any hR.ms ok).mono ?_
  rintro _ w5 ⟨rfl, q3⟩
  replace hR := hR.qt q3
  clear q3
  have z0 := hR.x0
  have z1 := hR.x1
  go_wp2_with fail
  refine (Plan_any hR.ms ok cl).mono ?_
  rintro _ w6 ⟨rfl, q3, h3⟩
  by_cases hf : plnE m cl 1 = 0
  · have okM := plnM_ok ok cl 1
    have eL : Hid _ := pln_l m cl 1
    have esM : Hid ((plnM m cl 1).s = c.st) := eL.out.2.2.1.trans es
    have eaM : Hid ((plnM m cl 1).a = c.ac) := eL.out.2.2.2.1.trans ea
    replace hR := hR.go q3 h3
    clear q3 h3 z0 z1
    rw [hf]
    by_cases hc : cl = 1
    · subst hc
      have z1 := hR.x1
      go_wp2_with fail
      refine (used_any hR.ms okM 1).mono ?_
      rintro _ w7 ⟨rfl, q3⟩
      replace hR := hR.qt q3
      clear z1 q3
      go_wp2_with fail
      refine (used_any hR.ms okM 1).mono ?_
      rintro _ w8 ⟨rfl, q3⟩
      replace hR := hR.qt q3
      clear q3
      go_wp2_with fail
      refine (win_any hR.ms okM).mono ?_
      rintro _ w9 ⟨rfl, q3⟩
      replace hR := hR.qt q3
      clear q3
      have hNI : NI w w9 B b c := hR.ni okM esM.out eaM.out
      obtain ⟨u1, u2⟩ := useP_in okM 1
      obtain ⟨u3, u4⟩ := useN_in okM 1
      rw [esM.out] at u2
      rw [eaM.out] at u4
      rw [show (plnM m 1 1).t / (plnM m 1 1).l = m.t / m.l by rw [eL.out.1, eL.out.2.1]]
      generalize useP (plnM m 1 1) 1 = P1 at u1 u2 ⊢
      generalize useN (plnM m 1 1) 1 = N1 at u3 u4 ⊢
      generalize useP m 1 = P0
      generalize useN m 1 = N0 
      generalize m.t / m.l = V
      have z0 := hR.x0
      have z1 := hR.x1
      have z2 := hR.x2
      have y11 := hR.y11
      have y13 := hR.y13
      go_wp2_with fail
      all_goals (rw [← eQ.out]; exact ⟨wi_mk (i := i + 1) (by omega) (by omega) hNI rfl, by simp [mu, fr, intOf]; omega⟩)
    · have z1 := hR.x1
      go_wp2_with fail
      refine (used_any hR.ms okM cl).mono ?_
      rintro _ w7 ⟨rfl, q3⟩
      replace hR := hR.qt q3
      clear z1 q3
      go_wp2_with fail
      refine (used_any hR.ms okM 1).mono ?_
      rintro _ w8 ⟨rfl, q3⟩
      replace hR := hR.qt q3
      clear q3
      go_wp2_with fail
      refine (win_any hR.ms okM).mono ?_
      rintro _ w9 ⟨rfl, q3⟩
      replace hR := hR.qt q3
      clear q3
      have hNI : NI w w9 B b c := hR.ni okM esM.out eaM.out
      obtain ⟨u1, u2⟩ := useP_in okM cl
      obtain ⟨u3, u4⟩ := useN_in okM cl
      rw [esM.out] at u2
      rw [eaM.out] at u4
      rw [show (plnM m cl 1).t / (plnM m cl 1).l = m.t / m.l by rw [eL.out.1, eL.out.2.1]]
      rw [(pln_other (y := 1) hc).1, (pln_other (y := 1) hc).2]
      generalize useP (plnM m cl 1) cl = P1 at u1 u2 ⊢
      generalize useN (plnM m cl 1) cl = N1 at u3 u4 ⊢
      generalize useP m cl = P0
      generalize useN m cl = N0 
      generalize useP m 1 = Q
      generalize useN m 1 = K
      generalize m.t / m.l = V
      have z0 := hR.x0
      have z1 := hR.x1
      have z2 := hR.x2
      have y11 := hR.y11
      have y13 := hR.y13
      go_wp2_with fail
      all_goals (rw [← eQ.out]; exact ⟨wi_mk (i := i + 1) (by omega) (by omega) hNI rfl, by simp [mu, fr, intOf]; omega⟩)
  · rw [plnM_id hf] at h3
    replace hR := hR.go q3 h3
    clear q3 h3 z0 z1
    generalize plnE m cl 1 = f at hf ⊢
    have z1 := hR.x1
    go_wp2_with fail
    refine (used_any hR.ms ok cl).mono ?_
    rintro _ w7 ⟨rfl, q3⟩
    replace hR := hR.qt q3
    clear z1 q3
    go_wp2_with fail
    refine (used_any hR.ms ok 1).mono ?_
    rintro _ w8 ⟨rfl, q3⟩
    replace hR := hR.qt q3
    clear q3
    go_wp2_with fail
    refine (win_any hR.ms ok).mono ?_
    rintro _ w9 ⟨rfl, q3⟩
    replace hR := hR.qt q3
    clear q3
    have hNI : NI w w9 B b c := hR.ni ok es ea
    obtain ⟨u1, u2⟩ := useP_in ok cl
    obtain ⟨u3, u4⟩ := useN_in ok cl
    rw [es] at u2
    rw [ea] at u4
    generalize useP m cl = P at u1 u2 ⊢
    generalize useN m cl = N at u3 u4 ⊢
    generalize useP m 1 = Q
    generalize useN m 1 = K
    generalize m.t / m.l = V
    have z0 := hR.x0
    have z1 := hR.x1
    have z2 := hR.x2
    have y11 := hR.y11
    have y13 := hR.y13
    go_wp2_with fail
    all_goals (rw [← eQ.out]; exact ⟨wi_mk (i := i + 1) (by omega) (by omega) hNI rfl, by simp [mu, fr, intOf]; omega⟩)
end Go.Proofs.Ytdanedibjccldaa

/-
  QuotaNever: a round of its loop, kind 3.
-/
namespace Go.Proofs.Ytdanedibjccldaa
open Go.RowKit
set_option linter.unusedVariables false

set_option maxRecDepth 1000000 in
set_option maxHeartbeats 40000000 in
theorem nact3 (c : Cf) (la : Option Addr) (ll lc : Nat) (A : Nat → Act4) (w : World) (hA : Acts w la ll A) (hll : ll ≤ 9223372036854775807) (B b : Nat) (k u : Nat → Value) (i : Nat) (hlt : i < ll) (wr : World) (hN : NI w wr B b c) (hkk : (A i).k = 3) (Q0 : Exit → Act → World → Prop) :
    Code.wp Try.prog (bodyOf Try.f4.body) (Exit.then (fun a' w'' => WI w B b c la ll lc k a' w'' ∧ mu ll a' w'' < mu ll ⟨fr k u la ll lc B b (i : Int), []⟩ wr) Q0) ⟨fr k u la ll lc B b (i : Int), []⟩ wr := by
  have hi : i ≤ ll := by omega
  have hb : (i : Int) < (ll : Int) := by omega
  obtain ⟨QQ, eQ⟩ : ∃ QQ, (fun a' w'' => WI w B b c la ll lc k a' w'' ∧ mu ll a' w'' < mu ll ⟨fr k u la ll lc B b (i : Int), []⟩ wr) = QQ := ⟨_, rfl⟩
  rw [eQ]
  replace eQ : Hid (_ = QQ) := eQ
  conv => arg 2; whnf
  unfold fr
  obtain ⟨ab, off, rfl, hbl, hcell⟩ := hA (by omega)
  obtain ⟨hok4, k0, k1, k2, k3⟩ := hcell i hlt
  clear hcell hA
  have hbk := hN.mv.block ab hbl (fun e => e)
  have hcc : ∀ j, wr.cell? ⟨ab, j, none⟩ = w.cell? ⟨ab, j, none⟩ := fun j => by unfold World.cell?; rw [hbk]
  rw [← hcc] at k0 k1 k2 k3
  clear hcc hbk
  obtain ⟨m, hm, ok, es, ea⟩ := hN.ms
  obtain ⟨⟨kk, cl, n, t⟩, eA⟩ : ∃ a, A i = a := ⟨_, rfl⟩
  rw [eA] at k0 k1 k2 k3 hok4 hkk
  obtain ⟨o1, o2, o3, o4⟩ := hok4
  simp only at k0 k1 k2 k3 o1 o2 o3 o4 hkk
  obtain rfl : kk = 3 := hkk
  have hR := hN.ri hm 3 cl n t
  clear hN eA
  go_upto_region 9 with fail
  generalize hWW : wr.alloc _ = W1 at hR ⊢
  generalize hXX : wr.heap.size = X at hR ⊢
  clear hWW hXX k0 k1 k2 k3 hm
  have z1 := hR.x1
  go_wp2_with fail
  refine (used_any hR.ms ok cl).mono ?_
  rintro _ w3 ⟨rfl, q3⟩
  replace hR := hR.qt q3
  clear z1 q3
  go_wp2_with fail
  refine (used_any hR.ms ok 1).mono ?_
  rintro _ w4 ⟨rfl, q3⟩
  replace hR := hR.qt q3
  clear q3
  go_wp2_with fail
  refine (win_any hR.ms ok).mono ?_
  rintro _ w5 ⟨rfl, q3⟩
  replace hR := hR.qt q3
  clear q3
  have z0 := hR.x0
  have z1 := hR.x1
  go_wp2_with fail
  refine (Drop_any hR.ms ok cl).mono ?_
  rintro _ w6 ⟨rfl, q3, h3⟩
  by_cases hf : plnE m cl (-1) = 0
  · have okM := plnM_ok ok cl (-1)
    have eL : Hid _ := pln_l m cl (-1)
    have esM : Hid ((plnM m cl (-1)).s = c.st) := eL.out.2.2.1.trans es
    have eaM : Hid ((plnM m cl (-1)).a = c.ac) := eL.out.2.2.2.1.trans ea
    replace hR := hR.go q3 h3
    clear q3 h3 z0 z1
    rw [hf]
    by_cases hc : cl = 1
    · subst hc
      have z1 := hR.x1
      go_wp2_with fail
      refine (used_any hR.ms okM 1).mono ?_
      rintro _ w7 ⟨rfl, q3⟩
      replace hR := hR.qt q3
      clear z1 q3
      go_wp2_with fail
      refine (used_any hR.ms okM 1).mono ?_
      rintro _ w8 ⟨rfl, q3⟩
      replace hR := hR.qt q3
      clear q3
      go_wp2_with fail
      refine (win_any hR.ms okM).mono ?_
      rintro _ w9 ⟨rfl, q3⟩
      replace hR := hR.qt q3
      clear q3
      have hNI : NI w w9 B b c := hR.ni okM esM.out eaM.out
      obtain ⟨u1, u2⟩ := useP_in okM 1
      obtain ⟨u3, u4⟩ := useN_in okM 1
      rw [esM.out] at u2
      rw [eaM.out] at u4
      rw [show (plnM m 1 (-1)).t / (plnM m 1 (-1)).l = m.t / m.l by rw [eL.out.1, eL.out.2.1]]
      generalize useP (plnM m 1 (-1)) 1 = P1 at u1 u2 ⊢
      generalize useN (plnM m 1 (-1)) 1 = N1 at u3 u4 ⊢
      generalize useP m 1 = P0
      generalize useN m 1 = N0 
      generalize m.t / m.l = V
      have z0 := hR.x0
      have z1 := hR.x1
      have z2 := hR.x2
      have y11 := hR.y11
      have y13 := hR.y13
      go_wp2_with fail
      all_goals (rw [← eQ.out]; exact ⟨wi_mk (i := i + 1) (by omega) (by omega) hNI rfl, by simp [mu, fr, intOf]; omega⟩)
    · have z1 := hR.x1
      go_wp2_with fail
      refine (used_any hR.ms okM cl).mono ?_
      rintro _ w7 ⟨rfl, q3⟩
      replace hR := hR.qt q3
      clear z1 q3
      go_wp2_with fail
      refine (used_any hR.ms okM 1).mono ?_
      rintro _ w8 ⟨rfl, q3⟩
      replace hR := hR.qt q3
      clear q3
      go_wp2_with fail
      refine (win_any hR.ms okM).mono ?_
      rintro _ w9 ⟨rfl, q3⟩
      replace hR := hR.qt q3
      clear q3
      have hNI : NI w w9 B b c := hR.ni okM esM.out eaM.out
      obtain ⟨u1, u2⟩ := useP_in okM cl
      obtain ⟨u3, u4⟩ := useN_in okM cl
      rw [esM.out] at u2
      rw [eaM.out] at u4
      rw [show (plnM m cl (-1)).t / (plnM m cl (-1)).l = m.t / m.l by rw [eL.out.1, eL.out.2.1]]
      rw [(pln_other (y := 1) hc).1, (pln_other (y := 1) hc).2]
      generalize useP (plnM m cl (-1)) cl = P1 at u1 u2 ⊢
      generalize useN (plnM m cl (-1)) cl = N1 at u3 u4 ⊢
      generalize useP m cl = P0
      generalize useN m cl = N0 
      generalize useP m 1 = Q
      generalize useN m 1 = K
      generalize m.t / m.l = V
      have z0 := hR.x0
      have z1 := hR.x1
      have z2 := hR.x2
      have y11 := hR.y11
      have y13 := hR.y13
      go_wp2_with fail
      all_goals (rw [← eQ.out]; exact ⟨wi_mk (i := i + 1) (by omega) (by omega) hNI rfl, by simp [mu, fr, intOf]; omega⟩)
  · rw [plnM_id hf] at h3
    replace hR := hR.go q3 h3
    clear q3 h3 z0 z1
    generalize plnE m cl (-1) = f at hf ⊢
    have z1 := hR.x1
    go_wp2_with fail
    refine (used_any hR.ms ok cl).mono ?_
    rintro _ w7 ⟨rfl, q3⟩
    replace hR := hR.qt q3
    clear z1 q3
    go_wp2_with fail
    refine (used_any hR.ms ok 1).mono ?_
    rintro _ w8 ⟨rfl, q3⟩
    replace hR := hR.qt q3
    clear q3
    go_wp2_with fail
    refine (win_any hR.ms ok).mono ?_
    rintro _ w9 ⟨rfl, q3⟩
    replace hR := hR.qt q3
    clear q3
    have hNI : NI w w9 B b c := hR.ni ok es ea
    obtain ⟨u1, u2⟩ := useP_in ok cl
    obtain ⟨u3, u4⟩ := useN_in ok cl
    rw [es] at u2
    rw [ea] at u4
    generalize useP m cl = P at u1 u2 ⊢
    generalize useN m cl = N at u3 u4 ⊢
    generalize useP m 1 = Q
    generalize useN m 1 = K
    generalize m.t / m.l = V
    have z0 := hR.x0
    have z1 := hR.x1
    have z2 := hR.x2
    have y11 := hR.y11
    have y13 := hR.y13
    go_wp2_with fail
    all_goals (rw [← eQ.out]; exact ⟨wi_mk (i := i + 1) (by omega) (by omega) hNI rfl, by simp [mu, fr, intOf]; omega⟩)
end Go.Proofs.Ytdanedibjccldaa

/-
  QuotaNever: a round of its loop, kind 4.
-/
namespace Go.Proofs.Ytdanedibjccldaa
open Go.RowKit
set_option linter.unusedVariables false

set_option maxRecDepth 1000000 in
set_option maxHeartbeats 40000000 in
theorem nact4 (c : Cf) (la : Option Addr) (ll lc : Nat) (A : Nat → Act4) (w : World) (hA : Acts w la ll A) (hll : ll ≤ 9223372036854775807) (B b : Nat) (k u : Nat → Value) (i : Nat) (hlt : i < ll) (wr : World) (hN : NI w wr B b c) (hkk : (A i).k = 4) (Q0 : Exit → Act → World → Prop) :
    Code.wp Try.prog (bodyOf Try.f4.body) (Exit.then (fun a' w'' => WI w B b c la ll lc k a' w'' ∧ mu ll a' w'' < mu ll ⟨fr k u la ll lc B b (i : Int), []⟩ wr) Q0) ⟨fr k u la ll lc B b (i : Int), []⟩ wr := by
  have hi : i ≤ ll := by omega
  have hb : (i : Int) < (ll : Int) := by omega
  obtain ⟨QQ, eQ⟩ : ∃ QQ, (fun a' w'' => WI w B b c la ll lc k a' w'' ∧ mu ll a' w'' < mu ll ⟨fr k u la ll lc B b (i : Int), []⟩ wr) = QQ := ⟨_, rfl⟩
  rw [eQ]
  replace eQ : Hid (_ = QQ) := eQ
  conv => arg 2; whnf
  unfold fr
  obtain ⟨ab, off, rfl, hbl, hcell⟩ := hA (by omega)
  obtain ⟨hok4, k0, k1, k2, k3⟩ := hcell i hlt
  clear hcell hA
  have hbk := hN.mv.block ab hbl (fun e => e)
  have hcc : ∀ j, wr.cell? ⟨ab, j, none⟩ = w.cell? ⟨ab, j, none⟩ := fun j => by unfold World.cell?; rw [hbk]
  rw [← hcc] at k0 k1 k2 k3
  clear hcc hbk
  obtain ⟨m, hm, ok, es, ea⟩ := hN.ms
  obtain ⟨⟨kk, cl, n, t⟩, eA⟩ : ∃ a, A i = a := ⟨_, rfl⟩
  rw [eA] at k0 k1 k2 k3 hok4 hkk
  obtain ⟨o1, o2, o3, o4⟩ := hok4
  simp only at k0 k1 k2 k3 o1 o2 o3 o4 hkk
  obtain rfl : kk = 4 := hkk
  have hR := hN.ri hm 4 cl n t
  clear hN eA
  go_upto_region 9 with fail
  generalize hWW : wr.alloc _ = W1 at hR ⊢
  generalize hXX : wr.heap.size = X at hR ⊢
  clear hWW hXX k0 k1 k2 k3 hm
  have z1 := hR.x1
  go_wp2_with fail
  refine (used_any hR.ms ok cl).mono ?_
  rintro _ w3 ⟨rfl, q3⟩
  replace hR := hR.qt q3
  clear z1 q3
  go_wp2_with fail
  refine (used_any hR.ms ok 1).mono ?_
  rintro _ w4 ⟨rfl, q3⟩
  replace hR := hR.qt q3
  clear q3
  go_wp2_with fail
  refine (win_any hR.ms ok).mono ?_
  rintro _ w5 ⟨rfl, q3⟩
  replace hR := hR.qt q3
  clear q3
  have z0 := hR.x0
  have z1 := hR.x1
  have z3 := hR.x3
  go_wp2_with fail
  refine (tick_any hR.ms ok t).mono ?_
  rintro _ w6 ⟨rfl, q3, h3⟩
  have okM := tckM_ok ok t
  have eL : Hid _ := tck_l m t
  have esM : Hid ((tckM m t).s = c.st) := eL.out.2.1.trans es
  have eaM : Hid ((tckM m t).a = c.ac) := eL.out.2.2.1.trans ea
  by_cases hf : tckE m t = 0
  · replace hR := hR.go q3 h3
    clear q3 h3 z0 z1 z3
    rw [hf]
    by_cases hw : (tckM m t).t / m.l = m.t / m.l
    · have z1 := hR.x1
      go_wp2_with fail
      refine (used_any hR.ms okM cl).mono ?_
      rintro _ w7 ⟨rfl, q3⟩
      replace hR := hR.qt q3
      clear z1 q3
      go_wp2_with fail
      refine (used_any hR.ms okM 1).mono ?_
      rintro _ w8 ⟨rfl, q3⟩
      replace hR := hR.qt q3
      clear q3
      go_wp2_with fail
      refine (win_any hR.ms okM).mono ?_
      rintro _ w9 ⟨rfl, q3⟩
      replace hR := hR.qt q3
      clear q3
      have hNI : NI w w9 B b c := hR.ni okM esM.out eaM.out
      obtain ⟨u1, u2⟩ := useP_in okM cl
      obtain ⟨u3, u4⟩ := useN_in okM cl
      rw [esM.out] at u2
      rw [eaM.out] at u4
      rw [eL.out.2.2.2.2 cl] at u1 u2 ⊢
      rw [eL.out.1]
      rw [hw]
      rw [tck_same hw cl] at u3 u4 ⊢
      generalize useP (tckM m t) 1 = Y
      generalize useN (tckM m t) 1 = Z
      generalize useP m 1 = Q
      generalize useN m 1 = K
      generalize useP m cl = P at u1 u2 ⊢
      generalize useN m cl = N at u3 u4 ⊢
      generalize m.t / m.l = V
      have z0 := hR.x0
      have z1 := hR.x1
      have z2 := hR.x2
      have y11 := hR.y11
      have y13 := hR.y13
      go_wp2_with fail
      all_goals (rw [← eQ.out]; exact ⟨wi_mk (i := i + 1) (by omega) (by omega) hNI rfl, by simp [mu, fr, intOf]; omega⟩)
    · have z1 := hR.x1
      go_wp2_with fail
      refine (used_any hR.ms okM cl).mono ?_
      rintro _ w7 ⟨rfl, q3⟩
      replace hR := hR.qt q3
      clear z1 q3
      go_wp2_with fail
      refine (used_any hR.ms okM 1).mono ?_
      rintro _ w8 ⟨rfl, q3⟩
      replace hR := hR.qt q3
      clear q3
      go_wp2_with fail
      refine (win_any hR.ms okM).mono ?_
      rintro _ w9 ⟨rfl, q3⟩
      replace hR := hR.qt q3
      clear q3
      have hNI : NI w w9 B b c := hR.ni okM esM.out eaM.out
      obtain ⟨u1, u2⟩ := useP_in okM cl
      obtain ⟨u3, u4⟩ := useN_in okM cl
      rw [esM.out] at u2
      rw [eaM.out] at u4
      rw [eL.out.2.2.2.2 cl] at u1 u2 ⊢
      rw [eL.out.1]
      rw [tck_new hw cl] at u3 u4 ⊢
      generalize useP (tckM m t) 1 = Y
      generalize useN (tckM m t) 1 = Z
      generalize useP m 1 = Q
      generalize useN m 1 = K
      generalize useP m cl = P at u1 u2 ⊢
      generalize useN m cl = N
      generalize (tckM m t).t / m.l = V1 at hw ⊢
      generalize m.t / m.l = V at hw ⊢
      have z0 := hR.x0
      have z1 := hR.x1
      have z2 := hR.x2
      have y11 := hR.y11
      have y13 := hR.y13
      go_wp2_with fail
      all_goals (rw [← eQ.out]; exact ⟨wi_mk (i := i + 1) (by omega) (by omega) hNI rfl, by simp [mu, fr, intOf]; omega⟩)
  · rw [tckM_id hf] at h3
    replace hR := hR.go q3 h3
    clear q3 h3 z0 z1 z3
    generalize tckE m t = f at hf ⊢
    have z1 := hR.x1
    go_wp2_with fail
    refine (used_any hR.ms ok cl).mono ?_
    rintro _ w7 ⟨rfl, q3⟩
    replace hR := hR.qt q3
    clear z1 q3
    go_wp2_with fail
    refine (used_any hR.ms ok 1).mono ?_
    rintro _ w8 ⟨rfl, q3⟩
    replace hR := hR.qt q3
    clear q3
    go_wp2_with fail
    refine (win_any hR.ms ok).mono ?_
    rintro _ w9 ⟨rfl, q3⟩
    replace hR := hR.qt q3
    clear q3
    have hNI : NI w w9 B b c := hR.ni ok es ea
    obtain ⟨u1, u2⟩ := useP_in ok cl
    obtain ⟨u3, u4⟩ := useN_in ok cl
    rw [es] at u2
    rw [ea] at u4
    generalize useP m cl = P at u1 u2 ⊢
    generalize useN m cl = N at u3 u4 ⊢
    generalize useP m 1 = Q
    generalize useN m 1 = K
    generalize m.t / m.l = V
    have z0 := hR.x0
    have z1 := hR.x1
    have z2 := hR.x2
    have y11 := hR.y11
    have y13 := hR.y13
    go_wp2_with fail
    all_goals (rw [← eQ.out]; exact ⟨wi_mk (i := i + 1) (by omega) (by omega) hNI rfl, by simp [mu, fr, intOf]; omega⟩)
end Go.Proofs.Ytdanedibjccldaa

/-
  QuotaNever: a round of its loop, kind 5.
-/
namespace Go.Proofs.Ytdanedibjccldaa
open Go.RowKit
set_option linter.unusedVariables false

set_option maxRecDepth 1000000 in
set_option maxHeartbeats 40000000 in
theorem nact5 (c : Cf) (la : Option Addr) (ll lc : Nat) (A : Nat → Act4) (w : World) (hA : Acts w la ll A) (hll : ll ≤ 9223372036854775807) (B b : Nat) (k u : Nat → Value) (i : Nat) (hlt : i < ll) (wr : World) (hN : NI w wr B b c) (hkk : (A i).k ≠ 1 ∧ (A i).k ≠ 2 ∧ (A i).k ≠ 3 ∧ (A i).k ≠ 4) (Q0 : Exit → Act → World → Prop) :
    Code.wp Try.prog (bodyOf Try.f4.body) (Exit.then (fun a' w'' => WI w B b c la ll lc k a' w'' ∧ mu ll a' w'' < mu ll ⟨fr k u la ll lc B b (i : Int), []⟩ wr) Q0) ⟨fr k u la ll lc B b (i : Int), []⟩ wr := by
  have hi : i ≤ ll := by omega
  have hb : (i : Int) < (ll : Int) := by omega
  obtain ⟨QQ, eQ⟩ : ∃ QQ, (fun a' w'' => WI w B b c la ll lc k a' w'' ∧ mu ll a' w'' < mu ll ⟨fr k u la ll lc B b (i : Int), []⟩ wr) = QQ := ⟨_, rfl⟩
  rw [eQ]
  replace eQ : Hid (_ = QQ) := eQ
  conv => arg 2; whnf
  unfold fr
  obtain ⟨ab, off, rfl, hbl, hcell⟩ := hA (by omega)
  obtain ⟨hok4, k0, k1, k2, k3⟩ := hcell i hlt
  clear hcell hA
  have hbk := hN.mv.block ab hbl (fun e => e)
  have hcc : ∀ j, wr.cell? ⟨ab, j, none⟩ = w.cell? ⟨ab, j, none⟩ := fun j => by unfold World.cell?; rw [hbk]
  rw [← hcc] at k0 k1 k2 k3
  clear hcc hbk
  obtain ⟨m, hm, ok, es, ea⟩ := hN.ms
  obtain ⟨⟨kk, cl, n, t⟩, eA⟩ : ∃ a, A i = a := ⟨_, rfl⟩
  rw [eA] at k0 k1 k2 k3 hok4 hkk
  obtain ⟨o1, o2, o3, o4⟩ := hok4
  simp only at k0 k1 k2 k3 o1 o2 o3 o4 hkk
  obtain ⟨e1, e2, e3, e4⟩ := hkk
  have hR := hN.ri hm kk cl n t
  clear hN eA
  go_upto_region 9 with fail
  generalize hWW : wr.alloc _ = W1 at hR ⊢
  generalize hXX : wr.heap.size = X at hR ⊢
  clear hWW hXX k0 k1 k2 k3 hm
  have z1 := hR.x1
  go_wp2_with fail
  refine (used_any hR.ms ok cl).mono ?_
  rintro _ w3 ⟨rfl, q3⟩
  replace hR := hR.qt q3
  clear z1 q3
  go_wp2_with fail
  refine (used_any hR.ms ok 1).mono ?_
  rintro _ w4 ⟨rfl, q3⟩
  replace hR := hR.qt q3
  clear q3
  go_wp2_with fail
  refine (win_any hR.ms ok).mono ?_
  rintro _ w5 ⟨rfl, q3⟩
  replace hR := hR.qt q3
  clear q3
  have z0 := hR.x0
  have z1 := hR.x1
  go_wp2_with fail
  refine (used_any hR.ms ok cl).mono ?_
  rintro _ w7 ⟨rfl, q3⟩
  replace hR := hR.qt q3
  clear z1 q3
  go_wp2_with fail
  refine (used_any hR.ms ok 1).mono ?_
  rintro _ w8 ⟨rfl, q3⟩
  replace hR := hR.qt q3
  clear q3
  go_wp2_with fail
  refine (win_any hR.ms ok).mono ?_
  rintro _ w9 ⟨rfl, q3⟩
  replace hR := hR.qt q3
  clear q3
  have hNI : NI w w9 B b c := hR.ni ok es ea
  clear z0
  obtain ⟨u1, u2⟩ := useP_in ok cl
  obtain ⟨u3, u4⟩ := useN_in ok cl
  rw [es] at u2
  rw [ea] at u4
  generalize useP m cl = P at u1 u2 ⊢
  generalize useN m cl = N at u3 u4 ⊢
  generalize useP m 1 = Q
  generalize useN m 1 = K
  generalize m.t / m.l = V
  have z0 := hR.x0
  have z1 := hR.x1
  have z2 := hR.x2
  have y11 := hR.y11
  have y13 := hR.y13
  go_wp2_with fail
  all_goals (rw [← eQ.out]; exact ⟨wi_mk (i := i + 1) (by omega) (by omega) hNI rfl, by simp [mu, fr, intOf]; omega⟩)
end Go.Proofs.Ytdanedibjccldaa

/-
  The walk of QuotaNever.
-/
namespace Go.Proofs.Ytdanedibjccldaa
open Go.RowKit
set_option linter.unusedVariables false

theorem q_mk {t : Array Value} {k : Nat → Value} {la : Option Addr} {ll lc B b : Nat} {ii : Int} {wr : World} {Q0 : Exit → Act → World → Prop} (hQ : Hid (∀ u', Q0 .normal ⟨fr k u' la ll lc B b ii, []⟩ wr)) (h : t = fr k (fun j => t.getD j undef) la ll lc B b ii) : Q0 .normal ⟨t, []⟩ wr :=
  (congrArg (fun x => Q0 .normal ⟨x, []⟩ wr) h).mpr (hQ.out _)
set_option maxRecDepth 1000000 in
set_option maxHeartbeats 4000000 in
theorem nend (la : Option Addr) (ll lc : Nat) (B b : Nat) (k u : Nat → Value) (i : Nat) (hge : ¬ i < ll) (wr : World) (QQ : Act → World → Prop) (Q0 : Exit → Act → World → Prop)
    (hQ : Hid (∀ u', Q0 .normal ⟨fr k u' la ll lc B b (i : Int), []⟩ wr)) :
    Code.wp Try.prog (bodyOf Try.f4.body) (Exit.then QQ (Exit.inBlock 0 Q0)) ⟨fr k u la ll lc B b (i : Int), []⟩ wr := by
  have hb : ¬ (i : Int) < (ll : Int) := by omega
  conv => arg 2; whnf
  unfold fr
  go_wp2_with fail
  exact q_mk hQ rfl
set_option maxRecDepth 1000000 in
theorem nloop (c : Cf) (la : Option Addr) (ll lc : Nat) (A : Nat → Act4) (w : World) (hA : Acts w la ll A) (hll : ll ≤ 9223372036854775807) (B b : Nat) (w2 : World) (hN : NI w w2 B b c) (k u : Nat → Value) (Q0 : Exit → Act → World → Prop)
    (hQ : ∀ u' (i : Nat) wr, NI w wr B b c → Q0 .normal ⟨fr k u' la ll lc B b (i : Int), []⟩ wr) :
    Code.wp Try.prog (Code.loop (bodyOf Try.f4.body)) (Exit.inBlock 0 Q0) ⟨fr k u la ll lc B b 0, []⟩ w2 := by
  refine wp_loop (WI w B b c la ll lc k) (mu ll) ⟨0, 0, u, ⟨rfl, Nat.zero_le _, hN⟩, rfl⟩ ?_
  intro a wr hI
  obtain ⟨i, ii, u', ⟨hii, hi, hN'⟩, rfl⟩ := hI
  subst hii
  by_cases hlt : i < ll
  · by_cases e1 : (A i).k = 1
    · exact nact1 c la ll lc A w hA hll B b k u' i hlt wr hN' e1 _
    by_cases e2 : (A i).k = 2
    · exact nact2 c la ll lc A w hA hll B b k u' i hlt wr hN' e2 _
    by_cases e3 : (A i).k = 3
    · exact nact3 c la ll lc A w hA hll B b k u' i hlt wr hN' e3 _
    by_cases e4 : (A i).k = 4
    · exact nact4 c la ll lc A w hA hll B b k u' i hlt wr hN' e4 _
    exact nact5 c la ll lc A w hA hll B b k u' i hlt wr hN' ⟨e1, e2, e3, e4⟩ _
  · exact nend la ll lc B b k u' i hlt wr _ Q0 (fun u'' => hQ u'' i wr hN')
theorem nloop_at (c : Cf) (la : Option Addr) (ll lc : Nat) (A : Nat → Act4) (w : World) (hA : Acts w la ll A) (hll : ll ≤ 9223372036854775807) (B b : Nat) (w2 : World) (hN : NI w w2 B b c) (t : Array Value) (C : Code) (hC : C = bodyOf Try.f4.body) (h : t = fr (fun j => t.getD j undef) (fun j => t.getD j undef) la ll lc B b 0) (Q0 : Exit → Act → World → Prop)
    (hQ : ∀ k' u' (i : Nat) wr, NI w wr B b c → Q0 .normal ⟨fr k' u' la ll lc B b (i : Int), []⟩ wr) :
    Code.wp Try.prog (Code.loop C) (Exit.inBlock 0 Q0) ⟨t, []⟩ w2 := by
  rw [hC]
  have := nloop c la ll lc A w hA hll B b w2 hN (fun j => t.getD j undef) (fun j => t.getD j undef) Q0 (fun u' i wr h => hQ _ u' i wr h)
  exact (congrArg (fun x => Code.wp Try.prog (Code.loop (bodyOf Try.f4.body)) (Exit.inBlock 0 Q0) ⟨x, []⟩ w2) h).mpr this
set_option maxRecDepth 100000 in
set_option maxHeartbeats 4000000 in
theorem never_any (c : Cf) (la : Option Addr) (ll lc : Nat) (A : Nat → Act4) (w : World) (hA : Acts w la ll A) (hll : ll ≤ 9223372036854775807) :
    Calls Try.prog 4 #[.agg (cfA c), .slice la ll lc] w fun e w' => e = .returned (.bool true) ∧ Below w.heap.size w w' := by
  have hZ : (w.alloc (.cells (cfA c) 25)).heap[w.heap.size]? = some (.cells (cfA c) 25 (0, 0)) := heap_new w _
  have hM : Qt w (w.alloc (.cells (cfA c) 25)) := (Mv.refl w _).alloc _
  by_cases hB : newB c = true
  · go_enter Try.func4, Try.ntmps4
    go_upto_region 1 with fail
    generalize hWW : w.alloc _ = W at hZ hM ⊢
    generalize hBB : w.heap.size = B at hZ ⊢
    clear hWW hBB
    go_wp2_with fail
    refine (works_any W).mono ?_
    rintro _ w1 ⟨rfl, m1⟩
    replace hZ := (m1.block B (lt_of hZ) (fun e => e)).trans hZ
    replace hM : Qt w w1 := hM.trans m1 (fun _ e => e.elim)
    clear m1
    go_wp2_with (refine wpList_load_row rfl 25 (.tmp 2) rfl B rfl 25 (cfA c) (0, 0) _ hZ Try.underlying25 rfl (by kernel_rfl) ?_)
    refine (new_ok c hB w1).mono ?_
    rintro _ w2 ⟨b, rfl, m2, hm, hb⟩
    have hN : NI w w2 B b c := by
      refine ⟨hM.trans m2 (fun _ e => e.elim), (m2.block B (lt_of hZ) (fun e => e)).trans hZ, fun e => ?_, Nat.le_trans hM.size hb, _, hm, newM_ok hB, rfl, rfl⟩
      have := lt_of hZ
      omega
    clear hZ hM m2 hm hb
    go_wp2_with fail
    refine nloop_at c la ll lc A w hA hll B b w2 hN _ _ rfl rfl _ ?_
    intro k' u' i wr hN
    unfold fr
    go_wp2_with fail
    go_ret
    exact ⟨rfl, hN.mv.below (Nat.le_refl _) (fun _ e => e.elim)⟩
  · have hB' : newB c = false := by simpa using hB
    go_enter Try.func4, Try.ntmps4
    go_upto_region 1 with fail
    generalize hWW : w.alloc _ = W at hZ hM ⊢
    generalize hBB : w.heap.size = B at hZ ⊢
    clear hWW
    go_wp2_with fail
    refine (works_any W).mono ?_
    rintro _ w1 ⟨rfl, m1⟩
    replace hZ := (m1.block B (lt_of hZ) (fun e => e)).trans hZ
    replace hM : Qt w w1 := hM.trans m1 (fun _ e => e.elim)
    clear m1
    go_wp2_with (refine wpList_load_row rfl 25 (.tmp 2) rfl B rfl 25 (cfA c) (0, 0) _ hZ Try.underlying25 rfl (by kernel_rfl) ?_)
    refine (new_no c hB' w1).mono ?_
    rintro _ w2 ⟨rfl, m2⟩
    go_wp2_with fail
    go_ret
    exact ⟨rfl, (hM.trans m2 (fun _ e => e.elim)).below (Nat.le_refl _) (fun _ e => e.elim)⟩
end Go.Proofs.Ytdanedibjccldaa
