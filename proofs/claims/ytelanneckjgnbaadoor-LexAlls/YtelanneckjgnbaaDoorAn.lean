/-
  LexAlls: the walk, from the start.
-/
import Derived.Test.YtelanneckjgnbaaDoorAt
namespace Go.Proofs.YtelanneckjgnbaaDoor
open Go.RowKit Go.Shelf
set_option linter.unusedVariables false

theorem row_cap {w : World} {e : TypeId} {s n g cap : Nat} {f : Nat → Value} (h : Row w e s (.slice (some ⟨g, 0, none⟩) n cap) n f) : n ≤ cap := by
  obtain ⟨_, h | ⟨g', c', cur, hv, _, _, h1, _⟩⟩ := h
  · cases h.1
  · cases hv; exact h1
theorem alls_mid (C : Code) (hC : cSnd (cSnd (cSnd (cSnd (cSnd (cSnd (cSnd (cSnd (Tryd.f5.body.getD .skip)))))))) = C) (s : ByteArray) (hs : s.size ≤ 4194304) (most : Int) (L : List Tk) (hL : L = allL s)
    (w w3 W : World) (hB : Below w.heap.size w w3) (ht : Tab w) (Ba Bw Bn : Nat) (ao : Option Addr) (cap n : Nat) (hn : n ≤ L.length)
    (ba : Boxed w3 Ba 4 (.bool false)) (hne : Ba ≠ Bw) (m : Mv w3 W (fun b => b = Bw)) (hr : RowL w3 (.slice ao L.length cap) L) (hnw : some Bw ≠ (Value.slice ao L.length cap).ownBlock)
    (hBa : w.heap.size ≤ Ba) (hBw : w.heap.size ≤ Bw) (bw : Boxed W Bw 39 (.slice ao L.length cap)) (bn : Boxed W Bn 3 (.int .i64 (n : Nat)))
    (g15 g16 g17 g18 g19 g20 g21 g22 g23 g24 g25 g26 g27 g28 g29 g30 g31 g32 g33 g34 g35 g36 g37 g38 g39 g40 g41 g42 g43 g44 g45 g46 g47 g48 g49 g50 g51 g52 g53 g54 g55 g56 g57 g58 g59 g60 : Value) :
    Code.wp Tryd.prog C (bodyPostM Fence.wide 3 Tryd.prog Tryd.f5 fun e w' => e = .returned (.bool true) ∧ Below w.heap.size w w') { tmps := #[.string s, .int .i64 most, undef, undef, .pointer (some ⟨Ba, 0, none⟩), .bool true, .pointer (some ⟨Bw, 0, none⟩), .pointer (some ⟨Bn, 0, none⟩), undef, undef, undef, undef, undef, undef, undef, g15, g16, g17, g18, g19, g20, g21, g22, g23, g24, g25, g26, g27, g28, g29, g30, g31, g32, g33, g34, g35, g36, g37, g38, g39, g40, g41, g42, g43, g44, g45, g46, g47, g48, g49, g50, g51, g52, g53, g54, g55, g56, g57, g58, g59, g60, undef, undef, undef, undef, undef, undef, undef, undef, undef, undef, undef, undef, undef, undef, undef, undef, undef, undef, undef, undef, undef, undef, undef, undef, undef, undef, undef, undef, undef, undef, undef, undef, undef, undef, undef, undef, undef, undef, undef, undef, undef, undef, undef, undef, undef, undef, undef, undef, undef, undef, undef, undef, undef, undef, undef, undef, undef, undef, undef, undef, undef, undef, undef], defers := [] } W :=
  alls_tail C hC s hs most L hL w W ((Mv.ofBelow hB).trans m (fun b e => .inr (by omega))).toBelow ht Ba Bw Bn ao cap n hn ((m.block _ ba.lt (fun e => hne e)).trans ba) bw bn
    (m.row hr (fun k hk e => hnw (by rw [hk, e]))) hBa g15 g16 g17 g18 g19 g20 g21 g22 g23 g24 g25 g26 g27 g28 g29 g30 g31 g32 g33 g34 g35 g36 g37 g38 g39 g40 g41 g42 g43 g44 g45 g46 g47 g48 g49 g50 g51 g52 g53 g54 g55 g56 g57 g58 g59 g60
set_option maxRecDepth 1000000 in
set_option maxHeartbeats 8000000 in
theorem alls_law (s : ByteArray) (most : Int) (w : World) (ht : Tab w) :
    Calls Tryd.prog 5 #[.string s, .int .i64 most] w fun e w' => e = .returned (.bool true) ∧ Below w.heap.size w w' := by
  obtain ⟨B0, hB0⟩ : ∃ x, w.heap.size = x := ⟨_, rfl⟩
  obtain ⟨wa, hwa⟩ : ∃ x, w.alloc (.cells #[.bool false] 4) = x := ⟨_, rfl⟩
  have ba : Boxed wa B0 4 (.bool false) := by rw [← hwa, ← hB0]; exact Boxed.new w 4 _
  have hba : Below w.heap.size w wa := by rw [← hwa]; exact (Below.refl _ w).alloc (Nat.le_refl _) _
  have hsa : wa.heap.size = B0 + 1 := by rw [← hwa]; simp [hB0]
  have cW := works_any wa (ht.on hba)
  have HWA : Hid (w.alloc (.cells #[.bool false] 4) = wa) := hwa
  clear hwa
  refine (callsIn_wide (n := 3)).1 (callsIn_of_wp_marks Tryd.func5 rfl trivial ?_ rfl)
  refine wpIn_wide.2 ?_
  simp only [Tryd.ntmps5, List.size_toArray, List.length_cons, List.length_nil, Nat.reduceAdd, Nat.reduceSub, Array.replicate_succ, Array.replicate_zero, List.push_toArray, List.append_toArray, List.nil_append, List.cons_append]
  obtain ⟨C, hC⟩ : ∃ C, cSnd (cSnd (cSnd (cSnd (cSnd (cSnd (cSnd (cSnd (Tryd.f5.body.getD .skip)))))))) = C := ⟨_, rfl⟩
  have hC2 := hC
  simp only [cSnd, Tryd.f5, Option.getD_some] at hC2
  rw [hC2]
  clear hC2
  have HC : Hid (cSnd (cSnd (cSnd (cSnd (cSnd (cSnd (cSnd (cSnd (Tryd.f5.body.getD .skip)))))))) = C) := hC
  clear hC
  by_cases h : s.size > 4194304
  · have h' : (s.size : Int) > 4194304 := by omega
    go_wp2_with fail
    rw [HWA.out]
    refine cW.mono ?_
    rintro _ w1 ⟨rfl, b1⟩
    have ba1 : Boxed w1 B0 4 (.bool false) := (b1.block _ (by omega)).trans ba
    have c1 := ba1.cell
    have f1 := ba1.frozen
    go_wp2_with fail
    refine leaves_marks (v := .bool true) [] _ (by simp) (fun D hD => by simp at hD) (fun W' m => ?_)
    have bz := ba1.set (.bool true)
    have bz' : Boxed W' B0 4 (.bool true) := (m.block _ bz.lt (fun e => by simp at e)).trans bz
    refine ⟨result5 _ _ ⟨B0, 0, none⟩ rfl bz'.cell, rfl, ?_⟩
    exact (((Mv.ofBelow (below2 hba b1)).setCell (a := ⟨B0, 0, none⟩) (.inr (by show w.heap.size ≤ B0; omega)) _).trans m (fun b e => by simp at e)).toBelow
  have h' : ¬ (s.size : Int) > 4194304 := by omega
  go_wp2_with fail
  rw [HWA.out]
  refine cW.mono ?_
  rintro _ w1 ⟨rfl, b1⟩
  have ba1 : Boxed w1 B0 4 (.bool false) := (b1.block _ (by omega)).trans ba
  have hb1 := below2 hba b1
  obtain ⟨B1, hB1⟩ : ∃ x, w1.heap.size = x := ⟨_, rfl⟩
  have hlt1 : B0 < B1 := by have := b1.size; omega
  clear cW HWA
  obtain ⟨w2, hw2⟩ : ∃ x, w1.alloc (.cells #[.slice none 0 0] 39) = x := ⟨_, rfl⟩
  have bw2 : Boxed w2 B1 39 (.slice none 0 0) := by rw [← hw2, ← hB1]; exact Boxed.new w1 39 _
  have ba2 : Boxed w2 B0 4 (.bool false) := by rw [← hw2]; exact ba1.alloc _
  have hb2 : Below w.heap.size w w2 := by rw [← hw2]; exact below2 hb1 (below_new _ _)
  have hs2 : w2.heap.size = B1 + 1 := by rw [← hw2]; simp [hB1]
  by_cases h4 : s.size ≤ 4096
  · have h4' : (s.size : Int) ≤ 4096 := by omega
    have cB := begin_any s (by omega) w2
    have hLM := all_want s
    have hLe : allL s = allF s 0 := by unfold allL; rw [if_neg (by omega)]
    rw [← hLe] at hLM
    obtain ⟨L, eL⟩ : ∃ L, allL s = L := ⟨_, rfl⟩
    rw [eL] at hLM
    have hML : (begO s 0).1.length ≤ s.size + 1 := by have := beg_len (s := s) s.size 0 (by omega) (by omega); omega
    generalize (begO s 0) = O at cB hLM hML
    obtain ⟨M, e1, e2⟩ := O
    simp only at cB hLM hML
    have HW2 : Hid (w1.alloc (.cells #[.slice none 0 0] 39) = w2) := hw2
    clear hw2 hLe
    have HB2 : Hid (Below w.heap.size w w2) := hb2
    have HLM : Hid (_) := hLM
    have HEL : Hid (allL s = L) := eL
    clear hLM eL hb1 hb2 b1 ba1 ba hba
    go_wp2_with fail
    rw [HW2.out]
    refine cB.mono ?_
    rintro _ w3 ⟨v, rfl, hR⟩
    have ba3 : Boxed w3 B0 4 (.bool false) := (hR.B.block _ (by omega)).trans ba2
    have bw3 : Boxed w3 B1 39 (.slice none 0 0) := (hR.B.block _ (by omega)).trans bw2
    have hb3 : Below w.heap.size w w3 := below2 HB2.out hR.B
    have c0 := ba3.cell
    have c1 := bw3.cell
    have f1 := bw3.frozen
    have hn1 : some B1 ≠ v.ownBlock := bw3.not_row (by decide) hR.row
    clear cB HW2 ba2 bw2 hs2
    have hs3 : B1 < w3.heap.size := bw3.lt
    rcases HLM.out with ⟨rfl, rfl⟩ | ⟨hp, hk, hLd⟩ | ⟨hp, hk, hLd⟩
    · obtain ⟨ao, cap, rfl⟩ := hR.sl
      have HR := hR.hid
      have HA3 : Hid (Boxed w3 B0 4 (.bool false)) := ba3
      have HW3 : Hid (Boxed w3 B1 39 (.slice none 0 0)) := bw3
      have H3 : Hid (Below w.heap.size w w3) := hb3
      clear hR ba3 bw3 hb3
      have HN1 : Hid (some B1 ≠ (Value.slice ao ([] : List Tk).length cap).ownBlock) := hn1
      clear hn1 HLM
      have hfin : ∀ (W : World), W = (w3.setCell ⟨B1, 0, none⟩ (.slice ao 0 cap)).alloc (.cells #[.int .i64 0] 3) → Mv w3 W (fun b => b = B1) ∧ Boxed W B1 39 (.slice ao ([] : List Tk).length cap) ∧ Boxed W w3.heap.size 3 (.int .i64 ((0 : Nat) : Int)) := by
        intro W hW
        have hsz : (w3.setCell ⟨B1, 0, none⟩ (.slice ao 0 cap)).heap.size = w3.heap.size := by simp [World.setCell]
        refine ⟨?_, ?_, ?_⟩
        · rw [hW]; exact ((Mv.refl w3 (fun b => b = B1)).setCell (a := ⟨B1, 0, none⟩) (Or.inl (rfl : B1 = B1)) _).alloc _
        · rw [hW]; exact (HW3.out.set _).alloc _
        · have := Boxed.new (w3.setCell ⟨B1, 0, none⟩ (.slice ao 0 cap)) 3 (.int .i64 0)
          rw [hsz] at this
          rw [hW]; exact this
      have HF : Hid (_) := hfin
      clear hfin
      by_cases hm0 : 0 ≤ most
      · have hm1 : ¬ most < 0 := by omega
        go_wp2_with fail
        obtain ⟨q1, q2, q3⟩ := HF.out _ rfl
        exact alls_mid C HC.out s (by omega) most [] HEL.out.symm w w3 _ H3.out ht B0 B1 w3.heap.size ao cap 0 (Nat.zero_le _) HA3.out (by omega) q1 HR.out.row HN1.out (by omega) (by omega) q2 q3 _ _ _ _ _ _ _ _ _ _ _ _ _ _ _ _ _ _ _ _ _ _ _ _ _ _ _ _ _ _ _ _ _ _ _ _ _ _ _ _ _ _ _ _ _ _
      · go_wp2_with fail
        obtain ⟨q1, q2, q3⟩ := HF.out _ rfl
        exact alls_mid C HC.out s (by omega) most [] HEL.out.symm w w3 _ H3.out ht B0 B1 w3.heap.size ao cap 0 (Nat.zero_le _) HA3.out (by omega) q1 HR.out.row HN1.out (by omega) (by omega) q2 q3 _ _ _ _ _ _ _ _ _ _ _ _ _ _ _ _ _ _ _ _ _ _ _ _ _ _ _ _ _ _ _ _ _ _ _ _ _ _ _ _ _ _ _ _ _ _
    · obtain ⟨m, hm⟩ : ∃ m, M.length = m + 1 := ⟨M.length - 1, by omega⟩
      obtain ⟨g, cap, rfl⟩ : ∃ g cap, v = .slice (some ⟨g, 0, none⟩) (m + 1) cap := by
        obtain ⟨ao, c, e, h1, _⟩ := Row.form hR.row
        obtain ⟨g, rfl⟩ := h1 hp
        exact ⟨g, c, by rw [e, hm]⟩
      have hgne : g ≠ B1 := fun e => hn1 (by rw [e]; rfl)
      have hgne' : B1 ≠ g := fun e => hgne e.symm
      have hrow : Row w3 49 5 (.slice (some ⟨g, 0, none⟩) (m + 1) cap) (m + 1) (tkF (lsF M)) := by have := hR.row; unfold RowL at this; rw [hm] at this; exact this
      obtain ⟨T, eT⟩ : ∃ T, lsF M m = T := ⟨_, rfl⟩
      have hcell : w3.cell? ⟨g, m * 5, none⟩ = some (.int .u8 T.k) := by
        rw [hrow.cell (by omega), ← eT]
        unfold tkF
        rw [show m * 5 / 5 = m by omega, show m * 5 % 5 = 0 by omega]; rfl
      rw [hm, show m + 1 - 1 = m from rfl, eT] at hk
      have HA3 : Hid (Boxed w3 B0 4 (.bool false)) := ba3
      have HW3 : Hid (Boxed w3 B1 39 (.slice none 0 0)) := bw3
      have H3 : Hid (Below w.heap.size w w3) := hb3
      have HROW : Hid (Row w3 49 5 (.slice (some ⟨g, 0, none⟩) (m + 1) cap) (m + 1) (tkF (lsF M))) := hrow
      have hsz : ∀ u, (w3.setCell ⟨B1, 0, none⟩ u).heap.size = w3.heap.size := fun u => by simp [World.setCell]
      have HSZ : Hid (∀ u, (w3.setCell ⟨B1, 0, none⟩ u).heap.size = w3.heap.size) := hsz
      have HM : Hid (M.length = m + 1) := hm
      have HLD : Hid (_) := hLd
      have hmb : m ≤ 4096 := by omega
      have hcap : m + 1 ≤ cap := row_cap hrow
      have hc1 : (m : Int) ≤ (cap : Int) := by omega
      have hc2 : cap ≠ 0 := by omega
      clear hR ba3 bw3 hb3 hn1 HLM hrow hsz eT hp hm hLd hML
      have hm44 : (T.k == 0) = true := by simp [hk]
      have hLl : L.length = m := by rw [HLD.out, List.length_dropLast, HM.out]; rfl
      have HRL : Hid (RowL w3 (.slice (some ⟨g, 0, none⟩) L.length cap) L) := by
        show RowL _ _ _
        unfold RowL
        rw [hLl]
        refine (Row.pop HROW.out).congr (fun j hj => ?_)
        have hM : M = L ++ [M.getLast (fun e => by have := HM.out; rw [e] at this; simp at this)] := by rw [HLD.out]; exact (List.dropLast_concat_getLast _).symm
        unfold tkF
        rw [hM, lsF_lt (by omega)]
      have HNW : Hid (some B1 ≠ (Value.slice (some ⟨g, 0, none⟩) L.length cap).ownBlock) := fun e => hgne' (Option.some.inj e)
      have hfin : ∀ (n : Nat) (z : Int) (W : World), W = ((w3.setCell ⟨B1, 0, none⟩ (.slice (some ⟨g, 0, none⟩) (m + 1) cap)).setCell ⟨B1, 0, none⟩ (.slice (some ⟨g, 0, none⟩) m cap)).alloc (.cells #[.int .i64 z] 3) → z = (n : Int) → Mv w3 W (fun b => b = B1) ∧ Boxed W B1 39 (.slice (some ⟨g, 0, none⟩) L.length cap) ∧ Boxed W w3.heap.size 3 (.int .i64 (n : Int)) := by
        intro n z W hW hz
        have hsz : ((w3.setCell ⟨B1, 0, none⟩ (.slice (some ⟨g, 0, none⟩) (m + 1) cap)).setCell ⟨B1, 0, none⟩ (.slice (some ⟨g, 0, none⟩) m cap)).heap.size = w3.heap.size := by simp [World.setCell]
        refine ⟨?_, ?_, ?_⟩
        · rw [hW]; exact (((Mv.refl w3 (fun b => b = B1)).setCell (a := ⟨B1, 0, none⟩) (Or.inl (rfl : B1 = B1)) _).setCell (a := ⟨B1, 0, none⟩) (Or.inl (rfl : B1 = B1)) _).alloc _
        · rw [hW, hLl]; exact ((HW3.out.set _).set _).alloc _
        · have := Boxed.new ((w3.setCell ⟨B1, 0, none⟩ (.slice (some ⟨g, 0, none⟩) (m + 1) cap)).setCell ⟨B1, 0, none⟩ (.slice (some ⟨g, 0, none⟩) m cap)) 3 (.int .i64 z)
          rw [hsz] at this
          rw [hW, ← hz]; exact this
      have HF : Hid (_) := hfin
      clear hfin
      by_cases hm0 : 0 ≤ most ∧ most < (m : Int)
      · obtain ⟨hm0, hm1⟩ := hm0
        obtain ⟨q, rfl⟩ : ∃ q : Nat, most = (q : Nat) := ⟨most.toNat, by omega⟩
        have HLl : Hid (L.length = m) := hLl
        clear hLl
        go_wp2_with fail
        obtain ⟨q1, q2, q3⟩ := HF.out q _ _ rfl rfl
        have hLl := HLl.out
        exact alls_mid C HC.out s (by omega) _ L HEL.out.symm w w3 _ H3.out ht B0 B1 w3.heap.size (some ⟨g, 0, none⟩) cap q (by omega) HA3.out (by omega) q1 HRL.out HNW.out (by omega) (by omega) q2 q3 _ _ _ _ _ _ _ _ _ _ _ _ _ _ _ _ _ _ _ _ _ _ _ _ _ _ _ _ _ _ _ _ _ _ _ _ _ _ _ _ _ _ _ _ _ _
      · by_cases hm1 : 0 ≤ most
        · have hm2 : ¬ most < (m : Int) := by omega
          have HLl : Hid (L.length = m) := hLl
          clear hLl hm0
          go_wp2_with fail
          obtain ⟨q1, q2, q3⟩ := HF.out m _ _ rfl rfl
          have hLl := HLl.out
          exact alls_mid C HC.out s (by omega) _ L HEL.out.symm w w3 _ H3.out ht B0 B1 w3.heap.size (some ⟨g, 0, none⟩) cap m (by omega) HA3.out (by omega) q1 HRL.out HNW.out (by omega) (by omega) q2 q3 _ _ _ _ _ _ _ _ _ _ _ _ _ _ _ _ _ _ _ _ _ _ _ _ _ _ _ _ _ _ _ _ _ _ _ _ _ _ _ _ _ _ _ _ _ _
        · have HLl : Hid (L.length = m) := hLl
          clear hLl hm0
          go_wp2_with fail
          obtain ⟨q1, q2, q3⟩ := HF.out m _ _ rfl rfl
          have hLl := HLl.out
          exact alls_mid C HC.out s (by omega) _ L HEL.out.symm w w3 _ H3.out ht B0 B1 w3.heap.size (some ⟨g, 0, none⟩) cap m (by omega) HA3.out (by omega) q1 HRL.out HNW.out (by omega) (by omega) q2 q3 _ _ _ _ _ _ _ _ _ _ _ _ _ _ _ _ _ _ _ _ _ _ _ _ _ _ _ _ _ _ _ _ _ _ _ _ _ _ _ _ _ _ _ _ _ _
    · obtain ⟨m, hm⟩ : ∃ m, M.length = m + 1 := ⟨M.length - 1, by omega⟩
      obtain ⟨g, cap, rfl⟩ : ∃ g cap, v = .slice (some ⟨g, 0, none⟩) (m + 1) cap := by
        obtain ⟨ao, c, e, h1, _⟩ := Row.form hR.row
        obtain ⟨g, rfl⟩ := h1 hp
        exact ⟨g, c, by rw [e, hm]⟩
      have hgne : g ≠ B1 := fun e => hn1 (by rw [e]; rfl)
      have hgne' : B1 ≠ g := fun e => hgne e.symm
      have hrow : Row w3 49 5 (.slice (some ⟨g, 0, none⟩) (m + 1) cap) (m + 1) (tkF (lsF M)) := by have := hR.row; unfold RowL at this; rw [hm] at this; exact this
      obtain ⟨T, eT⟩ : ∃ T, lsF M m = T := ⟨_, rfl⟩
      have hcell : w3.cell? ⟨g, m * 5, none⟩ = some (.int .u8 T.k) := by
        rw [hrow.cell (by omega), ← eT]
        unfold tkF
        rw [show m * 5 / 5 = m by omega, show m * 5 % 5 = 0 by omega]; rfl
      rw [hm, show m + 1 - 1 = m from rfl, eT] at hk
      have HA3 : Hid (Boxed w3 B0 4 (.bool false)) := ba3
      have HW3 : Hid (Boxed w3 B1 39 (.slice none 0 0)) := bw3
      have H3 : Hid (Below w.heap.size w w3) := hb3
      have HROW : Hid (Row w3 49 5 (.slice (some ⟨g, 0, none⟩) (m + 1) cap) (m + 1) (tkF (lsF M))) := hrow
      have hsz : ∀ u, (w3.setCell ⟨B1, 0, none⟩ u).heap.size = w3.heap.size := fun u => by simp [World.setCell]
      have HSZ : Hid (∀ u, (w3.setCell ⟨B1, 0, none⟩ u).heap.size = w3.heap.size) := hsz
      have HM : Hid (M.length = m + 1) := hm
      have HLD : Hid (_) := hLd
      have hmb : m ≤ 4096 := by omega
      have hcap : m + 1 ≤ cap := row_cap hrow
      have hc1 : (m : Int) ≤ (cap : Int) := by omega
      have hc2 : cap ≠ 0 := by omega
      clear hR ba3 bw3 hb3 hn1 HLM hrow hsz eT hp hm hLd hML
      have hm44 : (T.k == 0) = false := by simp [hk]
      have hLl : L.length = m + 1 := by rw [HLD.out, HM.out]
      have HRL : Hid (RowL w3 (.slice (some ⟨g, 0, none⟩) L.length cap) L) := by
        show RowL _ _ _
        unfold RowL
        rw [hLl, HLD.out]
        exact HROW.out
      have HNW : Hid (some B1 ≠ (Value.slice (some ⟨g, 0, none⟩) L.length cap).ownBlock) := fun e => hgne' (Option.some.inj e)
      have hfin : ∀ (n : Nat) (z : Int) (W : World), W = (w3.setCell ⟨B1, 0, none⟩ (.slice (some ⟨g, 0, none⟩) (m + 1) cap)).alloc (.cells #[.int .i64 z] 3) → z = (n : Int) → Mv w3 W (fun b => b = B1) ∧ Boxed W B1 39 (.slice (some ⟨g, 0, none⟩) L.length cap) ∧ Boxed W w3.heap.size 3 (.int .i64 (n : Int)) := by
        intro n z W hW hz
        have hsz : (w3.setCell ⟨B1, 0, none⟩ (.slice (some ⟨g, 0, none⟩) (m + 1) cap)).heap.size = w3.heap.size := by simp [World.setCell]
        refine ⟨?_, ?_, ?_⟩
        · rw [hW]; exact ((Mv.refl w3 (fun b => b = B1)).setCell (a := ⟨B1, 0, none⟩) (Or.inl (rfl : B1 = B1)) _).alloc _
        · rw [hW, hLl]; exact (HW3.out.set _).alloc _
        · have := Boxed.new (w3.setCell ⟨B1, 0, none⟩ (.slice (some ⟨g, 0, none⟩) (m + 1) cap)) 3 (.int .i64 z)
          rw [hsz] at this
          rw [hW, ← hz]; exact this
      have HF : Hid (_) := hfin
      clear hfin
      by_cases hm0 : 0 ≤ most ∧ most < (m : Int) + 1
      · obtain ⟨hm0, hm1⟩ := hm0
        obtain ⟨q, rfl⟩ : ∃ q : Nat, most = (q : Nat) := ⟨most.toNat, by omega⟩
        have HLl : Hid (L.length = m + 1) := hLl
        clear hLl
        go_wp2_with fail
        obtain ⟨q1, q2, q3⟩ := HF.out q _ _ rfl rfl
        have hLl := HLl.out
        exact alls_mid C HC.out s (by omega) _ L HEL.out.symm w w3 _ H3.out ht B0 B1 w3.heap.size (some ⟨g, 0, none⟩) cap q (by omega) HA3.out (by omega) q1 HRL.out HNW.out (by omega) (by omega) q2 q3 _ _ _ _ _ _ _ _ _ _ _ _ _ _ _ _ _ _ _ _ _ _ _ _ _ _ _ _ _ _ _ _ _ _ _ _ _ _ _ _ _ _ _ _ _ _
      · by_cases hm1 : 0 ≤ most
        · have hm2 : ¬ most < (m : Int) + 1 := by omega
          have HLl : Hid (L.length = m + 1) := hLl
          clear hLl hm0
          go_wp2_with fail
          obtain ⟨q1, q2, q3⟩ := HF.out (m + 1) ((m : Int) + 1) _ rfl (by omega)
          have hLl := HLl.out
          exact alls_mid C HC.out s (by omega) _ L HEL.out.symm w w3 _ H3.out ht B0 B1 w3.heap.size (some ⟨g, 0, none⟩) cap (m + 1) (by omega) HA3.out (by omega) q1 HRL.out HNW.out (by omega) (by omega) q2 q3 _ _ _ _ _ _ _ _ _ _ _ _ _ _ _ _ _ _ _ _ _ _ _ _ _ _ _ _ _ _ _ _ _ _ _ _ _ _ _ _ _ _ _ _ _ _
        · have HLl : Hid (L.length = m + 1) := hLl
          clear hLl hm0
          go_wp2_with fail
          obtain ⟨q1, q2, q3⟩ := HF.out (m + 1) ((m : Int) + 1) _ rfl (by omega)
          have hLl := HLl.out
          exact alls_mid C HC.out s (by omega) _ L HEL.out.symm w w3 _ H3.out ht B0 B1 w3.heap.size (some ⟨g, 0, none⟩) cap (m + 1) (by omega) HA3.out (by omega) q1 HRL.out HNW.out (by omega) (by omega) q2 q3 _ _ _ _ _ _ _ _ _ _ _ _ _ _ _ _ _ _ _ _ _ _ _ _ _ _ _ _ _ _ _ _ _ _ _ _ _ _ _ _ _ _ _ _ _ _
  · have h4' : ¬ (s.size : Int) ≤ 4096 := by omega
    have hL0 : allL s = [] := by unfold allL; rw [if_pos (by omega)]
    have HEL : Hid (([] : List Tk) = allL s) := hL0.symm
    clear hL0
    have q1 : Mv w2 (w2.alloc (.cells #[.int .i64 0] 3)) (fun b => b = B1) := (Mv.refl w2 _).alloc _
    have q2 := bw2.alloc (.cells #[.int .i64 0] 3)
    have q3 : Boxed (w2.alloc (.cells #[.int .i64 0] 3)) (B1 + 1) 3 (.int .i64 ((0 : Nat) : Int)) := by have := Boxed.new w2 3 (.int .i64 0); rw [hs2] at this; exact this
    rw [← hw2] at q1 q2 q3
    have HQ1 : Hid (_) := q1
    have HQ2 : Hid (_) := q2
    have HQ3 : Hid (_) := q3
    have HA3 : Hid (Boxed w2 B0 4 (.bool false)) := ba2
    have H3 : Hid (Below w.heap.size w w2) := hb2
    have HW2 : Hid (w1.alloc (.cells #[.slice none 0 0] 39) = w2) := hw2
    clear q1 q2 q3 ba2 hb2 hw2 bw2 hs2 ba1 hb1 b1
    by_cases hm0 : 0 ≤ most
    · have hm1 : ¬ most < 0 := by omega
      go_wp2_with fail
      exact alls_mid C HC.out s (by omega) _ [] HEL.out w w2 _ H3.out ht B0 B1 (B1 + 1) Option.none 0 0 (Nat.zero_le _) HA3.out (by omega) (by rw [HW2.out] at HQ1 ⊢; exact HQ1.out) (Row.nil _ _ _ _) (by simp [Value.ownBlock]) (by omega) (by omega) HQ2.out HQ3.out _ _ _ _ _ _ _ _ _ _ _ _ _ _ _ _ _ _ _ _ _ _ _ _ _ _ _ _ _ _ _ _ _ _ _ _ _ _ _ _ _ _ _ _ _ _
    · go_wp2_with fail
      exact alls_mid C HC.out s (by omega) _ [] HEL.out w w2 _ H3.out ht B0 B1 (B1 + 1) Option.none 0 0 (Nat.zero_le _) HA3.out (by omega) (by rw [HW2.out] at HQ1 ⊢; exact HQ1.out) (Row.nil _ _ _ _) (by simp [Value.ownBlock]) (by omega) (by omega) HQ2.out HQ3.out _ _ _ _ _ _ _ _ _ _ _ _ _ _ _ _ _ _ _ _ _ _ _ _ _ _ _ _ _ _ _ _ _ _ _ _ _ _ _ _ _ _ _ _ _ _
end Go.Proofs.YtelanneckjgnbaaDoor
