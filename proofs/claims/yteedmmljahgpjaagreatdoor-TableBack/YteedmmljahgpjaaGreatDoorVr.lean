/-
  CopyTable, walked.
-/
import Derived.Test.YteedmmljahgpjaaGreatDoorN0
namespace Go.Proofs.YteedmmljahgpjaaGreatDoor
open Go.RowKit
set_option linter.unusedVariables false
set_option linter.unusedSimpArgs false
theorem owns_sl {w U : World} {e sz g cap : Nat} {vs : List (Array Value)} {n : Nat} (h : U.ownsRow w.heap.size e sz (.slice (some ⟨g, 0, none⟩) n cap) vs.length (vs.map Array.toList).flatten) (hz : ∀ x ∈ vs, x.size = sz) : SlAt U sz (some ⟨g, 0, none⟩) cap vs := by
  rcases h.2 with ⟨h1, _⟩ | ⟨g', cap', cur, h1, h2, h3, h4, h5, h6, h7⟩
  · cases h1
  · cases h1
    refine ⟨h4, by unfold maxLen at h5; omega, fun i hi => ⟨g, 0, rfl, fun j hj => ?_⟩⟩
    rw [cell_of h3, Nat.zero_add]
    have hlt : i * sz + j < vs.length * sz := by
      have : (i + 1) * sz ≤ vs.length * sz := Nat.mul_le_mul hi (Nat.le_refl _)
      rw [Nat.add_mul] at this
      omega
    rw [← flat_at vs hz i hi j hj, ← h7, List.getElem?_take, if_pos hlt, Array.getElem?_toList]
theorem owns_sl' {w U : World} {e sz c : Nat} {a : Option Addr} {vs : List (Array Value)} {n : Nat} (h : U.ownsRow w.heap.size e sz (.slice a n c) vs.length (vs.map Array.toList).flatten) (hz : ∀ x ∈ vs, x.size = sz) : SlAt U sz a c vs := by
  rcases h.2 with ⟨h1, h2⟩ | ⟨g', cap', cur, h1, h2⟩
  · cases h1
    have hv : vs = [] := List.eq_nil_of_length_eq_zero h2
    subst hv
    exact ⟨Nat.le_refl _, Nat.zero_le _, fun i hi => by simp at hi⟩
  · cases h1
    exact owns_sl h hz
theorem nv_us (l : List Int) : ∀ x ∈ l.map nvals, x.size = 1 ∧ x.all (·.oneCell') = true := fun x hx => by
  obtain ⟨n, _, rfl⟩ := List.mem_map.1 hx
  exact ⟨rfl, nvals_all n⟩
theorem in_us (l : List InM) : ∀ x ∈ l.map InM.vals, x.size = 2 ∧ x.all (·.oneCell') = true := fun x hx => by
  obtain ⟨n, _, rfl⟩ := List.mem_map.1 hx
  exact ⟨rfl, allIn n⟩
theorem row_us (l : List RowM) : ∀ x ∈ l.map RowM.vals, x.size = 11 ∧ x.all (·.oneCell') = true := fun x hx => by
  obtain ⟨n, _, rfl⟩ := List.mem_map.1 hx
  exact ⟨rfl, allRow n⟩
theorem allSt (s : StM) : (StM.vals s).all (·.oneCell') = true := by simp [StM.vals, Value.oneCell']
set_option maxRecDepth 100000 in
set_option maxHeartbeats 4000000 in
theorem copy_any (t : TbM) (w : World) (hl : TbL w t) (hs : SmT t) : Calls Tryz.prog 10 #[.agg t.vals] w fun e w' => ∃ u, e = .returned (.agg u.vals) ∧ TbL w' u ∧ SameT u t ∧ Below w.heap.size w w' := by
  obtain ⟨W2, e2⟩ : ∃ W, (w.alloc (.cells t.vals 26)).alloc (.cells tb0 26) = W := ⟨_, rfl⟩
  have E2 : Hid ((w.alloc (.cells t.vals 26)).alloc (.cells tb0 26) = W2) := e2
  obtain ⟨hn1, hn2, hb2, hs2⟩ := two_box e2
  have HB2 : Hid (Below w.heap.size w W2) := hb2
  have HN1 : Hid (W2.heap[w.heap.size]? = some (.cells t.vals 26 (0, 0))) := hn1
  have HN2 : Hid (W2.heap[w.heap.size + 1]? = some (.cells tb0 26 (0, 0))) := hn2
  clear e2
  have HL : Hid (TbL w t) := hl
  have HSM : Hid (SmT t) := hs
  have c0 : W2.cell? ⟨w.heap.size, 0, none⟩ = some (.string t.x) := cell_of hn1 0
  have c2 : W2.cell? ⟨w.heap.size, 2, none⟩ = some (.int .i64 t.sl) := cell_of hn1 2
  have HX0 : Hid (Bs w W2 [(w.heap.size + 1, 26, tb0), (w.heap.size, 26, t.vals)]) := by
    refine ⟨hb2, fun p hp => ?_, by simp⟩
    simp at hp
    rcases hp with rfl | rfl
    · exact ⟨hn2, by show w.heap.size ≤ w.heap.size + 1; omega⟩
    · exact ⟨hn1, Nat.le_refl _⟩
  have HZ : Hid ((W2.alloc (.cells tb0 26)).heap[W2.heap.size]? = some (.cells tb0 26 (0, 0))) := heap_new _ _
  have hbx : Below W2.heap.size W2 ((W2.alloc (.cells tb0 26)).setRow W2.heap.size (cxV ⟨t.x, none, 0, [], t.sl, none, 0, [], none, 0, [], none, 0, []⟩ (.slice none 0 0))) := below_row (below_new _ _) (Nat.le_refl _) _
  have HB3 : Hid (Bs w ((W2.alloc (.cells tb0 26)).setRow W2.heap.size (cxV ⟨t.x, none, 0, [], t.sl, none, 0, [], none, 0, [], none, 0, []⟩ (.slice none 0 0))) ((W2.heap.size, 26, cxV ⟨t.x, none, 0, [], t.sl, none, 0, [], none, 0, [], none, 0, []⟩ (.slice none 0 0)) :: [(w.heap.size + 1, 26, tb0), (w.heap.size, 26, t.vals)])) := HX0.out.new hbx (Nat.le_refl _) (setRow_heap _ _ _ _ _ _ HZ.out)
  have hall : (cxV ⟨t.x, none, 0, [], t.sl, none, 0, [], none, 0, [], none, 0, []⟩ (.slice none 0 0)).all (·.oneCell') = true := by simp [cxV, Value.oneCell']
  clear hn1 hn2 hb2 hs2 hl hs HX0 hbx
  go_enter Tryz.func10, Tryz.ntmps10
  go_upto_region 1 with fail
  rw [show ((w.alloc (.cells t.vals 26)).alloc (.cells #[.string ⟨#[]⟩, .slice none 0 0, .int .i64 0, .slice none 0 0, .slice none 0 0, .slice none 0 0] 26)) = (w.alloc (.cells t.vals 26)).alloc (.cells tb0 26) from rfl, E2.out]
  clear E2
  obtain ⟨R, eR⟩ : ∃ r, w.heap.size + 1 = r := ⟨_, rfl⟩
  rw [eR] at HB3 ⊢
  clear eR HN1 HN2 HB2
  go_upto_region 2 with (refine wpList_store_row rfl 26 (.tmp 3) (.tmp 13) rfl W2.heap.size (cxV ⟨t.x, none, 0, [], t.sl, none, 0, [], none, 0, [], none, 0, []⟩ (.slice none 0 0)) rfl rfl 26 tb0 HZ.out size26' rfl hall ?_)
  rw [show (W2.alloc (.cells #[.string ⟨#[]⟩, .slice none 0 0, .int .i64 0, .slice none 0 0, .slice none 0 0, .slice none 0 0] 26)) = W2.alloc (.cells tb0 26) from rfl]
  clear c0 c2 HZ hall
  generalize World.setRow _ _ _ = W3 at HB3 ⊢
  generalize W2.heap.size = X at HB3 ⊢
  -- HSM.out.R
  have x3 : W3.cell? ⟨X, 1, none⟩ = some (.slice none 0 0) := cell_of (HB3.out.K (X, 26, cxV ⟨t.x, none, 0, [], t.sl, none, 0, [], none, 0, [], none, 0, []⟩ (.slice none 0 0)) (by simp)).1 1
  have t3 : W3.cell? ⟨w.heap.size, 1, none⟩ = some (.slice t.ra t.rs.length t.rc) := cell_of (HB3.out.K (w.heap.size, 26, t.vals) (by simp)).1 1
  have HO3 : Hid (OwnK w W3 ((X, 26, cxV ⟨t.x, none, 0, [], t.sl, none, 0, [], none, 0, [], none, 0, []⟩ (.slice none 0 0)) :: (R, 26, tb0) :: [(w.heap.size, 26, t.vals)]) 2 1 (.slice none 0 0) []) := Bs.own (nb := []) HB3.out (Lst.nil _ _ _)
  have HNN3 := hid_of HB3.out.N
  have HU3 : Hid (SlAt W3 1 t.ra t.rc (t.rs.map nvals)) := (HL.out.on HB3.out.B).R
  have HLN3 : Hid (([] : List (Array Value)).length + (t.rs.map nvals).length ≤ 1000000) := by show _ ≤ _; rw [List.length_map]; have := HSM.out.R; simp only [List.length_nil]; omega
  go_upto_region 3 with (refine app_all HO3.out 22 (t.rs.map nvals) (nv_us _) t.ra t.rc HU3.out _ 8 Tryz.underlying22 inf2 rfl (by decide) HLN3.out (by decide) rfl (.tmp 15) (.tmp 17) rfl rfl (by rw [List.length_map]; rfl) ?_; intro v3 V3 hV3; obtain ⟨a3, c3, e3, _⟩ := hV3.sl; rw [List.nil_append, List.length_map] at e3; subst e3; have xb : V3.cell? ⟨X, 1, none⟩ = some (.slice none 0 0) := cell_of hV3.box 1; have fb : V3.frozen? ⟨X, 1, none⟩ = false := frozen_of hV3.box 1)
  obtain ⟨a3', c3', nb3, e3, hB3, hK3⟩ := fld (j := 1) hV3 HNN3.out
  rw [List.nil_append, List.length_map] at e3
  cases e3
  have HK3 : Hid (Keep nb3 (fun U => SlAt U 1 a3 c3 (t.rs.map nvals))) := hK3
  have HB4 : Hid (Bs w (V3.setCell ⟨X, 1, none⟩ (.slice a3 t.rs.length c3)) ((X, 26, cxV ⟨t.x, a3, c3, t.rs, t.sl, none, 0, [], none, 0, [], none, 0, []⟩ (.slice none 0 0)) :: (R, 26, tb0) :: (nb3 ++ [(w.heap.size, 26, t.vals)]))) := hB3
  clear hB3 hK3 hV3 HO3 HNN3 HU3 HLN3 x3 t3 xb fb HB3
  generalize World.setCell _ _ _ = W4 at HB4 ⊢
  -- HSM.out.C
  have x4 : W4.cell? ⟨X, 3, none⟩ = some (.slice none 0 0) := cell_of (HB4.out.K (X, 26, cxV ⟨t.x, a3, c3, t.rs, t.sl, none, 0, [], none, 0, [], none, 0, []⟩ (.slice none 0 0)) (by simp)).1 3
  have t4 : W4.cell? ⟨w.heap.size, 3, none⟩ = some (.slice t.ca t.cs.length t.cc) := cell_of (HB4.out.K (w.heap.size, 26, t.vals) (by simp)).1 3
  have HO4 : Hid (OwnK w W4 ((X, 26, cxV ⟨t.x, a3, c3, t.rs, t.sl, none, 0, [], none, 0, [], none, 0, []⟩ (.slice none 0 0)) :: (R, 26, tb0) :: (nb3 ++ [(w.heap.size, 26, t.vals)])) 2 1 (.slice none 0 0) []) := Bs.own (nb := []) HB4.out (Lst.nil _ _ _)
  have HNN4 := hid_of HB4.out.N
  have HU4 : Hid (SlAt W4 1 t.ca t.cc (t.cs.map nvals)) := (HL.out.on HB4.out.B).C
  have HLN4 : Hid (([] : List (Array Value)).length + (t.cs.map nvals).length ≤ 1000000) := by show _ ≤ _; rw [List.length_map]; have := HSM.out.C; simp only [List.length_nil]; omega
  go_upto_region 4 with (refine app_all HO4.out 22 (t.cs.map nvals) (nv_us _) t.ca t.cc HU4.out _ 8 Tryz.underlying22 inf2 rfl (by decide) HLN4.out (by decide) rfl (.tmp 21) (.tmp 23) rfl rfl (by rw [List.length_map]; rfl) ?_; intro v4 V4 hV4; obtain ⟨a4, c4, e4, _⟩ := hV4.sl; rw [List.nil_append, List.length_map] at e4; subst e4; have xb : V4.cell? ⟨X, 3, none⟩ = some (.slice none 0 0) := cell_of hV4.box 3; have fb : V4.frozen? ⟨X, 3, none⟩ = false := frozen_of hV4.box 3)
  obtain ⟨a4', c4', nb4, e4, hB4, hK4⟩ := fld (j := 3) hV4 HNN4.out
  rw [List.nil_append, List.length_map] at e4
  cases e4
  have HK4 : Hid (Keep nb4 (fun U => SlAt U 1 a4 c4 (t.cs.map nvals))) := hK4
  have HB5 : Hid (Bs w (V4.setCell ⟨X, 3, none⟩ (.slice a4 t.cs.length c4)) ((X, 26, cxV ⟨t.x, a3, c3, t.rs, t.sl, a4, c4, t.cs, none, 0, [], none, 0, []⟩ (.slice none 0 0)) :: (R, 26, tb0) :: (nb4 ++ (nb3 ++ [(w.heap.size, 26, t.vals)])))) := hB4
  clear hB4 hK4 hV4 HO4 HNN4 HU4 HLN4 x4 t4 xb fb HB4
  generalize World.setCell _ _ _ = W5 at HB5 ⊢
  -- HSM.out.D
  have x5 : W5.cell? ⟨X, 4, none⟩ = some (.slice none 0 0) := cell_of (HB5.out.K (X, 26, cxV ⟨t.x, a3, c3, t.rs, t.sl, a4, c4, t.cs, none, 0, [], none, 0, []⟩ (.slice none 0 0)) (by simp)).1 4
  have t5 : W5.cell? ⟨w.heap.size, 4, none⟩ = some (.slice t.da t.ds.length t.dc) := cell_of (HB5.out.K (w.heap.size, 26, t.vals) (by simp)).1 4
  have HO5 : Hid (OwnK w W5 ((X, 26, cxV ⟨t.x, a3, c3, t.rs, t.sl, a4, c4, t.cs, none, 0, [], none, 0, []⟩ (.slice none 0 0)) :: (R, 26, tb0) :: (nb4 ++ (nb3 ++ [(w.heap.size, 26, t.vals)]))) 61 2 (.slice none 0 0) []) := Bs.own (nb := []) HB5.out (Lst.nil _ _ _)
  have HNN5 := hid_of HB5.out.N
  have HU5 : Hid (SlAt W5 2 t.da t.dc (t.ds.map InM.vals)) := (HL.out.on HB5.out.B).D
  have HLN5 : Hid (([] : List (Array Value)).length + (t.ds.map InM.vals).length ≤ 1000000) := by show _ ≤ _; rw [List.length_map]; have := HSM.out.D; simp only [List.length_nil]; omega
  go_upto_region 5 with (refine app_all HO5.out 23 (t.ds.map InM.vals) (in_us _) t.da t.dc HU5.out _ 16 Tryz.underlying23 inf61 rfl (by decide) HLN5.out (by decide) rfl (.tmp 27) (.tmp 29) rfl rfl (by rw [List.length_map]; rfl) ?_; intro v5 V5 hV5; obtain ⟨a5, c5, e5, _⟩ := hV5.sl; rw [List.nil_append, List.length_map] at e5; subst e5; have xb : V5.cell? ⟨X, 4, none⟩ = some (.slice none 0 0) := cell_of hV5.box 4; have fb : V5.frozen? ⟨X, 4, none⟩ = false := frozen_of hV5.box 4)
  obtain ⟨a5', c5', nb5, e5, hB5, hK5⟩ := fld (j := 4) hV5 HNN5.out
  rw [List.nil_append, List.length_map] at e5
  cases e5
  have HK5 : Hid (Keep nb5 (fun U => SlAt U 2 a5 c5 (t.ds.map InM.vals))) := hK5
  have HB6 : Hid (Bs w (V5.setCell ⟨X, 4, none⟩ (.slice a5 t.ds.length c5)) ((X, 26, cxV ⟨t.x, a3, c3, t.rs, t.sl, a4, c4, t.cs, a5, c5, t.ds, none, 0, []⟩ (.slice none 0 0)) :: (R, 26, tb0) :: (nb5 ++ (nb4 ++ (nb3 ++ [(w.heap.size, 26, t.vals)]))))) := hB5
  clear hB5 hK5 hV5 HO5 HNN5 HU5 HLN5 x5 t5 xb fb HB5
  generalize World.setCell _ _ _ = W6 at HB6 ⊢
  have HCO : Hid (Co w W6 X R t ⟨t.x, a3, c3, t.rs, t.sl, a4, c4, t.cs, a5, c5, t.ds, none, 0, []⟩ (.slice none 0 0) [] (nb5 ++ (nb4 ++ (nb3 ++ [(w.heap.size, 26, t.vals)])))) := by
    refine ⟨HB6.out, Lst.nil _ _ _, fun U hU => ⟨⟨HK3.out U fun b hb => hU b (by simp [hb]), HK4.out U fun b hb => hU b (by simp [hb]), HK5.out U fun b hb => hU b (by simp [hb])⟩, fun s hs => by cases hs⟩, by simp, ⟨rfl, rfl, rfl, rfl, rfl⟩, fun k h1 _ => absurd h1 (Nat.not_lt_zero _)⟩
  clear HK3 HK4 HK5 HB6
  go_wp2_with fail
  go_loopw [4] (fun q wr => ∃ (i : Nat) (u : TbM) (vo : Value) (nbo ks : List Bx), i ≤ t.ts.length ∧ q = .int .i64 i ∧ Hid (u.ts.length = i) ∧ Hid (Co w wr X R t u vo nbo ks)) (fun q _ => t.ts.length - (intOf q).toNat)
  case atStart => exact ⟨0, ⟨t.x, a3, c3, t.rs, t.sl, a4, c4, t.cs, a5, c5, t.ds, none, 0, []⟩, _, _, _, by omega, rfl, rfl, HCO⟩
  case round =>
    clear HCO
    obtain ⟨i, u, vo, nbo, ks, hi, rfl, HUI, HC⟩ := hrel
    have c5 : wr.cell? ⟨w.heap.size, 5, none⟩ = some (.slice t.ta t.ts.length t.tc) := cell_of HC.out.box.2.2 5
    by_cases hlt : i < t.ts.length
    · have hlt' : (i : Int) < (t.ts.length : Int) := by omega
      have hmx : (i : Int) + 1 ≤ 9223372036854775807 := by have := HSM.out.T; omega
      obtain ⟨b1, o1, ea, r1⟩ := els_at StM.sz HL.out.T i hlt
      have HGX : Hid (StL w t.ts[i]) := HL.out.Ti _ (List.getElem_mem hlt)
      have HGS : Hid (StSm t.ts[i] 131072) := HSM.out.S _ (List.getElem_mem hlt)
      obtain ⟨x, ex⟩ : ∃ x, t.ts[i] = x := ⟨_, rfl⟩
      have HEX : Hid (t.ts[i] = x) := ex
      rw [ex] at r1 HGX HGS
      clear ex
      rw [ea] at c5
      have HEA : Hid (t.ta = some ⟨b1, o1, none⟩) := ea
      clear ea
      have HX0 : Hid (w.cell? ⟨b1, o1 + i, none⟩ = some (.slice x.a x.gs.length x.c)) := by have := r1 0 _ rfl; rw [Nat.mul_one, Nat.add_zero] at this; exact this
      clear r1
      have HCI : Hid (Ci w wr X R t u x vo (.slice none 0 0) [] nbo [] ks) := HC.out.start x
      have HEE := hid_of HC.out.E
      have HSS := hid_of HC.out.S
      go_wp2_with fail
      clear c5
      go_loopw [5, 6] (fun v q wv => ∃ (j : Nat) (vi : Value) (gm : List GdM) (nbi ks : List Bx), j ≤ x.gs.length ∧ v = vi ∧ q = .int .i64 j ∧ Hid (gm.length = j) ∧ Hid (Ci w wv X R t u x vo vi gm nbo nbi ks)) (fun _ q _ => x.gs.length - (intOf q).toNat)
      case atStart => exact ⟨0, _, [], _, _, by omega, rfl, rfl, rfl, HCI⟩
      case round =>
        clear HC HCI
        obtain ⟨j, vi, gm, nbi, ks1, hj, hv, rfl, HGM, HCI⟩ := hrel
        have hv' := hv.symm
        clear hv
        subst hv'
        have c5 : wr.cell? ⟨w.heap.size, 5, none⟩ = some (.slice (some ⟨b1, o1, none⟩) t.ts.length t.tc) := by rw [← HEA.out]; exact cell_of HCI.out.box.2.2 5
        have x0 : wr.cell? ⟨b1, o1 + i, none⟩ = some (.slice x.a x.gs.length x.c) := cell_on HX0.out HCI.out.B.B
        by_cases hjl : j < x.gs.length
        · have hjl' : (j : Int) < (x.gs.length : Int) := by omega
          have hmy : (j : Int) + 1 ≤ 9223372036854775807 := by have := HGS.out.1; omega
          obtain ⟨b3, o3, ea, r3⟩ := els_at GdM.sz HGX.out.1 j hjl
          have HGG : Hid (GdL w x.gs[j]) := HGX.out.2 _ (List.getElem_mem hjl)
          have HGL : Hid (x.gs[j].rs.length ≤ 131072) := HGS.out.2 _ (List.getElem_mem hjl)
          have HSG : Hid (∀ (a : Option Addr) (c : Nat), SameG { x.gs[j] with a := a, c := c } x.gs[j]) := fun a c => ⟨rfl, rfl, rfl, rfl, rfl⟩
          have HSJ : Hid (∀ g0 : GdM, SameG g0 x.gs[j] → ∀ (h : j < x.gs.length), SameG g0 x.gs[j]) := fun g0 h _ => h
          obtain ⟨g, eg⟩ : ∃ g, x.gs[j] = g := ⟨_, rfl⟩
          have HEG : Hid (x.gs[j] = g) := eg
          rw [eg] at r3 HGG HGL HSG
          clear eg HSJ
          rw [ea] at x0
          clear ea
          have HRG : Hid (wr.rangeAt b3 (o3 + j * 5) g.vals.toList) := rng_on r3 HCI.out.B.B
          have HZ : Hid ((wr.alloc (.cells #[.int .i64 0, .int .i64 0, .int .u16 0, .int .u16 0, .slice none 0 0] 68)).heap[wr.heap.size]? = some (.cells #[.int .i64 0, .int .i64 0, .int .u16 0, .int .u16 0, .slice none 0 0] 68 (0, 0))) := heap_new _ _
          have HBX : Hid (Bs w ((wr.alloc (.cells #[.int .i64 0, .int .i64 0, .int .u16 0, .int .u16 0, .slice none 0 0] 68)).setRow wr.heap.size g.vals) ((wr.heap.size, 68, g.vals) :: (nbi ++ (nbo ++ ((X, 26, cxV u vo) :: (R, 26, tb0) :: ks1))))) := HCI.out.B.new (below_row (below_new _ _) (Nat.le_refl _) _) (Nat.le_refl _) (setRow_heap _ _ _ _ _ _ HZ.out)
          clear r3
          go_upto_region 13 with (first | (refine wpList_load_mid rfl 68 (.tmp 55) rfl b3 (o3 + j * 5) rfl g.vals.toList _ HRG.out Tryz.underlying68 rfl (by show _ = some 5; exact size68') ?_; rw [Array.toArray_toList]) | (refine wpList_store_row rfl 68 (.tmp 7) (.tmp 56) rfl wr.heap.size g.vals rfl rfl 68 #[.int .i64 0, .int .i64 0, .int .u16 0, .int .u16 0, .slice none 0 0] HZ.out size68' rfl (allGd g) ?_))
          clear c5 x0 HZ HRG
          generalize World.setRow _ _ _ = V at HBX ⊢
          generalize wr.heap.size = G at HBX ⊢
          have g4 : V.cell? ⟨G, 4, none⟩ = some (.slice g.a g.rs.length g.c) := cell_of (HBX.out.K (G, 68, g.vals) (by simp)).1 4
          have HO : Hid (OwnK w V ((G, 68, g.vals) :: (nbi ++ (nbo ++ ((X, 26, cxV u vo) :: (R, 26, tb0) :: ks1)))) 85 11 (.slice none 0 0) []) := Bs.own (nb := []) HBX.out (Lst.nil _ _ _)
          have HNN := hid_of HBX.out.N
          have HU : Hid (SlAt V 11 g.a g.c (g.rs.map RowM.vals)) := (HGG.out.on HBX.out.B).2.2.2.1
          have HLN : Hid (([] : List (Array Value)).length + (g.rs.map RowM.vals).length ≤ 1000000) := by show _ ≤ _; rw [List.length_map]; have := HGL.out; simp only [List.length_nil]; omega
          go_upto_region 15 with (refine app_all HO.out 66 (g.rs.map RowM.vals) (row_us _) g.a g.c HU.out _ 80 Tryz.underlying66 inf85 rfl (by decide) HLN.out (by decide) rfl (.tmp 57) (.tmp 59) rfl rfl (by rw [List.length_map]; rfl) ?_; intro v8 V8 hV8; obtain ⟨a8, c8, e8, _⟩ := hV8.sl; rw [List.nil_append, List.length_map] at e8; subst e8; have xb : V8.cell? ⟨G, 4, none⟩ = some (.slice g.a g.rs.length g.c) := cell_of hV8.box 4; have fb : V8.frozen? ⟨G, 4, none⟩ = false := frozen_of hV8.box 4)
          rw [List.nil_append] at hV8
          obtain ⟨a8', c8', ks2, e8, hG8, hC8, hK8⟩ := Ci.rows HCI.out.L HCI.out.Li HCI.out.K HCI.out.T HCI.out.G ⟨HGG.out.1, HGG.out.2.1, HGG.out.2.2.1, HGG.out.2.2.2.2⟩ hV8 HNN.out
          cases e8
          have HG8 := hid_of hG8
          have HC8 := hid_of hC8
          have HK8 := hid_of hK8
          have HS8 := hid_of (HSG.out a8 c8)
          clear hG8 hC8 hK8 hV8 HO HNN HU HLN g4 xb fb HBX HCI HSG
          generalize World.setCell _ _ _ = V9 at HG8 HC8 ⊢
          obtain ⟨g', eg'⟩ : ∃ g', ({ g with a := a8, c := c8 } : GdM) = g' := ⟨_, rfl⟩
          rw [eg'] at HG8 HK8 HS8
          clear eg'
          have HO2 : Hid (OwnK w V9 (nbo ++ ((X, 26, cxV u vo) :: (R, 26, tb0) :: ks2)) 68 5 vi (gm.map GdM.vals)) := HC8.out.B.own HC8.out.Li
          have HL2 : Hid ((gm.map GdM.vals).length ≤ 1000000) := by show _ ≤ _; rw [List.length_map, HGM.out]; have := HGS.out.1; omega
          go_wp2_with (first | (refine wpList_load_row rfl 68 (.tmp 7) rfl G rfl 68 g'.vals (0, 0) _ HG8.out Tryz.underlying68 rfl size68' ?_) | (refine wpList_slice1 rfl 69 68 (.tmp 63) rfl g'.vals rfl 5 _ Tryz.underlying69 48 inf68 rfl rfl (by decide) (by decide) ?_) | (refine app_one HO2.out 69 g'.vals rfl (allGd g') _ 48 Tryz.underlying69 inf68 rfl (by decide) HL2.out (by decide) rfl (.tmp 62) (.tmp 64) rfl rfl rfl ?_; intro gg cap w8 HO8))
          have hSx : SameG g' x.gs[j] := by rw [HEG.out]; exact HS8.out
          obtain ⟨nbi', hCm⟩ := HC8.out.more HK8.out HGM.out hjl hSx HO8
          rw [List.length_map] at hCm
          refine ⟨⟨j + 1, _, gm ++ [g'], nbi', ks2, hjl, rfl, rfl, by show _ = _; rw [List.length_append, HGM.out]; rfl, hCm⟩, by simp only [intOf]; omega⟩
        · obtain rfl : j = x.gs.length := by omega
          have hnot : ¬ (x.gs.length : Int) < (x.gs.length : Int) := by omega
          obtain ⟨a9, c9, ev, hKi⟩ : ∃ a c, vi = .slice a gm.length c ∧ Keep nbi (fun U => SlAt U 5 a c (gm.map GdM.vals)) := by
            have h1 := HCI.out.B.own HCI.out.Li
            have hN := HCI.out.B.N
            rw [List.map_append, List.nodup_append] at hN
            rcases (HCI.out.Li.2.1 wr (fun b hb => (HCI.out.B.K b (List.mem_append_left _ hb)).1)).2 with ⟨h2, h3⟩ | ⟨g, cap, cur, h2, h3⟩
            · obtain ⟨a, c, e1, _⟩ := h1.sl
              rw [List.length_map] at e1
              refine ⟨a, c, e1, fun U hU => ?_⟩
              have h4 := HCI.out.Li.2.1 U hU
              have hO : OwnK w U [] 68 5 vi (gm.map GdM.vals) → True := fun _ => trivial
              rw [List.length_map] at h3
              have hgn : gm = [] := List.eq_nil_of_length_eq_zero h3
              subst hgn
              rw [h2] at e1
              cases e1
              exact ⟨Nat.le_refl _, Nat.zero_le _, fun i hi => by simp at hi⟩
            · rw [List.length_map] at h2
              refine ⟨some ⟨g, 0, none⟩, cap, h2, fun U hU => ?_⟩
              have h4 := HCI.out.Li.2.1 U hU
              exact owns_sl (by rw [h2] at h4; exact h4) HCI.out.Li.1
          have HKI := hid_of hKi
          have x5 : wr.cell? ⟨X, 5, none⟩ = some vo := cell_of HCI.out.box.1 5
          have HBP : Hid (Bs w wr (nbo ++ ((X, 26, cxV u vo) :: (nbi ++ ((R, 26, tb0) :: ks1))))) := HCI.out.B.perm (by
            refine (List.perm_append_comm_assoc nbi nbo _).trans (List.Perm.append_left _ ?_)
            exact List.perm_middle)
          have HO3 : Hid (OwnK w wr ((X, 26, cxV u vo) :: (nbi ++ ((R, 26, tb0) :: ks1))) 69 1 vo (u.ts.map StM.vals)) := HBP.out.own HCI.out.L
          have HL3 : Hid ((u.ts.map StM.vals).length ≤ 1000000) := by show _ ≤ _; rw [List.length_map, HUI.out]; have := HSM.out.T; omega
          have HEV := hid_of ev
          clear hKi ev HBP
          go_wp2_with (first | (refine wpList_slice1v rfl 24 69 (.tmp 68) rfl (StM.vals ⟨a9, c9, gm⟩) vi rfl (by rw [HEV.out]; rfl) 1 _ Tryz.underlying24 24 inf69 rfl rfl (by decide) (by decide) ?_) | (refine app_one HO3.out 24 (StM.vals ⟨a9, c9, gm⟩) rfl (allSt _) _ 24 Tryz.underlying24 inf69 rfl (by decide) HL3.out (by decide) rfl (.tmp 67) (.tmp 69) rfl rfl rfl ?_; intro gg cap w8 HO8; have xb : w8.cell? ⟨X, 5, none⟩ = some vo := cell_of HO8.box 5; have fb : w8.frozen? ⟨X, 5, none⟩ = false := frozen_of HO8.box 5))
          obtain ⟨nbo', hCo⟩ := HCI.out.state HEE.out HSS.out HUI.out hlt HEX.out HGM.out HEV.out HKI.out HO8
          rw [List.length_map] at hCo
          exact ⟨⟨i + 1, _, _, nbo', _, hlt, rfl, (by show (u.ts ++ [_]).length = _; rw [List.length_append, HUI.out]; rfl), hCo⟩, by simp only [intOf]; omega⟩
    · obtain rfl : i = t.ts.length := by omega
      have hnot : ¬ (t.ts.length : Int) < (t.ts.length : Int) := by omega
      obtain ⟨h1, h2, h3, h4, h5⟩ := HC.out.E
      obtain ⟨ao, co, ev, hsl⟩ := (HC.out.B.own HC.out.L).sl
      rw [List.length_map] at ev
      subst ev
      have HXX : Hid (wr.heap[X]? = some (.cells (TbM.vals { u with ta := ao, tc := co }) 26 (0, 0))) := HC.out.box.1
      have HRR : Hid (wr.heap[R]? = some (.cells tb0 26 (0, 0))) := HC.out.box.2.1
      have HNS : Hid ((wr.setRow R (TbM.vals { u with ta := ao, tc := co })).heap[R]? = some (.cells (TbM.vals { u with ta := ao, tc := co }) 26 (0, 0))) := setRow_heap _ _ _ _ _ _ HRR.out
      have HBN : Hid (Below w.heap.size w (wr.setRow R (TbM.vals { u with ta := ao, tc := co }))) := below_row HC.out.B.B (HC.out.B.K (R, 26, tb0) (by simp)).2 _
      have HTT : Hid (TbL (wr.setRow R (TbM.vals { u with ta := ao, tc := co })) { u with ta := ao, tc := co }) := by
        have hN := HC.out.B.N
        have hP := (HC.out.B.perm (bs' := ((R, 26, tb0) : Bx) :: (nbo ++ ((X, 26, cxV u (.slice ao u.ts.length co)) :: ks))) (by
          refine List.Perm.trans ?_ List.perm_middle
          exact List.Perm.append_left _ (List.Perm.swap _ _ _))).N
        rw [List.map_cons, List.nodup_cons] at hP
        have hk : ∀ b ∈ ks, (wr.setRow R (TbM.vals { u with ta := ao, tc := co })).heap[b.1]? = some (.cells b.2.2 b.2.1 (0, 0)) := fun b hb => by
          rw [setRow_other _ _ _ _ (fun e => hP.1 (List.mem_map.2 ⟨b, by simp [hb], e⟩))]
          exact (HC.out.B.K b (by simp [hb])).1
        have hk2 : ∀ b ∈ nbo, (wr.setRow R (TbM.vals { u with ta := ao, tc := co })).heap[b.1]? = some (.cells b.2.2 b.2.1 (0, 0)) := fun b hb => by
          rw [setRow_other _ _ _ _ (fun e => hP.1 (List.mem_map.2 ⟨b, by simp [hb], e⟩))]
          exact (HC.out.B.K b (by simp [hb])).1
        obtain ⟨⟨f1, f2, f3⟩, f4⟩ := HC.out.K _ hk
        have f5 := owns_sl' (HC.out.L.2.1 _ hk2) HC.out.L.1
        exact ⟨f1, by show ∀ n ∈ u.rs, _; rw [h3]; exact HL.out.Ri, by show I64 u.sl; rw [h2]; exact HL.out.S, f2, by show ∀ n ∈ u.cs, _; rw [h4]; exact HL.out.Ci, f3, by show ∀ n ∈ u.ds, _; rw [h5]; exact HL.out.Di, f5, f4, by show SzX u.x; rw [h1]; exact HL.out.X⟩
      have HSA : Hid (SameT { u with ta := ao, tc := co } t) := ⟨h1, h2, h3, h4, h5, HUI.out, fun k h6 h7 _ => HC.out.S k h6 h7⟩
      clear h1 h2 h3 h4 h5 hsl HC
      go_wp2_with (first | (refine wpList_load_row rfl 26 (.tmp 3) rfl X rfl 26 (TbM.vals { u with ta := ao, tc := co }) (0, 0) _ HXX.out Tryz.underlying26 rfl size26' ?_) | (refine wpList_store_row rfl 26 (.tmp 2) (.tmp 72) rfl R (TbM.vals { u with ta := ao, tc := co }) rfl rfl 26 tb0 HRR.out size26' rfl (allTb _) ?_))
      exact bodyPost_ret (results_cell_row rfl _ _ R 26 (TbM.vals { u with ta := ao, tc := co }) (0, 0) _ rfl HNS.out Tryz.underlying26 rfl size26') rfl ⟨_, rfl, HTT.out, HSA.out, HBN.out⟩
end Go.Proofs.YteedmmljahgpjaaGreatDoor
