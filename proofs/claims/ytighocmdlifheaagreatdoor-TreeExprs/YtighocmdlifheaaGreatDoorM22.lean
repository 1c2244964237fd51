import Derived.Test.YtighocmdlifheaaGreatDoorM15
import Derived.Test.YtighocmdlifheaaGreatDoorM20
import Derived.Test.YtighocmdlifheaaGreatDoorM21
import Derived.Test.YtighocmdlifheaaGreatDoorM17
import Derived.Test.YtighocmdlifheaaGreatDoorM2
import Derived.Deep.MidRow
import Derived.WalkKit
import Derived.Below
import Derived.Test.YtighocmdlifheaaGreatDoorM1
/-
  The walk of TreeExprs.
-/
namespace Go.Proofs.YtighocmdlifheaaGreatDoor
open Go.RowKit Go.Shelf
set_option linter.unusedVariables false
set_option linter.unusedSimpArgs false
/-- Two expressions, and both as they were lent. -/
structure Sx (w W : World) (m k m' k' : Nd) (B0 B1 Bx By lo lo2 : Nat) : Prop where
  B : Below w.heap.size w W
  n : NdH W B0 m
  o : NdH W B1 k
  x : NdH W Bx m'
  y : NdH W By k'
  lx : Lnt W lo m'
  ly : Lnt W lo2 k'
  bx : LB W m'
theorem Sx.on {w W W' : World} {m k m' k' : Nd} {B0 B1 Bx By lo lo2 : Nat} (h : Sx w W m k m' k' B0 B1 Bx By lo lo2) (b : Below W.heap.size W W') : Sx w W' m k m' k' B0 B1 Bx By lo lo2 :=
  ⟨below2 h.B b, h.n.on b, h.o.on b, h.x.on b, h.y.on b, h.lx.on b, h.ly.on b, h.bx.on h.lx b⟩
theorem Sx.hid {w W : World} {m k m' k' : Nd} {B0 B1 Bx By lo lo2 : Nat} (h : Sx w W m k m' k' B0 B1 Bx By lo lo2) : Hid (Sx w W m k m' k' B0 B1 Bx By lo lo2) := h
structure Sb (W : World) (b : Nd) (Bb : Nat) : Prop where
  n : NdH W Bb b
  l : Lies W b
  o : OwnT W b
theorem Sb.on {W W' : World} {b : Nd} {Bb : Nat} (h : Sb W b Bb) (k : Below W.heap.size W W') : Sb W' b Bb := ⟨h.n.on k, h.l.on k, h.o.on k⟩
theorem Sb.hid {W : World} {b : Nd} {Bb : Nat} (h : Sb W b Bb) : Hid (Sb W b Bb) := h
theorem tr_cE {m k : Nd} (t : treeOf m = treeOf k) : cE m = cE k := by unfold cE; rw [tr_form m k t, tr_dep m k t]
theorem LEnone (w : World) (A : Nat → Prop) : LE 55 53 8 oqN A w (.slice none 0 0) 0 :=
  ⟨fun _ => .slice none 0 0, fun _ => 0, fun _ _ => .int .i64 0, ⟨fun j hj => absurd hj (Nat.not_lt_zero _), Row.nil _ _ _ _, fun j j' hj => absurd hj (Nat.not_lt_zero _)⟩, fun j hj => absurd hj (Nat.not_lt_zero _), fun b hb => by obtain ⟨j, hj, _⟩ := hb; exact absurd hj (Nat.not_lt_zero _)⟩
set_option maxRecDepth 1000000 in
set_option maxHeartbeats 16000000 in
theorem exprs_any (m k : Nd) (w : World) (hm : Lies w m) (hk : Lies w k) (ht : Tab w) (cA : ∀ v, Below w.heap.size w v → Calls Tryz.prog 5 #[] v fun e w' => e = .returned (.bool true) ∧ Below v.heap.size v w') :
    Calls Tryz.prog 4 #[.agg m.vals, .agg k.vals] w fun e w' => e = .returned (.bool true) ∧ Below w.heap.size w w' := by
  have HM := hm.hid
  have HK := hk.hid
  have HTb : Hid (Tab w) := ht
  clear hm hk ht
  obtain ⟨V, hV⟩ : ∃ V, (w.alloc (.cells m.vals 55)).alloc (.cells k.vals 55) = V := ⟨_, rfl⟩
  have hbV : Below w.heap.size w V := by rw [← hV]; exact below_two _ _ _
  have hN : NdH V w.heap.size m := by rw [← hV]; exact heap_old (heap_new _ _) (by rw [size_alloc]; omega)
  have hO : NdH V (w.heap.size + 1) k := by rw [← hV, ← size_alloc w (.cells m.vals 55)]; exact heap_new _ _
  have HVS : Hid (V.heap.size = w.heap.size + 2) := by show _ = _; rw [← hV, size_alloc, size_alloc]
  have cA1 := cA V hbV
  obtain ⟨B0, hB0⟩ : ∃ x, w.heap.size = x := ⟨_, rfl⟩
  obtain ⟨B1, hB1⟩ : ∃ x, w.heap.size + 1 = x := ⟨_, rfl⟩
  have HBB : Hid (w.heap.size = B0 ∧ w.heap.size + 1 = B1) := ⟨hB0, hB1⟩
  rw [hB0] at hN
  rw [hB1] at hO
  have HN := hN.hid
  have HO := hO.hid
  have HBV : Hid (Below w.heap.size w V) := hbV
  have HB1e : Hid (B0 + 1 = B1) := by show _ = _; rw [← hB0]; exact hB1
  clear hN hO hbV cA hB0 hB1
  unfold Nd.vals hdA at hV ⊢
  have HV : Hid ((w.alloc (.cells #[.int .u8 m.h.k, .int .u8 m.h.o, .int .u8 m.h.t, .int .i64 m.h.n, .int .u8 m.h.f, .string m.h.x, .slice m.a m.ks.length m.c, .int .i64 m.h.p] 55)).alloc (.cells #[.int .u8 k.h.k, .int .u8 k.h.o, .int .u8 k.h.t, .int .i64 k.h.n, .int .u8 k.h.f, .string k.h.x, .slice k.a k.ks.length k.c, .int .i64 k.h.p] 55) = V) := hV
  clear hV
  go_enter Tryz.func4, Tryz.ntmps4
  go_upto_region 1 with fail
  rw [HV.out, HBB.out.1, HB1e.out]
  clear HB1e
  go_wp2_with fail
  refine cA1.mono ?_
  rintro _ w1 ⟨rfl, b1⟩
  have HB1 : Hid (Below w.heap.size w w1) := below2 HBV.out b1
  have HN1 : Hid (NdH w1 B0 m) := HN.out.on b1
  have HO1 : Hid (NdH w1 B1 k) := HO.out.on b1
  have HS1 : Hid (w.heap.size + 2 ≤ w1.heap.size) := by have h1 := b1.size; have h2 := HVS.out; show _ ≤ _; omega
  clear b1 cA1 HN HO HBV HV HVS
  have cF := far_any m w1 (HM.out.on HB1.out)
  unfold Nd.vals hdA at cF
  obtain ⟨y0, y1, y2, y3, y4, y5, y6, y7⟩ := HN1.out.eight
  go_wp2_with fail
  refine cF.mono ?_
  rintro _ w2 ⟨⟨fb, rfl, hfb⟩, b2⟩
  have HB2 : Hid (Below w.heap.size w w2) := below2 HB1.out b2
  have HN2 : Hid (NdH w2 B0 m) := HN1.out.on b2
  have HO2 : Hid (NdH w2 B1 k) := HO1.out.on b2
  have HS2 : Hid (w.heap.size + 2 ≤ w2.heap.size) := Nat.le_trans HS1.out b2.size
  have HFB : Hid (fb = false → wt m ≤ 1048576) := hfb
  clear b2 cF HN1 HO1 HB1 HS1 hfb y0 y1 y2 y3 y4 y5 y6 y7
  have cF := far_any k w2 (HK.out.on HB2.out)
  unfold Nd.vals hdA at cF
  obtain ⟨y0, y1, y2, y3, y4, y5, y6, y7⟩ := HO2.out.eight
  go_wp2_with fail
  refine cF.mono ?_
  rintro _ w3 ⟨⟨gb, rfl, hgb⟩, b3⟩
  have HB3 : Hid (Below w.heap.size w w3) := below2 HB2.out b3
  have HN3 : Hid (NdH w3 B0 m) := HN2.out.on b3
  have HO3 : Hid (NdH w3 B1 k) := HO2.out.on b3
  have HS3 : Hid (w.heap.size + 2 ≤ w3.heap.size) := Nat.le_trans HS2.out b3.size
  have HGB : Hid (gb = false → wt k ≤ 1048576) := hgb
  clear b3 cF HN2 HO2 HB2 HS2 hgb y0 y1 y2 y3 y4 y5 y6 y7
  cases fb
  · cases gb
    · have HSZ : Hid (size m ≤ 1048576) := Nat.le_trans (size_wt m) (HFB.out rfl)
      have HSK : Hid (size k ≤ 1048576) := Nat.le_trans (size_wt k) (HGB.out rfl)
      clear HFB HGB
      have cL := lendS_any m w3 (HM.out.on HB3.out) (by have := HSZ.out; omega)
      unfold Nd.vals hdA at cL
      obtain ⟨y0, y1, y2, y3, y4, y5, y6, y7⟩ := HN3.out.eight
      go_wp2_with fail
      refine cL.mono ?_
      rintro _ w4 ⟨m', rfl, hln, hsp, hlb, htr, b4⟩
      unfold Nd.vals hdA
      have HLN4 : Hid (Lnt (w4.alloc (.cells #[.int .u8 m'.h.k, .int .u8 m'.h.o, .int .u8 m'.h.t, .int .i64 m'.h.n, .int .u8 m'.h.f, .string m'.h.x, .slice m'.a m'.ks.length m'.c, .int .i64 m'.h.p] 55)) w3.heap.size m') := hln.on (below_new _ _)
      have HLB4 : Hid (LB (w4.alloc (.cells #[.int .u8 m'.h.k, .int .u8 m'.h.o, .int .u8 m'.h.t, .int .i64 m'.h.n, .int .u8 m'.h.f, .string m'.h.x, .slice m'.a m'.ks.length m'.c, .int .i64 m'.h.p] 55)) m') := hlb.on hln (below_new _ _)
      have HSP : Hid (Sp m' (fun b => w3.heap.size ≤ b ∧ b < w4.heap.size)) := hsp
      have HTR : Hid (treeOf m' = treeOf m) := htr
      have HB4 : Hid (Below w.heap.size w (w4.alloc (.cells #[.int .u8 m'.h.k, .int .u8 m'.h.o, .int .u8 m'.h.t, .int .i64 m'.h.n, .int .u8 m'.h.f, .string m'.h.x, .slice m'.a m'.ks.length m'.c, .int .i64 m'.h.p] 55))) := below2 (below2 HB3.out b4) (below_new _ _)
      have HN4 : Hid (NdH (w4.alloc (.cells #[.int .u8 m'.h.k, .int .u8 m'.h.o, .int .u8 m'.h.t, .int .i64 m'.h.n, .int .u8 m'.h.f, .string m'.h.x, .slice m'.a m'.ks.length m'.c, .int .i64 m'.h.p] 55)) B0 m) := (HN3.out.on b4).on (below_new _ _)
      have HO4 : Hid (NdH (w4.alloc (.cells #[.int .u8 m'.h.k, .int .u8 m'.h.o, .int .u8 m'.h.t, .int .i64 m'.h.n, .int .u8 m'.h.f, .string m'.h.x, .slice m'.a m'.ks.length m'.c, .int .i64 m'.h.p] 55)) B1 k) := (HO3.out.on b4).on (below_new _ _)
      have HX4 : Hid (NdH (w4.alloc (.cells #[.int .u8 m'.h.k, .int .u8 m'.h.o, .int .u8 m'.h.t, .int .i64 m'.h.n, .int .u8 m'.h.f, .string m'.h.x, .slice m'.a m'.ks.length m'.c, .int .i64 m'.h.p] 55)) w4.heap.size m') := heap_new _ _
      have HZ4 : Hid (w3.heap.size ≤ w4.heap.size ∧ (w4.alloc (.cells #[.int .u8 m'.h.k, .int .u8 m'.h.o, .int .u8 m'.h.t, .int .i64 m'.h.n, .int .u8 m'.h.f, .string m'.h.x, .slice m'.a m'.ks.length m'.c, .int .i64 m'.h.p] 55)).heap.size = w4.heap.size + 1) := ⟨b4.size, size_alloc _ _⟩
      clear hln hlb hsp htr b4 cL HN3 HO3 HB3 y0 y1 y2 y3 y4 y5 y6 y7
      go_upto_region 7 with fail
      generalize w4.alloc _ = W4 at HLN4 HLB4 HB4 HN4 HO4 HX4 HZ4 ⊢
      obtain ⟨lo, elo⟩ : ∃ lo, w3.heap.size = lo := ⟨_, rfl⟩
      obtain ⟨Bx, eBx⟩ : ∃ Bx, w4.heap.size = Bx := ⟨_, rfl⟩
      rw [elo] at HLN4 HSP HZ4 HS3
      rw [eBx] at HSP HX4 HZ4 ⊢
      clear elo eBx
      have cL := lendS_any k W4 (HK.out.on HB4.out) (by have := HSK.out; omega)
      unfold Nd.vals hdA at cL
      obtain ⟨y0, y1, y2, y3, y4, y5, y6, y7⟩ := HO4.out.eight
      go_wp2_with fail
      refine cL.mono ?_
      rintro _ w5 ⟨k', rfl, hln, hsp, hlb, htr, b5⟩
      unfold Nd.vals hdA
      have HS5 : Hid (Sx w (w5.alloc (.cells #[.int .u8 k'.h.k, .int .u8 k'.h.o, .int .u8 k'.h.t, .int .i64 k'.h.n, .int .u8 k'.h.f, .string k'.h.x, .slice k'.a k'.ks.length k'.c, .int .i64 k'.h.p] 55)) m k m' k' B0 B1 Bx w5.heap.size lo W4.heap.size) := ⟨below2 (below2 HB4.out b5) (below_new _ _), (HN4.out.on b5).on (below_new _ _), (HO4.out.on b5).on (below_new _ _), (HX4.out.on b5).on (below_new _ _), heap_new _ _, (HLN4.out.on b5).on (below_new _ _), hln.on (below_new _ _), (HLB4.out.on HLN4.out b5).on (HLN4.out.on b5) (below_new _ _)⟩
      have HTK : Hid (treeOf k' = treeOf k) := htr
      have HZ5 : Hid (Bx < (w5.alloc (.cells #[.int .u8 k'.h.k, .int .u8 k'.h.o, .int .u8 k'.h.t, .int .i64 k'.h.n, .int .u8 k'.h.f, .string k'.h.x, .slice k'.a k'.ks.length k'.c, .int .i64 k'.h.p] 55)).heap.size) := by have h1 := b5.size; have h2 := HZ4.out.2; show _ < _; rw [size_alloc]; omega
      clear hln hlb hsp htr b5 cL HN4 HO4 HB4 HX4 HLN4 HLB4 y0 y1 y2 y3 y4 y5 y6 y7
      go_upto_region 8 with fail
      generalize w5.alloc _ = v0 at HS5 HZ5 ⊢
      generalize w5.heap.size = By at HS5 ⊢
      generalize W4.heap.size = lo2 at HS5 HZ4
      obtain ⟨E, eE⟩ : ∃ E, cE m = E := ⟨_, rfl⟩
      obtain ⟨Lv, eL⟩ : ∃ L, (if formB m = true then lvl m.h else 0) = L := ⟨_, rfl⟩
      obtain ⟨D, eD⟩ : ∃ D, (if formB m = true then (dep m : Int) else 0) = D := ⟨_, rfl⟩
      obtain ⟨Z, eZ⟩ : ∃ Z : Int, (size m : Int) = Z := ⟨_, rfl⟩
      obtain ⟨S, eS⟩ : ∃ S, sameB m k = S := ⟨_, rfl⟩
      have HE : Hid (cE m = E ∧ (if formB m = true then lvl m.h else 0) = Lv ∧ (if formB m = true then (dep m : Int) else 0) = D ∧ (size m : Int) = Z ∧ sameB m k = S) := ⟨eE, eL, eD, eZ, eS⟩
      have HSX : Hid (size m' ≤ 1048576) := by have h1 := tr_size m' m HTR.out; have h2 := HSZ.out; show _ ≤ _; omega
      have HEX : Hid (cE m' = E ∧ (if formB m' = true then lvl m'.h else 0) = Lv ∧ (if formB m' = true then (dep m' : Int) else 0) = D ∧ (size m' : Int) = Z ∧ sameB m' k' = S) := ⟨by rw [tr_cE HTR.out]; exact eE, by rw [tr_form m' m HTR.out, tr_h HTR.out]; exact eL, by rw [tr_form m' m HTR.out, tr_dep m' m HTR.out]; exact eD, by rw [tr_size m' m HTR.out]; exact eZ, by rw [tr_same m' k' m k HTR.out HTK.out]; exact eS⟩
      clear eE eL eD eZ eS
      have cN := checkExpr_any m' v0 HS5.out.lx.lies (by have := HSX.out; omega) (HTb.out.on HS5.out.B)
      rw [HEX.out.1] at cN
      simp only [Nd.vals, hdA] at cN
      obtain ⟨y0, y1, y2, y3, y4, y5, y6, y7⟩ := HS5.out.x.eight
      go_wp2_with fail
      refine cN.mono ?_
      rintro _ v1 ⟨rfl, bb⟩
      have HQ0 := (HS5.out.on bb).hid
      clear bb cN HS5 y0 y1 y2 y3 y4 y5 y6 y7
      have cN := levelX_any m' v1 HQ0.out.lx.lies (HTb.out.on HQ0.out.B)
      rw [HEX.out.2.1] at cN
      simp only [Nd.vals, hdA] at cN
      obtain ⟨y0, y1, y2, y3, y4, y5, y6, y7⟩ := HQ0.out.x.eight
      go_wp2_with fail
      refine cN.mono ?_
      rintro _ v2 ⟨rfl, bb⟩
      have HQ1 := (HQ0.out.on bb).hid
      clear bb cN HQ0 y0 y1 y2 y3 y4 y5 y6 y7
      have cN := depthX_any m' v2 HQ1.out.lx.lies (by have := HSX.out; omega) (HTb.out.on HQ1.out.B)
      rw [HEX.out.2.2.1] at cN
      simp only [Nd.vals, hdA] at cN
      obtain ⟨y0, y1, y2, y3, y4, y5, y6, y7⟩ := HQ1.out.x.eight
      go_wp2_with fail
      refine cN.mono ?_
      rintro _ v3 ⟨rfl, bb⟩
      have HQ2 := (HQ1.out.on bb).hid
      clear bb cN HQ1 y0 y1 y2 y3 y4 y5 y6 y7
      have cN := size_any m' v3 HQ2.out.lx.lies (by have := HSX.out; omega)
      rw [HEX.out.2.2.2.1] at cN
      simp only [Nd.vals, hdA] at cN
      obtain ⟨y0, y1, y2, y3, y4, y5, y6, y7⟩ := HQ2.out.x.eight
      go_wp2_with fail
      refine cN.mono ?_
      rintro _ v4 ⟨rfl, bb⟩
      have HQ3 := (HQ2.out.on bb).hid
      clear bb cN HQ2 y0 y1 y2 y3 y4 y5 y6 y7
      have cN := same_any m' k' v4 HQ3.out.lx.lies HQ3.out.ly.lies
      rw [HEX.out.2.2.2.2] at cN
      simp only [Nd.vals, hdA] at cN
      obtain ⟨y0, y1, y2, y3, y4, y5, y6, y7⟩ := HQ3.out.x.eight
      obtain ⟨x0, x1, x2, x3, x4, x5, x6, x7⟩ := HQ3.out.y.eight
      go_wp2_with fail
      refine cN.mono ?_
      rintro _ v5 ⟨rfl, bb⟩
      have HQ4 := (HQ3.out.on bb).hid
      clear bb cN HQ3 y0 y1 y2 y3 y4 y5 y6 y7 x0 x1 x2 x3 x4 x5 x6 x7
      have cN := bareO_any m' v5 HQ4.out.lx.lies (by have := HSX.out; omega)
      simp only [Nd.vals, hdA] at cN
      obtain ⟨y0, y1, y2, y3, y4, y5, y6, y7⟩ := HQ4.out.x.eight
      go_wp2_with fail
      refine cN.mono ?_
      rintro _ u1 ⟨bn, rfl, hb1, hb2, hb3, hb4, bb⟩
      simp only [Nd.vals, hdA]
      have HQb : Hid (Sx w (u1.alloc (.cells #[.int .u8 bn.h.k, .int .u8 bn.h.o, .int .u8 bn.h.t, .int .i64 bn.h.n, .int .u8 bn.h.f, .string bn.h.x, .slice bn.a bn.ks.length bn.c, .int .i64 bn.h.p] 55)) m k m' k' B0 B1 Bx By lo lo2) := (HQ4.out.on bb).on (below_new _ _)
      have HBb : Hid (Sb (u1.alloc (.cells #[.int .u8 bn.h.k, .int .u8 bn.h.o, .int .u8 bn.h.t, .int .i64 bn.h.n, .int .u8 bn.h.f, .string bn.h.x, .slice bn.a bn.ks.length bn.c, .int .i64 bn.h.p] 55)) bn u1.heap.size) := ⟨heap_new _ _, hb1.on (below_new _ _), hb4.on (below_new _ _)⟩
      have HBS : Hid (Sp bn (fun b => v5.heap.size ≤ b ∧ b < u1.heap.size)) := hb3
      have HBR : Hid (Bare m' bn) := hb2
      have HZb : Hid (Bx < v5.heap.size ∧ v5.heap.size ≤ u1.heap.size ∧ (u1.alloc (.cells #[.int .u8 bn.h.k, .int .u8 bn.h.o, .int .u8 bn.h.t, .int .i64 bn.h.n, .int .u8 bn.h.f, .string bn.h.x, .slice bn.a bn.ks.length bn.c, .int .i64 bn.h.p] 55)).heap.size = u1.heap.size + 1) := ⟨HQ4.out.x.lt, bb.size, size_alloc _ _⟩
      clear hb1 hb2 hb3 hb4 bb cN HQ4 y0 y1 y2 y3 y4 y5 y6 y7
      go_upto_region 14 with fail
      generalize u1.alloc _ = v6 at HQb HBb HZb ⊢
      obtain ⟨tb, etb⟩ : ∃ x, u1.heap.size = x := ⟨_, rfl⟩
      obtain ⟨sb, esb⟩ : ∃ x, v5.heap.size = x := ⟨_, rfl⟩
      rw [etb] at HBb HBS HZb ⊢
      rw [esb] at HBS HZb
      clear etb esb
      have cN := whole_any m' m v6 lo HQb.out.lx (HM.out.on HQb.out.B) HTR.out
      simp only [Nd.vals, hdA] at cN
      obtain ⟨y0, y1, y2, y3, y4, y5, y6, y7⟩ := HQb.out.x.eight
      obtain ⟨x0, x1, x2, x3, x4, x5, x6, x7⟩ := HQb.out.n.eight
      go_wp2_with fail
      refine cN.mono ?_
      rintro _ v7 ⟨rfl, bb⟩
      have HQ6 := (HQb.out.on bb).hid
      have HBb_6 := (HBb.out.on bb).hid
      clear bb cN HQb HBb y0 y1 y2 y3 y4 y5 y6 y7 x0 x1 x2 x3 x4 x5 x6 x7
      have cN := whole_any k' k v7 lo2 HQ6.out.ly (HK.out.on HQ6.out.B) HTK.out
      simp only [Nd.vals, hdA] at cN
      obtain ⟨y0, y1, y2, y3, y4, y5, y6, y7⟩ := HQ6.out.y.eight
      obtain ⟨x0, x1, x2, x3, x4, x5, x6, x7⟩ := HQ6.out.o.eight
      go_wp2_with fail
      refine cN.mono ?_
      rintro _ v8 ⟨rfl, bb⟩
      have HQ7 := (HQ6.out.on bb).hid
      have HBb_7 := (HBb_6.out.on bb).hid
      clear bb cN HQ6 HBb_6 y0 y1 y2 y3 y4 y5 y6 y7 x0 x1 x2 x3 x4 x5 x6 x7
      have cN := rbare_any m v8 (HM.out.on HQ7.out.B) (by have := HSZ.out; omega)
      simp only [Nd.vals, hdA] at cN
      obtain ⟨y0, y1, y2, y3, y4, y5, y6, y7⟩ := HQ7.out.n.eight
      go_wp2_with fail
      refine cN.mono ?_
      rintro _ u2 ⟨wn, rfl, hb1, hb2, hb3, hb4, bb⟩
      simp only [Nd.vals, hdA]
      have HQw : Hid (Sx w (u2.alloc (.cells #[.int .u8 wn.h.k, .int .u8 wn.h.o, .int .u8 wn.h.t, .int .i64 wn.h.n, .int .u8 wn.h.f, .string wn.h.x, .slice wn.a wn.ks.length wn.c, .int .i64 wn.h.p] 55)) m k m' k' B0 B1 Bx By lo lo2) := (HQ7.out.on bb).on (below_new _ _)
      have HBb_w : Hid (Sb (u2.alloc (.cells #[.int .u8 wn.h.k, .int .u8 wn.h.o, .int .u8 wn.h.t, .int .i64 wn.h.n, .int .u8 wn.h.f, .string wn.h.x, .slice wn.a wn.ks.length wn.c, .int .i64 wn.h.p] 55)) bn tb) := (HBb_7.out.on bb).on (below_new _ _)
      have HWw : Hid (Sb (u2.alloc (.cells #[.int .u8 wn.h.k, .int .u8 wn.h.o, .int .u8 wn.h.t, .int .i64 wn.h.n, .int .u8 wn.h.f, .string wn.h.x, .slice wn.a wn.ks.length wn.c, .int .i64 wn.h.p] 55)) wn u2.heap.size) := ⟨heap_new _ _, hb1.on (below_new _ _), hb4.on (below_new _ _)⟩
      have HBRw : Hid (treeOf bn = treeOf wn) := tr_bare m' m bn wn HTR.out HBR.out hb2
      clear hb1 hb2 hb3 hb4 bb cN HQ7 HBb_7 y0 y1 y2 y3 y4 y5 y6 y7
      go_upto_region 17 with fail
      generalize u2.alloc _ = v9 at HQw HBb_w HWw ⊢
      generalize u2.heap.size = Bw at HWw ⊢
      have cN := like_any m k v9 (HM.out.on HQw.out.B) (HK.out.on HQw.out.B)
      simp only [Nd.vals, hdA] at cN
      obtain ⟨y0, y1, y2, y3, y4, y5, y6, y7⟩ := HQw.out.n.eight
      obtain ⟨x0, x1, x2, x3, x4, x5, x6, x7⟩ := HQw.out.o.eight
      go_wp2_with fail
      refine cN.mono ?_
      rintro _ v10 ⟨rfl, bb⟩
      have HQ9 := (HQw.out.on bb).hid
      have HBb_9 := (HBb_w.out.on bb).hid
      have HWw_9 := (HWw.out.on bb).hid
      clear bb cN HQw HBb_w HWw y0 y1 y2 y3 y4 y5 y6 y7 x0 x1 x2 x3 x4 x5 x6 x7
      have cN := some_any bn wn v10 HBb_9.out.l HWw_9.out.l
      simp only [Nd.vals, hdA] at cN
      obtain ⟨y0, y1, y2, y3, y4, y5, y6, y7⟩ := HBb_9.out.n.eight
      obtain ⟨x0, x1, x2, x3, x4, x5, x6, x7⟩ := HWw_9.out.n.eight
      go_wp2_with fail
      refine cN.mono ?_
      rintro _ v11 ⟨rfl, bb⟩
      have HQ10 := (HQ9.out.on bb).hid
      have HBb_10 := (HBb_9.out.on bb).hid
      have HWw_10 := (HWw_9.out.on bb).hid
      clear bb cN HQ9 HBb_9 HWw_9 y0 y1 y2 y3 y4 y5 y6 y7 x0 x1 x2 x3 x4 x5 x6 x7
      have HZc : Hid (tb < v11.heap.size) := HBb_10.out.n.lt
      obtain ⟨X, eX⟩ : ∃ X, v11.alloc (.cells #[.slice none 0 0, .slice none 0 0, .slice none 0 0, .slice none 0 0, .slice none 0 0, .slice none 0 0, .slice none 0 0, .slice none 0 0, .slice none 0 0, .slice none 0 0, .slice none 0 0, .slice none 0 0] 47) = X := ⟨_, rfl⟩
      have bX : Below v11.heap.size v11 X := by rw [← eX]; exact below_new _ _
      have hbk : X.heap[v11.heap.size]? = some (.cells (trN (.slice none 0 0)) 47 (0, 0)) := by rw [← eX]; exact heap_new _ _
      have HEX2 : Hid (v11.alloc (.cells #[.slice none 0 0, .slice none 0 0, .slice none 0 0, .slice none 0 0, .slice none 0 0, .slice none 0 0, .slice none 0 0, .slice none 0 0, .slice none 0 0, .slice none 0 0, .slice none 0 0, .slice none 0 0] 47) = X) := eX
      have hT0 : TBn v11 X v11.heap.size (fun b => (lo ≤ b ∧ b < Bx) ∨ (sb ≤ b ∧ b < tb)) (fun _ => False) 0 X (.slice none 0 0) := by
        have z1 := HZb.out
        have z2 := HZc.out
        have z3 := bX.size
        exact ⟨hbk, LEnone _ _, fun b hb => hb.elim, fun b hb => ⟨by omega, by simp [Value.ownBlock]⟩, fun b hb => by omega, fun b _ => rfl, Nat.le_refl _, ⟨Nat.le_refl _, fun b hb => by simp [Value.ownBlock] at hb⟩, bX⟩
      have HQX := (HQ10.out.on bX).hid
      have HBX := (HBb_10.out.on bX).hid
      have HT0 := hT0.hid
      clear eX bX hbk hT0 HWw_10
      have cN := node_any bn v11 X v11.heap.size _ _ (fun b => sb ≤ b ∧ b < tb) 0 X _ HT0.out HBX.out.o.no HBX.out.l HBS.out (fun b hb => ⟨.inr hb, id⟩) (by have h1 := bare_size m' bn HBR.out; have h2 := HSX.out; omega)
      simp only [Nd.vals, hdA] at cN
      obtain ⟨y0, y1, y2, y3, y4, y5, y6, y7⟩ := HBX.out.n.eight
      go_upto_region 20 with fail
      rw [HEX2.out]
      clear HEX2
      go_wp2_with fail
      refine cN.mono ?_
      rintro _ X1 ⟨⟨r1, rfl⟩, l1, A1, hT1, hA1⟩
      have HT1 := hT1.hid
      have HA1 : Hid (∀ b, A1 b → sb ≤ b ∧ b < tb) := fun b hb => (hA1 b hb).elim False.elim id
      have HQ1 := (HQ10.out.on hT1.B0).hid
      clear cN hT1 hA1 HQX y0 y1 y2 y3 y4 y5 y6 y7
      have HLX : Hid (NO X m' ∧ Lies X m') := ⟨((HQ10.out.bx.on HQ10.out.lx (by have := HT0.out.B0; exact this))).no (HQ10.out.lx.on HT0.out.B0), (HQ10.out.lx.on HT0.out.B0).lies⟩
      have cN := node_any m' v11 X v11.heap.size _ A1 (fun b => lo ≤ b ∧ b < Bx) (0 + size bn) X1 l1 HT1.out HLX.out.1 HLX.out.2 HSP.out (fun b hb => ⟨.inl hb, fun ha => by have h1 := HA1.out b ha; have h2 := HZb.out; omega⟩) (by have h1 := bare_size m' bn HBR.out; have h2 := HSX.out; omega)
      simp only [Nd.vals, hdA] at cN
      obtain ⟨y0, y1, y2, y3, y4, y5, y6, y7⟩ := HQ1.out.x.eight
      go_wp2_with fail
      refine cN.mono ?_
      rintro _ X2 ⟨⟨r2, rfl⟩, l2, A2, hT2, hA2⟩
      have HT2 := hT2.hid
      have HA2 : Hid (∀ b, A2 b → (lo ≤ b ∧ b < Bx) ∨ (sb ≤ b ∧ b < tb)) := fun b hb => (hA2 b hb).elim (fun h => .inr (HA1.out b h)) .inl
      have HQ2 := (HQ10.out.on hT2.B0).hid
      clear cN hT2 hA2 HT1 HT0 HQ1 HA1 HLX HBX HBb_10 HQ10 y0 y1 y2 y3 y4 y5 y6 y7
      have cO := HT2.out.own (by have h1 := bare_size m' bn HBR.out; have h2 := HSX.out; omega)
      go_wp2_with fail
      refine cO.mono ?_
      rintro _ X3 ⟨rfl, mv⟩
      have HN9 : Hid (NdH X3 B0 m) := (mv.block B0 HQ2.out.n.lt (fun ha => by have h1 := HA2.out B0 ha; have h2 := HBB.out; have h3 := HS3.out; have h4 := HZb.out; have h5 := HZ4.out; omega)).trans HQ2.out.n
      have HB9 : Hid (Below w.heap.size w X3) := HQ2.out.B.trans (mv.below HQ2.out.B.size (fun b ha => by have h1 := HA2.out b ha; have h3 := HS3.out; have h4 := HZb.out; have h5 := HZ4.out; omega))
      clear mv cO HT2 HQ2 HA2
      have HI1 : Hid (idB bn wn = true) := tree_id bn wn HBRw.out
      rw [HI1.out, HE.out.2.2.2.2]
      have c1 := fun v (hv : Below w.heap.size w v) => rcheckX_any m v (HM.out.on hv) (by have := HSZ.out; omega)
      have c2 := fun v (hv : Below w.heap.size w v) => rlevelX_any m v (HM.out.on hv)
      have c3 := fun v (hv : Below w.heap.size w v) => rdepthX_any m v (HM.out.on hv) (by have := HSZ.out; omega)
      have c4 := fun v (hv : Below w.heap.size w v) => rsize_any m v (HM.out.on hv) (by have := HSZ.out; omega)
      simp only [HE.out.1] at c1
      simp only [HE.out.2.1] at c2
      simp only [HE.out.2.2.1] at c3
      simp only [HE.out.2.2.2.1] at c4
      simp only [Nd.vals, hdA] at c1 c2 c3 c4
      obtain ⟨y0, y1, y2, y3, y4, y5, y6, y7⟩ := HN9.out.eight
      cases S
      · have e1 : (E != E) = false := by simp
        have e2 : (Lv != Lv) = false := by simp
        have e3 : (D != D) = false := by simp
        have e4 : (Z != Z) = false := by simp
        go_wp2_with fail
        refine (c1 _ HB9.out).mono ?_
        rintro _ q1 ⟨rfl, bb⟩
        have HBz1 : Hid (Below w.heap.size w q1) := below2 HB9.out bb
        have HNz1 : Hid (NdH q1 B0 m) := HN9.out.on bb
        clear bb HN9 HB9 y0 y1 y2 y3 y4 y5 y6 y7
        obtain ⟨y0, y1, y2, y3, y4, y5, y6, y7⟩ := HNz1.out.eight
        go_wp2_with fail
        refine (c2 _ HBz1.out).mono ?_
        rintro _ q2 ⟨rfl, bb⟩
        have HBz2 : Hid (Below w.heap.size w q2) := below2 HBz1.out bb
        have HNz2 : Hid (NdH q2 B0 m) := HNz1.out.on bb
        clear bb HNz1 HBz1 y0 y1 y2 y3 y4 y5 y6 y7
        obtain ⟨y0, y1, y2, y3, y4, y5, y6, y7⟩ := HNz2.out.eight
        go_wp2_with fail
        refine (c3 _ HBz2.out).mono ?_
        rintro _ q3 ⟨rfl, bb⟩
        have HBz3 : Hid (Below w.heap.size w q3) := below2 HBz2.out bb
        have HNz3 : Hid (NdH q3 B0 m) := HNz2.out.on bb
        clear bb HNz2 HBz2 y0 y1 y2 y3 y4 y5 y6 y7
        obtain ⟨y0, y1, y2, y3, y4, y5, y6, y7⟩ := HNz3.out.eight
        go_wp2_with fail
        refine (c4 _ HBz3.out).mono ?_
        rintro _ q4 ⟨rfl, bb⟩
        have HBz4 : Hid (Below w.heap.size w q4) := below2 HBz3.out bb
        have HNz4 : Hid (NdH q4 B0 m) := HNz3.out.on bb
        clear bb HNz3 HBz3 y0 y1 y2 y3 y4 y5 y6 y7
        obtain ⟨y0, y1, y2, y3, y4, y5, y6, y7⟩ := HNz4.out.eight
        go_wp2_with fail
        go_ret
        exact ⟨rfl, HBz4.out⟩
      · have e1 : (E != E) = false := by simp
        have e2 : (Lv != Lv) = false := by simp
        have e3 : (D != D) = false := by simp
        have e4 : (Z != Z) = false := by simp
        go_wp2_with fail
        refine (c1 _ HB9.out).mono ?_
        rintro _ q1 ⟨rfl, bb⟩
        have HBz1 : Hid (Below w.heap.size w q1) := below2 HB9.out bb
        have HNz1 : Hid (NdH q1 B0 m) := HN9.out.on bb
        clear bb HN9 HB9 y0 y1 y2 y3 y4 y5 y6 y7
        obtain ⟨y0, y1, y2, y3, y4, y5, y6, y7⟩ := HNz1.out.eight
        go_wp2_with fail
        refine (c2 _ HBz1.out).mono ?_
        rintro _ q2 ⟨rfl, bb⟩
        have HBz2 : Hid (Below w.heap.size w q2) := below2 HBz1.out bb
        have HNz2 : Hid (NdH q2 B0 m) := HNz1.out.on bb
        clear bb HNz1 HBz1 y0 y1 y2 y3 y4 y5 y6 y7
        obtain ⟨y0, y1, y2, y3, y4, y5, y6, y7⟩ := HNz2.out.eight
        go_wp2_with fail
        refine (c3 _ HBz2.out).mono ?_
        rintro _ q3 ⟨rfl, bb⟩
        have HBz3 : Hid (Below w.heap.size w q3) := below2 HBz2.out bb
        have HNz3 : Hid (NdH q3 B0 m) := HNz2.out.on bb
        clear bb HNz2 HBz2 y0 y1 y2 y3 y4 y5 y6 y7
        obtain ⟨y0, y1, y2, y3, y4, y5, y6, y7⟩ := HNz3.out.eight
        go_wp2_with fail
        refine (c4 _ HBz3.out).mono ?_
        rintro _ q4 ⟨rfl, bb⟩
        have HBz4 : Hid (Below w.heap.size w q4) := below2 HBz3.out bb
        have HNz4 : Hid (NdH q4 B0 m) := HNz3.out.on bb
        clear bb HNz3 HBz3 y0 y1 y2 y3 y4 y5 y6 y7
        obtain ⟨y0, y1, y2, y3, y4, y5, y6, y7⟩ := HNz4.out.eight
        go_wp2_with fail
        go_ret
        exact ⟨rfl, HBz4.out⟩
    · go_wp2_with fail
      go_ret
      exact ⟨rfl, HB3.out⟩
  · go_wp2_with fail
    go_ret
    exact ⟨rfl, HB3.out⟩
end Go.Proofs.YtighocmdlifheaaGreatDoor

/-
  Check, of the chapter's smallest strategy and of one without a state.
-/
namespace Go.Proofs.YtighocmdlifheaaGreatDoor
open Go.RowKit
theorem lies0 (w : World) : Lies w nd0 := .mk _ _ _ _ ⟨by decide, by decide, by decide, by decide, by decide, by decide, by decide, by decide, by decide, by decide, by decide, by decide, by decide⟩ (Nat.le_refl _) (by decide) (fun i hi => by simp at hi) (fun k hk => by cases hk)
theorem part_none (w : World) : Calls Tryz.prog 148 #[.agg #[.int .u8 0, .int .u8 0, .int .u8 0, .int .i64 0, .int .u8 0, .string ⟨#[]⟩, .slice none 0 0, .int .i64 0], .bool false] w fun e w' => e = .returned (.tuple #[]) ∧ Below w.heap.size w w' := by
  have cS : ∀ v, Calls Tryz.prog 24 #[.agg #[.int .u8 0, .int .u8 0, .int .u8 0, .int .i64 0, .int .u8 0, .string ⟨#[]⟩, .slice none 0 0, .int .i64 0], .agg #[.int .u8 0, .int .u8 0, .int .u8 0, .int .i64 0, .int .u8 0, .string ⟨#[]⟩, .slice none 0 0, .int .i64 0]] v fun e w' => e = .returned (.bool true) ∧ Below v.heap.size v w' := fun v => same_any nd0 nd0 v (lies0 v) (lies0 v)
  go_enter Tryz.func148, Tryz.ntmps148
  go_wp2_with fail
  refine (cS _).mono ?_
  rintro e w1 ⟨rfl, hb⟩
  have HB : Hid (Below w.heap.size w w1) := (below_new _ _).trans (hb.mono (by simp))
  clear hb
  go_wp2_with (go_at_call 106; refine (need_t 120 _).mono ?_; rintro e w3 ⟨rfl, e4⟩; obtain rfl := e4.symm)
  go_end0
  exact ⟨rfl, HB.out⟩
set_option maxRecDepth 100000 in
theorem name_ok (s : ByteArray) (hs : s.size ≤ 140737488355328) (hn : nameB s = true) (w : World) (ht : Tab w) : Calls Tryz.prog 88 #[.string s] w fun e w' => e = .returned (.tuple #[]) ∧ Below w.heap.size w w' := by
  have cN := namep_any s hs w ht
  rw [hn] at cN
  go_enter Tryz.func88, Tryz.ntmps88
  go_wp2_with (first | (go_at_call 115; refine cN.mono ?_; rintro e w1 ⟨rfl, hb⟩) | (go_at_call 106; refine (need_t 120 _).mono ?_; rintro e w3 ⟨rfl, e4⟩; obtain rfl := e4.symm))
  go_end0
  exact ⟨rfl, hb⟩
set_option maxRecDepth 100000 in
theorem count_ok (n l m : Int) (h1 : l ≤ n) (h2 : n ≤ m) (w : World) : Calls Tryz.prog 89 #[.int .i64 n, .int .i64 l, .int .i64 m] w fun e w' => e = .returned (.tuple #[]) ∧ w' = w := by
  have d1 : decide (l ≤ n) = true := decide_eq_true h1
  have d2 : decide (n ≤ m) = true := decide_eq_true h2
  go_enter Tryz.func89, Tryz.ntmps89
  go_wp2_with (go_at_call 106; refine (need_t _ _).mono ?_; rintro e w3 ⟨rfl, e4⟩; obtain rfl := e4.symm)
  go_end0
  exact ⟨rfl, rfl⟩
theorem snd2 (w : World) (A B : Obj) : ((w.alloc A).alloc B).heap[w.heap.size + 1]? = some B := by
  rw [← size_alloc w A]; exact heap_new _ _
set_option maxRecDepth 100000 in
theorem named_halt (w : World) : Calls Tryz.prog 146 #[.agg #[.int .u8 6, .int .u8 0, .string ⟨#[]⟩, .int .u8 0, .int .u8 0, .int .u8 0, .int .i64 0, .int .u8 0, .string ⟨#[]⟩, .slice none 0 0, .int .i64 0, .int .u8 0, .int .u8 0, .int .u8 0, .int .i64 0, .int .u8 0, .string ⟨#[]⟩, .slice none 0 0, .int .i64 0, .int .u8 0, .int .u8 0, .int .u8 0, .int .i64 0, .int .u8 0, .string ⟨#[]⟩, .slice none 0 0, .int .i64 0, .int .u8 0, .int .u8 0, .int .u8 0, .int .i64 0, .int .u8 0, .string ⟨#[]⟩, .slice none 0 0, .int .i64 0, .int .i64 0]] w fun e w' => e = .returned (.agg #[.bool false, .bool false, .bool false, .bool false, .bool false, .bool false]) ∧ Below w.heap.size w w' := by
  go_enter Tryz.func146, Tryz.ntmps146
  go_wp2_with fail
  exact bodyPost_ret (results_cell_row rfl _ _ (w.heap.size + 1) 180 #[.bool false, .bool false, .bool false, .bool false, .bool false, .bool false] (0, 0) _ rfl (snd2 _ _ _) Tryz.underlying180 rfl (by kernel_rfl)) rfl ⟨rfl, below_two _ _ _⟩
end Go.Proofs.YtighocmdlifheaaGreatDoor

/-
  A new variable of many cells, and what is stored into it at once.
-/
namespace Go.Proofs.YtighocmdlifheaaGreatDoor
open Go.RowKit
variable {P : Program}
theorem run_alloc_row (w : World) (ty : TypeId) (C : Array Value) (hz : (P.info? ty).map (·.zero) = some (some (.agg C))) :
    (Instr.alloc ty true (.tuple #[])).run P w = .ok (.pointer (some ⟨w.heap.size, 0, none⟩)) (w.alloc (.cells C ty)) := by
  cases hq : P.info? ty with
  | none => simp [hq] at hz
  | some i =>
    have hs : i.zero = some (.agg C) := by simpa [hq] using hz
    simp [Instr.alloc, zeroValue, typeInfo, hq, hs, newVar, newRow, Value.cells, go_sem]
theorem wp_alloc_row {op : Oper} {a : Act} {w : World} {K : Act → World → Prop} {Q : Exit → Act → World → Prop} (ty : TypeId) (ho : op.op = .alloc ty) (C : Array Value) (hz : (P.info? ty).map (·.zero) = some (some (.agg C)))
    (h : K (a.put op.dst (.pointer (some ⟨w.heap.size, 0, none⟩))) (w.alloc (.cells C ty))) : op.wp P a w K Q := by
  unfold Oper.wp execOp
  simp only [ho, Sem.run_bind, run_alloc_row w ty C hz, Result.andThen_ok, Sem.run_pure]
  exact h
theorem below_cells {B g : Nat} (hg : B ≤ g) : ∀ (vs : List Value) (o : Nat) (w : World), Below B w (w.setCells g o vs)
  | [], _, w => Below.refl B w
  | v :: r, o, w => ((Below.refl B w).setCell (p := ⟨g, o, none⟩) hg v).trans (below_cells hg r (o + 1) _)
theorem size_cells (g : Nat) : ∀ (vs : List Value) (o : Nat) (w : World), (w.setCells g o vs).heap.size = w.heap.size
  | [], _, _ => rfl
  | v :: r, o, w => (size_cells g r (o + 1) _).trans (by simp [World.setCell])
/-- A new block, filled at once. -/
structure Fil (w : World) (cs : List Value) (ty : TypeId) (Y : World) : Prop where
  B : Below w.heap.size w Y
  r : Y.rangeAt w.heap.size 0 cs
  s : Y.heap.size = w.heap.size + 1
theorem wpList_new_row {ops : Array Oper} {rest : List Oper} {o1 o2 : Oper} {a : Act} {w : World} {Q : Exit → Act → World → Prop} (hg1 : o1.guard = none) (hg2 : o2.guard = none) (ty : TypeId) (h1 : o1.op = .alloc ty) (x y : Operand) (h2 : o2.op = .store ty x y)
    (C : Array Value) (hz : (P.info? ty).map (·.zero) = some (some (.agg C))) (hi : (P.info? ty).map (·.size) = some C.size) (cells : Array Value) (hs : cells.size = C.size)
    (hx : (a.put o1.dst (.pointer (some ⟨w.heap.size, 0, none⟩))).eval x = .pointer (some ⟨w.heap.size, 0, none⟩)) (hy : (a.put o1.dst (.pointer (some ⟨w.heap.size, 0, none⟩))).eval y = .agg cells) (hc : cells.all (·.oneCell') = true)
    (h : ∀ Y, Fil w cells.toList ty Y → wpList P ops Q rest ((a.put o1.dst (.pointer (some ⟨w.heap.size, 0, none⟩))).put o2.dst undef) Y) : wpList P ops Q (o1 :: o2 :: rest) a w := by
  have hb : (w.alloc (.cells C ty)).heap[w.heap.size]? = some (.cells C ty (0, 0)) := heap_new _ _
  have ht : (w.alloc (.cells C ty)).there w.heap.size 0 cells.size := fun j hj => by
    have hj' : j < C.size := by omega
    refine ⟨?_, ?_⟩
    · rw [Nat.zero_add, cell_of hb j, Array.getElem?_eq_getElem hj']; rfl
    · rw [Nat.zero_add]; exact frozen_of hb j
  refine wpList_plain hg1 fun _ hK => wp_alloc_row ty h1 C hz (hK _ _ ?_)
  refine wpList_store_mid hg2 ty x y h2 w.heap.size 0 cells hx hy ht (by rw [hi, hs]) hc (h _ ⟨?_, ?_, ?_⟩)
  · exact (below_new w _).trans ((below_cells (Nat.le_refl _) cells.toList 0 _).mono (Nat.le_refl _))
  · exact World.rangeAt_setCells_same _ _ _ _ ht
  · rw [size_cells, size_alloc]
end Go.Proofs.YtighocmdlifheaaGreatDoor

/-
  needRule, needState: of one thing done, of one rule.
-/
namespace Go.Proofs.YtighocmdlifheaaGreatDoor
open Go.RowKit
def ndZ : List Value := [.int .u8 0, .int .u8 0, .int .u8 0, .int .i64 0, .int .u8 0, .string ⟨#[]⟩, .slice none 0 0, .int .i64 0]
def doZ (k : Int) : List Value := [.int .u8 k, .int .u8 0, .string ⟨#[]⟩] ++ (ndZ ++ (ndZ ++ (ndZ ++ (ndZ ++ [.int .i64 0]))))
theorem zero104 : (Tryz.prog.info? 96).map (·.zero) = some (some (.agg (doZ 0).toArray)) := by kernel_rfl
theorem size104 : (Tryz.prog.info? 96).map (·.size) = some 36 := by kernel_rfl
theorem range_on {w w' : World} {b o : Nat} {cs : List Value} (h : w.rangeAt b o cs) (k : Below w.heap.size w w') : w'.rangeAt b o cs := fun j v hv => by
  have h1 := h j v hv
  rw [World.cell?_of_block (k.block b (World.block_lt_of_cell? w _ h1))]; exact h1
def hasN : Nd := .mk ⟨4, 0, 0, 0, 1, ⟨#[]⟩, 0⟩ none 0 []
theorem liesHas (w : World) : Lies w hasN := .mk _ _ _ _ ⟨by decide, by decide, by decide, by decide, by decide, by decide, by decide, by decide, by decide, by decide, by decide, by decide, by decide⟩ (Nat.le_refl _) (by decide) (fun i hi => by simp at hi) (fun k hk => by cases hk)
set_option maxRecDepth 100000 in
set_option maxHeartbeats 4000000 in
theorem rule_one (d : List Value) (hd : d.length = 36) (h1 : d.toArray.all (·.oneCell') = true) (cD : ∀ v, Calls Tryz.prog 133 #[.agg d.toArray] v fun e w' => e = .returned (.tuple #[]) ∧ Below v.heap.size v w') (b : Nat) (w : World) (hr : w.rangeAt b 0 d) (ht : Tab w) :
    Calls Tryz.prog 118 #[.agg #[.int .u8 4, .int .u8 0, .int .u8 0, .int .i64 0, .int .u8 1, .string ⟨#[]⟩, .slice none 0 0, .int .i64 0, .slice (some ⟨b, 0, none⟩) 1 1, .int .i64 0]] w fun e w' => e = .returned (.tuple #[]) ∧ Below w.heap.size w w' := by
  obtain ⟨W, eW⟩ : ∃ W, w.alloc (.cells #[.int .u8 4, .int .u8 0, .int .u8 0, .int .i64 0, .int .u8 1, .string ⟨#[]⟩, .slice none 0 0, .int .i64 0, .slice (some ⟨b, 0, none⟩) 1 1, .int .i64 0] 71) = W := ⟨_, rfl⟩
  have hbW : Below w.heap.size w W := by rw [← eW]; exact below_new _ _
  have hW : W.heap[w.heap.size]? = some (.cells #[.int .u8 4, .int .u8 0, .int .u8 0, .int .i64 0, .int .u8 1, .string ⟨#[]⟩, .slice none 0 0, .int .i64 0, .slice (some ⟨b, 0, none⟩) 1 1, .int .i64 0] 71 (0, 0)) := by rw [← eW]; exact heap_new _ _
  have cE : Calls Tryz.prog 75 #[.agg #[.int .u8 4, .int .u8 0, .int .u8 0, .int .i64 0, .int .u8 1, .string ⟨#[]⟩, .slice none 0 0, .int .i64 0]] W fun e w' => e = .returned (.tuple #[]) ∧ Below W.heap.size W w' := by
    have := needExpr_any hasN W (liesHas W) (by decide) (ht.on hbW)
    rw [show cE hasN = 0 by decide] at this
    exact this.zero
  have y0 : W.cell? ⟨w.heap.size, 0, none⟩ = some (.int .u8 4) := cell_of hW 0
  have y1 : W.cell? ⟨w.heap.size, 1, none⟩ = some (.int .u8 0) := cell_of hW 1
  have y2 : W.cell? ⟨w.heap.size, 2, none⟩ = some (.int .u8 0) := cell_of hW 2
  have y3 : W.cell? ⟨w.heap.size, 3, none⟩ = some (.int .i64 0) := cell_of hW 3
  have y4 : W.cell? ⟨w.heap.size, 4, none⟩ = some (.int .u8 1) := cell_of hW 4
  have y5 : W.cell? ⟨w.heap.size, 5, none⟩ = some (.string ⟨#[]⟩) := cell_of hW 5
  have y6 : W.cell? ⟨w.heap.size, 6, none⟩ = some (.slice none 0 0) := cell_of hW 6
  have y7 : W.cell? ⟨w.heap.size, 7, none⟩ = some (.int .i64 0) := cell_of hW 7
  have HW : Hid (W.heap[w.heap.size]? = some (.cells #[.int .u8 4, .int .u8 0, .int .u8 0, .int .i64 0, .int .u8 1, .string ⟨#[]⟩, .slice none 0 0, .int .i64 0, .slice (some ⟨b, 0, none⟩) 1 1, .int .i64 0] 71 (0, 0))) := hW
  have HBW : Hid (Below w.heap.size w W) := hbW
  have HR : Hid (w.rangeAt b 0 d) := hr
  have HD : Hid (d.length = 36) := hd
  have H1 : Hid (d.toArray.all (·.oneCell') = true) := h1
  clear hbW hW hr hd h1 ht
  go_enter Tryz.func118, Tryz.ntmps118
  go_wp2_with fail
  clear eW
  refine cE.mono ?_
  rintro e w1 ⟨rfl, hb⟩
  have z8 : w1.cell? ⟨w.heap.size, 8, none⟩ = some (.slice (some ⟨b, 0, none⟩) 1 1) := cell_of ((hb.block _ (Array.getElem?_eq_some_iff.1 HW.out).1).trans HW.out) 8
  have HB1 : Hid (Below w.heap.size w w1) := below2 HBW.out hb
  clear hb cE y0 y1 y2 y3 y4 y5 y6 y7 HBW HW
  go_wp2_with (go_at_call 89; refine (count_ok 1 1 8 (by decide) (by decide) _).mono ?_; rintro e w3 ⟨rfl, e4⟩; obtain rfl := e4.symm)
  go_loopw [3, 14] (fun _ t wr => ∃ i : Nat, i ≤ 1 ∧ t = .int .i64 i ∧ Hid (Below w.heap.size w wr)) (fun _ t _ => 1 - (intOf t).toNat)
  case atStart => exact ⟨0, by omega, rfl, HB1⟩
  case round =>
    obtain ⟨i, hi, rfl, HBr⟩ := hrel
    rcases (by omega : i = 0 ∨ i = 1) with rfl | rfl
    · have HRr : Hid (wr.rangeAt b 0 d) := range_on HR.out HBr.out
      go_wp2_with (first
        | (refine wpList_load_mid rfl 96 (.tmp 16) rfl b 0 rfl d _ HRr.out Tryz.underlying96 rfl (by rw [HD.out]; exact size104) ?_)
        | (refine wpList_new_row rfl rfl 96 rfl (.tmp 3) (.tmp 17) rfl (doZ 0).toArray zero104 (by exact size104) d.toArray (by rw [List.size_toArray, HD.out]; rfl) rfl rfl H1.out ?_; intro Y hY; have HY : Hid (Fil wr d 96 Y) := hY; clear hY)
        | (refine wpList_load_mid rfl 96 (.tmp 3) rfl wr.heap.size 0 rfl d _ HY.out.r Tryz.underlying96 rfl (by rw [HD.out]; exact size104) ?_))
      refine (cD _).mono ?_
      rintro e w5 ⟨rfl, hb5⟩
      have HB5 : Hid (Below w.heap.size w w5) := below2 (below2 HBr.out HY.out.B) hb5
      clear hb5
      go_wp2_with fail
      exact ⟨⟨1, by omega, rfl, HB5⟩, by simp only [intOf]; omega⟩
    · go_wp2_with fail
      go_end0
      exact ⟨rfl, HBr.out⟩
end Go.Proofs.YtighocmdlifheaaGreatDoor
