/-
  TreeTurned: an expression in which one node is another one is not the same.
-/
import Derived.Test.YtighocmdlifheaaDoorTy
import Derived.Test.YtighocmdlifheaaDoorWg
import Derived.Test.YtighocmdlifheaaDoorSm
import Derived.Deep.CutBlock
namespace Go.Proofs.YtighocmdlifheaaDoor
open Go.RowKit
/-- A row of bytes that came in. -/
def Bts (w : World) (a : Option Addr) (len : Nat) : Prop := len ≤ 9223372036854775807 ∧ ∀ i, i < len → ∃ b o z, a = some ⟨b, o, none⟩ ∧ w.cell? ⟨b, o + i, none⟩ = some (.int .u8 z) ∧ 0 ≤ z ∧ z ≤ 255
theorem Bts.on {w w' : World} {a : Option Addr} {len : Nat} (h : Bts w a len) (k : Below w.heap.size w w') : Bts w' a len :=
  ⟨h.1, fun i hi => by
    obtain ⟨b, o, z, e, hc, hz⟩ := h.2 i hi
    exact ⟨b, o, z, e, (World.cell?_of_block (k.block b (World.block_lt_of_cell? w _ hc))).trans hc, hz⟩⟩
theorem frozen_blk {w w' : World} {b i : Nat} (h : w'.heap[b]? = w.heap[b]?) : w'.frozen? ⟨b, i, none⟩ = w.frozen? ⟨b, i, none⟩ := by unfold World.frozen?; simp only [h]
/-- Where the walk stands behind the copy. -/
theorem Hole.first {w W2 W3 X : World} {m m' : Nd} (hB2 : Below w.heap.size w W2) (hB3 : Below W2.heap.size W2 W3) (hl : Lies W3 m') (ht : Twin m m') (hs : Sp m' (fun b => W2.heap.size ≤ b ∧ b < W3.heap.size)) (ho : OwnT W3 m') (hw : wt m ≤ 1048576)
    (hX : X = W3.alloc (.cells m'.vals 28)) : Hole w X m W3.heap.size W3.heap.size 0 m' m (fun b => W2.heap.size ≤ b ∧ b < W3.heap.size) := by
  have hN : NdH X W3.heap.size m' := by rw [hX]; exact heap_new _ _
  have hb : Below W3.heap.size W3 X := by rw [hX]; exact below_new _ _
  exact ⟨hN.at, hl.on hb, ho.on hb, hs, fun h => by omega, ht, fun i => frozen_of hN i, Nat.le_trans hB2.size hB3.size, fun c hc => Nat.le_trans hB2.size hc.1, below2 (below2 hB2 hB3) hb, hw, fun W' q' _ h1 h2 => ⟨q', h1, h2, id, id⟩⟩
set_option maxRecDepth 1000000 in
set_option maxHeartbeats 8000000 in
theorem turned_any (m : Nd) (pa : Option Addr) (pl pc : Nat) (how : Int) (w : World) (hl : Lies w m) (hp : Bts w pa pl) (cA : ∀ v, Below w.heap.size w v → Calls Tryd.prog 7 #[] v fun e w' => e = .returned (.bool true) ∧ Below v.heap.size v w') :
    Calls Tryd.prog 6 #[.agg m.vals, .slice pa pl pc, .int .i64 how] w fun e w' => e = .returned (.bool true) ∧ Below w.heap.size w w' := by
  have HL := hl.hid
  have HP : Hid (Bts w pa pl) := hp
  clear hl hp
  obtain ⟨B0, hB0⟩ : ∃ x, w.heap.size = x := ⟨_, rfl⟩
  have hbV : Below w.heap.size w (w.alloc (.cells m.vals 28)) := below_new _ _
  have hN : NdH (w.alloc (.cells m.vals 28)) w.heap.size m := heap_new _ _
  have cA1 := cA _ hbV
  have HN := hN.hid
  have HBV : Hid (Below w.heap.size w (w.alloc (.cells m.vals 28))) := hbV
  clear hN hbV cA
  have cF := fun v (hv : Below w.heap.size w v) => far_any m v (HL.out.on hv)
  have cC := fun v (hv : Below w.heap.size w v) (hz : wt m ≤ 1048576) => copy_any m v (HL.out.on hv) (Nat.le_trans (size_wt m) (by omega))
  unfold Nd.vals hdA at cF cC cA1 HN HBV ⊢
  go_enter Tryd.func6, Tryd.ntmps6
  go_wp2_with fail
  refine cA1.mono ?_
  rintro e w1 ⟨rfl, hb1⟩
  have HN1 : Hid (NdH w1 B0 m) := by rw [← hB0]; exact NdH.on HN.out hb1
  have HB1 : Hid (Below w.heap.size w w1) := below2 HBV.out hb1
  obtain ⟨y0, y1, y2, y3, y4, y5, y6, y7⟩ := HN1.out.eight
  clear cA1 hb1 HN HBV
  go_wp2_with fail
  refine (cF _ HB1.out).mono ?_
  rintro e w2 ⟨⟨far, rfl, hfar⟩, hb2⟩
  have HN2 : Hid (NdH w2 B0 m) := HN1.out.on hb2
  have HB2 : Hid (Below w.heap.size w w2) := below2 HB1.out hb2
  clear y0 y1 y2 y3 y4 y5 y6 y7
  have HF : Hid (far = false → wt m ≤ 1048576) := hfar
  clear hb2 HN1 HB1 cF hfar
  cases far with
  | true =>
    go_wp2_with fail
    go_ret
    exact ⟨rfl, HB2.out⟩
  | false =>
    have cC2 := cC w2 HB2.out (HF.out rfl)
    have HZ : Hid (wt m ≤ 1048576) := HF.out rfl
    obtain ⟨y0, y1, y2, y3, y4, y5, y6, y7⟩ := HN2.out.eight
    clear cC HF
    go_wp2_with fail
    refine cC2.mono ?_
    rintro e w3 ⟨m', rfl, hl', htw, hsp, how', hb3⟩
    have HN3 : Hid (NdH w3 B0 m) := HN2.out.on hb3
    have HB3 : Hid (Below w.heap.size w w3) := below2 HB2.out hb3
    have HH : Hid (Hole w2 (w3.alloc (.cells m'.vals 28)) m w3.heap.size w3.heap.size 0 m' m (fun b => w2.heap.size ≤ b ∧ b < w3.heap.size)) := Hole.first (Below.refl _ _) hb3 hl' htw hsp how' HZ.out rfl
    have HN4 : Hid (NdH (w3.alloc (.cells m'.vals 28)) B0 m) := HN3.out.on (below_new _ _)
    have HLT : Hid (B0 < w2.heap.size) := HN2.out.lt
    clear hl' htw hsp how' hb3 HN2 HN3 cC2 y0 y1 y2 y3 y4 y5 y6 y7
    unfold Nd.vals hdA at HH HN4 ⊢
    go_upto_block 0 with fail
    obtain ⟨X, eX⟩ : ∃ X, w3.alloc (.cells #[.int .u8 m'.h.k, .int .u8 m'.h.o, .int .u8 m'.h.t, .int .i64 m'.h.n, .int .u8 m'.h.f, .string m'.h.x, .slice m'.a m'.ks.length m'.c, .int .i64 m'.h.p] 28) = X := ⟨_, rfl⟩
    rw [eX] at HH HN4 ⊢
    obtain ⟨Bx, eB⟩ : ∃ Bx, w3.heap.size = Bx := ⟨_, rfl⟩
    rw [eB] at HH ⊢
    obtain ⟨P0, eP⟩ : ∃ P0 : Nat → Prop, (fun b => w2.heap.size ≤ b ∧ b < Bx) = P0 := ⟨_, rfl⟩
    rw [eP] at HH
    clear eX eB eP HB3
    go_cut [10, 11] from 25 to 54 (fun va _ wx => ∃ b o q nq P, va = .pointer (some ⟨b, o, none⟩) ∧ Hid (Hole w2 wx m Bx b o q nq P) ∧ Hid (NdH wx B0 m))
    case first =>
      go_wp2_with fail
      go_loopw [10, 11] (fun va t wr => ∃ (i b o : Nat) (q nq : Nd) (P : Nat → Prop), i ≤ pl ∧ t = .int .i64 i ∧ va = .pointer (some ⟨b, o, none⟩) ∧ Hid (Hole w2 wr m Bx b o q nq P) ∧ Hid (NdH wr B0 m)) (fun _ t _ => pl - (intOf t).toNat)
      case atStart => exact ⟨0, Bx, 0, m', m, P0, by omega, rfl, rfl, HH, HN4⟩
      case round =>
        obtain ⟨i, b, o, q, nd, P, hi, rfl, rfl, HHr, HNr⟩ := hrel
        have c6 := HHr.out.at'.c6
        by_cases hlt : i < pl
        · have hlt' : (i : Int) < (pl : Int) := by omega
          by_cases hk : 0 < q.ks.length
          · have hk' : (0 : Int) < (q.ks.length : Int) := by omega
            obtain ⟨pb, po, z, epa, hcz, hz0, hz1⟩ := (HP.out.on (below2 HB2.out HHr.out.B)).2 i hlt
            subst epa
            obtain ⟨j, hj⟩ : ∃ j, z.toNat % q.ks.length = j := ⟨_, rfl⟩
            have hjl : j < q.ks.length := by rw [← hj]; exact Nat.mod_lt _ hk
            have hjm : Int.tmod z (q.ks.length : Int) = (j : Int) := by
              obtain ⟨y, rfl⟩ : ∃ y : Nat, z = y := ⟨z.toNat, by omega⟩
              rw [← hj, Int.toNat_natCast, Int.tmod_eq_emod_of_nonneg (by omega)]; exact_mod_cast rfl
            obtain ⟨g, k, nk, Q, ea, hst⟩ := HHr.out.step hjl
            rw [ea] at c6
            have HHk : Hid (Hole w2 wr m Bx g (j * 8) k nk Q) := hst
            have hmx : (i : Int) + 1 ≤ 9223372036854775807 := by have := HP.out.1; omega
            clear hst hj
            go_upto_region 10 with fail
            go_quiet (fail)
            have HH2 : Hid (Hole w2 (wr.drewN nq) m Bx g (j * 8) k nk Q) := HHk.out.heap rfl (below_drew HHk.out.B _)
            have HN2 : Hid (NdH (wr.drewN nq) B0 m) := HNr.out
            go_wp2_with fail
            exact ⟨⟨i + 1, g, j * 8, k, nk, Q, hlt, rfl, rfl, HH2, HN2⟩, by simp only [intOf]; omega⟩
          · have hk0 : q.ks.length = 0 := by omega
            rw [hk0] at c6
            go_wp2_with fail
            go_meet
            exact ⟨b, o, q, nd, P, rfl, HHr, HNr⟩
        · obtain rfl : i = pl := by omega
          have hnot : ¬ (i : Int) < (i : Int) := by omega
          go_wp2_with fail
          go_meet
          exact ⟨b, o, q, nd, P, rfl, HHr, HNr⟩
    case rest =>
      obtain ⟨b, o, q, nq, P, rfl, HHc, HNc⟩ := hcut
      obtain ⟨R, hR⟩ : ∃ R, Int.tmod how 4 = R := ⟨_, rfl⟩
      have HXs : Hid (q.h.x.size ≤ 1048576) := by have h1 := wt_x nq; have h2 := HHc.out.wn; rw [HHc.out.tw.head] at h1; exact Nat.le_trans h1 h2
      go_upto_block 2 with fail
      go_cut [] from 57 to 97 (fun wx => ∃ x, Hid (Trd w2 wx m Bx x) ∧ Hid (NdH wx B0 m))
      case first =>
        have a3 := HHc.out.at'.c3
        have a1 := HHc.out.at'.c1
        have a5 := HHc.out.at'.c5
        have a6 := HHc.out.at'.c6
        have z3 := HHc.out.fz (o + 3)
        have z1 := HHc.out.fz (o + 1)
        have z5 := HHc.out.fz (o + 5)
        by_cases r0 : R = 0
        · subst r0
          obtain ⟨v, hv⟩ : ∃ v, bits BinOp.xor IntKind.i64 q.h.n 1 = v := ⟨_, rfl⟩
          have HV : Hid (∃ x, Trd w2 (wc.setCell ⟨b, o + 3, none⟩ (.int .i64 v)) m Bx x) := by
            refine HHc.out.turnN v ?_ ?_ ?_
            · rw [← hv]; exact xor1_ne _
            · rw [← hv]; exact bits_lo_i64 _ _ _
            · rw [← hv]; exact bits_hi_i64 _ _ _
          have HM : Hid (NdH (wc.setCell ⟨b, o + 3, none⟩ (.int .i64 v)) B0 m) := (Below.heap_setCell _ _ _ _ (fun e => by have := HHc.out.lo; have := HLT.out; have h : B0 = b := e; omega)).trans HNc.out
          go_wp2_with fail
          go_meet
          obtain ⟨x, hx⟩ := HV.out
          exact ⟨x, hx, HM⟩
        · by_cases r1 : R = 1
          · subst r1
            obtain ⟨v, hv⟩ : ∃ v, bits BinOp.xor IntKind.u8 q.h.o 1 = v := ⟨_, rfl⟩
            have HV : Hid (∃ x, Trd w2 (wc.setCell ⟨b, o + 1, none⟩ (.int .u8 v)) m Bx x) := by
              obtain ⟨g1, g2, g3⟩ := xor1_u8 q.h.o HHc.out.li.rg.o0 HHc.out.li.rg.o1
              rw [hv] at g1 g2 g3
              exact HHc.out.turnO v g1 g2 g3
            have HM : Hid (NdH (wc.setCell ⟨b, o + 1, none⟩ (.int .u8 v)) B0 m) := (Below.heap_setCell _ _ _ _ (fun e => by have := HHc.out.lo; have := HLT.out; have h : B0 = b := e; omega)).trans HNc.out
            go_wp2_with fail
            go_meet
            obtain ⟨x, hx⟩ := HV.out
            exact ⟨x, hx, HM⟩
          · by_cases r2 : R = 2
            · subst r2
              obtain ⟨v, hv⟩ : ∃ v, q.h.x ++ (⟨#[97]⟩ : ByteArray) = v := ⟨_, rfl⟩
              have HV : Hid (∃ x, Trd w2 (wc.setCell ⟨b, o + 5, none⟩ (.string v)) m Bx x) := by
                have hs : v.size = q.h.x.size + 1 := by rw [← hv, ByteArray.size_append]; rfl
                exact HHc.out.turnX v (fun e => by rw [e] at hs; omega) (by have := HXs.out; omega)
              have HM : Hid (NdH (wc.setCell ⟨b, o + 5, none⟩ (.string v)) B0 m) := (Below.heap_setCell _ _ _ _ (fun e => by have := HHc.out.lo; have := HLT.out; have h : B0 = b := e; omega)).trans HNc.out
              have hsum : q.h.x.size + 1 ≤ 9223372036854775807 := by have := HXs.out; omega
              have hsum2 : q.h.x.size + (⟨#[97]⟩ : ByteArray).size ≤ 9223372036854775807 := hsum
              go_wp2_with fail
              go_meet
              obtain ⟨x, hx⟩ := HV.out
              exact ⟨x, hx, HM⟩
            · have r0' : (R == 0) = false := by simpa using r0
              have r1' : (R == 1) = false := by simpa using r1
              have r2' : (R == 2) = false := by simpa using r2
              go_upto_region 12 with fail
              have HR : Hid (RN w2 wc (.slice q.a q.ks.length q.c) q.ks) := by
                refine ⟨?_, fun k hk => ?_, HHc.out.B⟩
                · have := HHc.out.ow
                  cases this with | mk _ _ _ _ hr _ => exact hr
                · have hs := HHc.out.sp
                  have hlp := HHc.out.lp
                  cases hs with
                  | mk hh a c ks _ Q ha _ _ _ =>
                    have hk' : (Value.slice a ks.length c).ownBlock = some k := hk
                    cases a with
                    | none => simp [Value.ownBlock] at hk'
                    | some x => simp [Value.ownBlock] at hk'; rw [← hk']; exact hlp _ (ha x rfl).1
              have HLn : Hid (q.ks.length ≤ 1000000000) := by
                have h1 := HHc.out.tw
                have h2 := HHc.out.wn
                have h3 := size_wt nq
                cases h1 with
                | mk hh a a' c c' ks ks' hl _ =>
                  have h4 := len_sizes ks
                  show ks'.length ≤ 1000000000
                  simp only [size] at h3
                  omega
              have z6 := HHc.out.fz (o + 6)
              have HOB : Hid ((Value.slice q.a q.ks.length q.c).ownBlock ≠ some b) := fun e => by
                have hs := HHc.out.sp
                have hnb := HHc.out.nb
                cases hs with
                | mk hh a c ks _ Q ha _ _ _ =>
                  have hk' : (Value.slice a ks.length c).ownBlock = some b := e
                  cases a with
                  | none => simp [Value.ownBlock] at hk'
                  | some x => simp [Value.ownBlock] at hk'; exact hnb (by rw [← hk']; exact (ha x rfl).1)
              have HBG : ∀ g, ((Value.slice q.a q.ks.length q.c).ownBlock = some g ∨ g = wc.drew.heap.size + 1) → b ≠ g := fun g hg e => by
                rcases hg with hg | hg
                · exact HOB.out (by rw [e]; exact hg)
                · have h1 := HHc.out.at'.lt
                  have h2 : wc.drew.heap.size = wc.heap.size := rfl
                  omega
              have hblt : b < wc.heap.size := HHc.out.at'.lt
              have hix : (q.ks.length : Int) < (q.ks.length : Int) + 1 := by omega
              have hix2 : (q.ks.length : Int) < ((q.ks.length + 1 : Nat) : Int) := by omega
              clear a1 a3 a5 z1 z3 z5
              go_region_law (refine step_node rfl (.tmp 60) (.tmp 63) rfl nd0 HR.out.drew (by simp [Act.eval, Act.put]) (by simp [Act.eval, Act.put]) HLn.out ?_; intro g cap w' hr' hs' hk' hg'; obtain ⟨⟨k0, k1, k2, k3, k4, k5, k6, k7⟩, l0, l1, l2, l3, l4, l5, l6, l7⟩ := new_cells hr'; have hbg : b ≠ g := (HBG _ hg'); have hgb : g ≠ b := fun e => hbg e.symm; have a6' : w'.cell? ⟨b, o + 6, none⟩ = some (.slice q.a q.ks.length q.c) := (World.cell?_of_block (hk' b HHc.out.at'.lt HOB.out)).trans a6; have z6' : w'.frozen? ⟨b, o + 6, none⟩ = false := (frozen_blk (hk' b HHc.out.at'.lt HOB.out)).trans z6; have HR' := hr'.hid; have HS' : Hid (wc.heap.size ≤ w'.heap.size) := hs'; have HK' : Hid (∀ b, b < wc.heap.size → (Value.slice q.a q.ks.length q.c).ownBlock ≠ some b → w'.heap[b]? = wc.heap[b]?) := hk'; have HG' : Hid ((Value.slice q.a q.ks.length q.c).ownBlock = some g ∨ g = wc.heap.size + 1) := hg'; clear hr' hs' hk' hg')
              all_goals (
                obtain ⟨tA, tB⟩ := HHc.out.app HR'.out HS'.out HK'.out hbg HOB.out HG'.out
                have HA : Hid (∃ x, Hid (Trd w2 ((S8 w' g (q.ks.length * 8)).setCell ⟨b, o + 6, none⟩ (.slice (some ⟨g, 0, none⟩) (q.ks.length + 1) cap)) m Bx x)) := tA
                have HB : Hid (∃ x, Hid (Trd w2 (S8 (w'.setCell ⟨b, o + 6, none⟩ (.slice (some ⟨g, 0, none⟩) (q.ks.length + 1) cap)) g (q.ks.length * 8)) m Bx x)) := tB
                have HK2 : Hid (∀ Z, Below w2.heap.size w2 Z → Hid (NdH Z B0 m)) := fun Z hZ => (hZ.block B0 HLT.out).trans ((HHc.out.B.block B0 HLT.out).symm.trans HNc.out)
                clear tA tB
                go_wp2_with fail
                go_meet
                first
                  | (obtain ⟨x, hx⟩ := HA.out; with_reducible exact ⟨x, hx, HK2.out _ hx.out.B⟩)
                  | (obtain ⟨x, hx⟩ := HB.out; with_reducible exact ⟨x, hx, HK2.out _ hx.out.B⟩))
      case rest =>
        obtain ⟨x, HT, HM⟩ := hcut
        have cS1 := same_any m x wc (HL.out.on (below2 HB2.out HT.out.B)) HT.out.li
        rw [HT.out.f1] at cS1
        have cS2 := fun v (hv : Below wc.heap.size wc v) => same_any x m v (HT.out.li.on hv) (HL.out.on (below2 (below2 HB2.out HT.out.B) hv))
        rw [HT.out.f2] at cS2
        unfold Nd.vals hdA at cS1 cS2
        obtain ⟨y0, y1, y2, y3, y4, y5, y6, y7⟩ := HM.out.eight
        have x0 : wc.cell? ⟨Bx, 0, none⟩ = some (.int .u8 x.h.k) := HT.out.at'.c0
        have x1 : wc.cell? ⟨Bx, 1, none⟩ = some (.int .u8 x.h.o) := HT.out.at'.c1
        have x2 : wc.cell? ⟨Bx, 2, none⟩ = some (.int .u8 x.h.t) := HT.out.at'.c2
        have x3 : wc.cell? ⟨Bx, 3, none⟩ = some (.int .i64 x.h.n) := HT.out.at'.c3
        have x4 : wc.cell? ⟨Bx, 4, none⟩ = some (.int .u8 x.h.f) := HT.out.at'.c4
        have x5 : wc.cell? ⟨Bx, 5, none⟩ = some (.string x.h.x) := HT.out.at'.c5
        have x6 : wc.cell? ⟨Bx, 6, none⟩ = some (.slice x.a x.ks.length x.c) := HT.out.at'.c6
        have x7 : wc.cell? ⟨Bx, 7, none⟩ = some (.int .i64 x.h.p) := HT.out.at'.c7
        go_wp2_with fail
        refine cS1.mono ?_
        rintro e wd ⟨rfl, hbd⟩
        have HMd : Hid (NdH wd B0 m) := HM.out.on hbd
        have HTd : Hid (NdAt wd Bx 0 x) := HT.out.at'.on hbd
        have HBd : Hid (Below w.heap.size w wd) := below2 (below2 HB2.out HT.out.B) hbd
        have cS3 := cS2 wd hbd
        clear cS1 cS2 hbd y0 y1 y2 y3 y4 y5 y6 y7 x0 x1 x2 x3 x4 x5 x6 x7
        obtain ⟨y0, y1, y2, y3, y4, y5, y6, y7⟩ := HMd.out.eight
        have x0 : wd.cell? ⟨Bx, 0, none⟩ = some (.int .u8 x.h.k) := HTd.out.c0
        have x1 : wd.cell? ⟨Bx, 1, none⟩ = some (.int .u8 x.h.o) := HTd.out.c1
        have x2 : wd.cell? ⟨Bx, 2, none⟩ = some (.int .u8 x.h.t) := HTd.out.c2
        have x3 : wd.cell? ⟨Bx, 3, none⟩ = some (.int .i64 x.h.n) := HTd.out.c3
        have x4 : wd.cell? ⟨Bx, 4, none⟩ = some (.int .u8 x.h.f) := HTd.out.c4
        have x5 : wd.cell? ⟨Bx, 5, none⟩ = some (.string x.h.x) := HTd.out.c5
        have x6 : wd.cell? ⟨Bx, 6, none⟩ = some (.slice x.a x.ks.length x.c) := HTd.out.c6
        have x7 : wd.cell? ⟨Bx, 7, none⟩ = some (.int .i64 x.h.p) := HTd.out.c7
        go_wp2_with fail
        refine cS3.mono ?_
        rintro e we ⟨rfl, hbe⟩
        have HBe : Hid (Below w.heap.size w we) := below2 HBd.out hbe
        clear cS3 hbe y0 y1 y2 y3 y4 y5 y6 y7 x0 x1 x2 x3 x4 x5 x6 x7
        go_wp2_with fail
        go_ret
        exact ⟨rfl, HBe.out⟩
end Go.Proofs.YtighocmdlifheaaDoor
