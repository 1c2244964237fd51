/-
  The walk of LexSpaced.
-/
import Derived.Test.YtelanneckjgnbabDoorWk
import Derived.Test.YtelanneckjgnbabDoorSq
import Derived.OpenShut
namespace Go.Proofs.YtelanneckjgnbabDoor
open Go.RowKit

/-- A slice of bytes that came in. -/
def Byt (w : World) (ao : Option Addr) (len : Nat) (zs : List Int) : Prop :=
  ∀ j, j < len → ∃ b off, ao = some ⟨b, off, none⟩ ∧ b < w.heap.size ∧ w.cell? ⟨b, off + j, none⟩ = some (.int .u8 (zs.getD j 0)) ∧ 0 ≤ zs.getD j 0 ∧ zs.getD j 0 ≤ 255
theorem Byt.below {w w' : World} {ao : Option Addr} {len : Nat} {zs : List Int} (h : Byt w ao len zs) (hb : Below w.heap.size w w') : Byt w' ao len zs := fun j hj => by
  obtain ⟨b, off, e, h1, h2, h3⟩ := h j hj
  exact ⟨b, off, e, Nat.lt_of_lt_of_le h1 hb.size, by rw [hb.cell h1]; exact h2, h3⟩
theorem RL.at {W w : World} {v : Value} {L : List Tk} (h : RL W w v L) : ∃ ao cap, v = .slice ao L.length cap := by
  rcases h.row.lies with ⟨rfl, e⟩ | ⟨g, cap, rfl, _⟩
  · exact ⟨Option.none, 0, by rw [e]⟩
  · exact ⟨_, cap, rfl⟩
def gapV : Array Value := #[.string ⟨#[32]⟩, .string ⟨#[10]⟩, .string ⟨#[9, 13]⟩, .string ⟨#[32, 32]⟩, .string ⟨#[35, 32, 120, 32, 35, 10]⟩, .string ⟨#[35, 10, 10]⟩]
theorem gapV_at (k : Nat) (h : k < 6) : gapV[k]? = some (.string ⟨(gapA k).toArray⟩) := by
  match k, h with
  | 0, _ => rfl
  | 1, _ => rfl
  | 2, _ => rfl
  | 3, _ => rfl
  | 4, _ => rfl
  | 5, _ => rfl
theorem out_step {o x : ByteArray} {gp : List UInt8} {R Z : List UInt8} (h : o.data.toList ++ (x.data.toList ++ (gp ++ R)) = Z) : (o ++ x ++ (⟨gp.toArray⟩ : ByteArray)).data.toList ++ R = Z := by
  rw [← h]; simp
theorem out_size (o x : ByteArray) (gp : List UInt8) : (o ++ x ++ (⟨gp.toArray⟩ : ByteArray)).size = o.size + x.size + gp.length := by
  rw [← len_of, ← len_of o, ← len_of x]; simp; omega
set_option maxRecDepth 100000 in
set_option maxHeartbeats 8000000 in
theorem spaced_any (s : ByteArray) (ao : Option Addr) (len cap0 : Nat) (zs : List Int) (w : World) (ht : Tab w) (hG : Byt w ao len zs) :
    Calls Tryd.prog 3 #[.string s, .slice ao len cap0] w fun e w' => e = .returned (.bool true) ∧ Below w.heap.size w w' := by
  have cW := works_any w ht
  by_cases h : s.size > 4194304
  · have h' : (s.size : Int) > 4194304 := by omega
    go_enter Tryd.func3, Tryd.ntmps3
    go_wp2_with fail
    refine cW.mono ?_
    rintro _ w1 ⟨rfl, b1⟩
    go_wp2_with fail
    go_ret
    exact ⟨rfl, b1⟩
  have h' : ¬ (s.size : Int) > 4194304 := by omega
  by_cases h2 : len > 4194304
  · have h2' : (len : Int) > 4194304 := by omega
    go_enter Tryd.func3, Tryd.ntmps3
    go_wp2_with fail
    refine cW.mono ?_
    rintro _ w1 ⟨rfl, b1⟩
    go_wp2_with fail
    go_ret
    exact ⟨rfl, b1⟩
  have h2' : ¬ (len : Int) > 4194304 := by omega
  have cA := tokensp_any s
  obtain ⟨E, eE⟩ : ∃ E, tksE s = E := ⟨_, rfl⟩
  rw [eE] at cA
  by_cases hE : E = 0
  · have hE' : (E != 0) = false := by simp [hE]
    have hs0 : tksE s = 0 := eE.trans hE
    obtain ⟨ll1, ll2, hss, hch⟩ := tks_len hs0
    have hcp := chain_p hch
    have hsp := fun (o : ByteArray) (ho : o.data.toList = outL (zp (tksL s) (gam zs len) 0)) (hl : o.size ≤ 4096) => spaced_all (γ := gam zs len) (fun j => gap_all _) hs0 ho hl
    obtain ⟨L, eL⟩ : ∃ L, tksL s = L := ⟨_, rfl⟩
    rw [eL] at ll1 ll2 hch cA hcp
    simp only [eL] at hsp
    subst hE
    go_enter Tryd.func3, Tryd.ntmps3
    go_wp2_with fail
    refine cW.mono ?_
    rintro _ w1 ⟨rfl, b1⟩
    have t1 := ht.on b1
    go_wp2_with fail
    refine (cA _ t1).mono ?_
    rintro _ w2 ⟨v2, rfl, r2⟩
    obtain ⟨g, cap, rfl, _, hg, hA⟩ := r2.lies ll1
    have HT2 := (t1.on r2.B).hid
    have hB2 := below2 b1 r2.B
    have HB2 : Hid (Below w.heap.size w w2) := hB2
    have HG : Hid (Byt w2 ao len zs) := hG.below hB2
    obtain ⟨n, en⟩ : ∃ n, L.length = n := ⟨_, rfl⟩
    rw [en] at hA ll1 ll2 ⊢
    have HA : Hid (∀ j, j < n → TkAt w2 g (j * 5) (lsF L j)) := fun j hj => by have := hA j hj; rwa [Nat.zero_add] at this
    have HL : Hid (L.length = n) := en
    have HX : Hid (∀ t ∈ L, t.x.size ≤ 4096) := fun t ht => by have := hcp t ht; omega
    have HSP : Hid (∀ (o : ByteArray), o.data.toList = outL (zp L (gam zs len) 0) → o.size ≤ 4096 → tksE o = 0 ∧ (tksL o).length = L.length ∧ ∀ j, j < L.length → sameB (lsF (tksL o) j) (lsF L j)) := hsp
    clear cW cA b1 t1 r2 hA en hch eL ht eE hs0 hcp hsp hG hB2
    go_wp2_with fail
    go_loopw [9, 10] (fun vo vi wr => ∃ (o : ByteArray) (i : Nat), i ≤ n ∧ vo = .string o ∧ vi = .int .i64 i ∧ o.size ≤ 20000 ∧ Below w2.heap.size w2 wr ∧ Hid (o.data.toList ++ outL (zp (L.drop i) (gam zs len) i) = outL (zp L (gam zs len) 0))) (fun _ vi _ => n - (intOf vi).toNat)
    case atStart => exact ⟨⟨#[]⟩, 0, by omega, rfl, rfl, by decide, Below.refl _ _, by show _ = _; rw [List.drop_zero]; rfl⟩
    case round =>
      obtain ⟨o, i, hi, rfl, rfl, hos, hbw, HR⟩ := hrel
      by_cases hlt : i < n
      · have hlt' : (i : Int) < (n : Int) := by omega
        by_cases ho : o.size ≤ 8192
        · have ho' : (o.size : Int) ≤ 8192 := by omega
          obtain ⟨X, eX⟩ : ∃ X, lsF L i = X := ⟨_, rfl⟩
          have hxs : X.x.size ≤ 4096 := by rw [← eX]; exact HX.out _ (lsF_mem (by rw [HL.out]; exact hlt))
          have HS : Hid (o.data.toList ++ (X.x.data.toList ++ (gam zs len i ++ outL (zp (L.drop (i + 1)) (gam zs len) (i + 1)))) = outL (zp L (gam zs len) 0)) := by
            have := HR.out
            rw [drop_lsF (by rw [HL.out]; exact hlt), zp, outL, eX] at this
            exact this
          by_cases hil : i < len
          · have hil' : (i : Int) < (len : Int) := by omega
            obtain ⟨b, off, rfl, hbs, hcell, hz0, hz1⟩ := HG.out i hil
            rw [gam_in hil] at HS
            obtain ⟨z, ez⟩ : ∃ z, zs.getD i 0 = z := ⟨_, rfl⟩
            rw [ez] at hcell hz0 hz1 HS
            obtain ⟨k, ek⟩ : ∃ k, z.toNat % 6 = k := ⟨_, rfl⟩
            rw [ek] at HS
            have hk6 : k < 6 := by omega
            have hkI : z % 6 = (k : Int) := by omega
            have hk6' : (k : Int) < 6 := by omega
            have hgl := gap_len k
            obtain ⟨V, eV⟩ : ∃ V, wr.alloc (.cells #[.string ⟨#[32]⟩, .string ⟨#[10]⟩, .string ⟨#[9, 13]⟩, .string ⟨#[32, 32]⟩, .string ⟨#[35, 32, 120, 32, 35, 10]⟩, .string ⟨#[35, 10, 10]⟩] 9) = V := ⟨_, rfl⟩
            have hVc : V.cell? ⟨wr.heap.size, k, none⟩ = some (.string ⟨(gapA k).toArray⟩) := by rw [← eV]; exact (cell_of (heap_new wr (.cells gapV 9)) k).trans (gapV_at k hk6)
            have hbV : Below w2.heap.size w2 V := by rw [← eV]; exact below2 hbw (below_new _ _)
            have hc2 : V.cell? ⟨b, off + i, none⟩ = some (.int .u8 z) := by rw [hbV.cell hbs]; exact hcell
            obtain ⟨x0, x1, x2, x3, x4⟩ := (HA.out i hlt).on (hbV.block g hg)
            rw [eX] at x1
            have hsz := out_size o X.x (gapA k)
            have HS2 := out_step HS.out
            obtain ⟨gp, egp⟩ : ∃ gp : ByteArray, (⟨(gapA k).toArray⟩ : ByteArray) = gp := ⟨_, rfl⟩
            rw [egp] at hVc hsz HS2
            have HS3 : Hid ((o ++ X.x ++ gp).data.toList ++ outL (zp (L.drop (i + 1)) (gam zs len) (i + 1)) = outL (zp L (gam zs len) 0)) := HS2
            have HbV : Hid (Below w2.heap.size w2 V) := hbV
            have hgps : gp.size ≤ 6 := by rw [← egp]; show (gapA k).toArray.size ≤ 6; simpa using hgl
            clear HS HS2 HR eX ez ek hbV hcell x0 x2 x3 x4 hbw egp
            go_wp2_with fail
            exact ⟨⟨_, i + 1, by omega, rfl, by go_num, by rw [hsz]; omega, HbV.out, HS3⟩, by simp only [intOf]; omega⟩
          · have hil' : ¬ (i : Int) < (len : Int) := by omega
            rw [gam_out hil] at HS
            obtain ⟨x0, x1, x2, x3, x4⟩ := (HA.out i hlt).on (hbw.block g hg)
            rw [eX] at x1
            have hsz := out_size o X.x [32]
            have HS2 := out_step HS.out
            have HS3 : Hid ((o ++ X.x ++ (⟨#[32]⟩ : ByteArray)).data.toList ++ outL (zp (L.drop (i + 1)) (gam zs len) (i + 1)) = outL (zp L (gam zs len) 0)) := HS2
            have Hbw : Hid (Below w2.heap.size w2 wr) := hbw
            have hsz' : (o ++ X.x ++ (⟨#[32]⟩ : ByteArray)).size = o.size + X.x.size + 1 := hsz
            clear HS HS2 HR eX x0 x2 x3 x4 hbw hsz
            go_wp2_with fail
            exact ⟨⟨_, i + 1, by omega, rfl, by go_num, by rw [hsz']; omega, Hbw.out, HS3⟩, by simp only [intOf]; omega⟩
        · have ho' : ¬ (o.size : Int) ≤ 8192 := by omega
          have ho2 : (o.size : Int) > 4096 := by omega
          clear HR
          go_wp2_with fail
          go_ret
          exact ⟨rfl, below2 HB2.out hbw⟩
      · have hn : ¬ (i : Int) < (n : Int) := by omega
        by_cases ho : o.size > 4096
        · have ho' : (o.size : Int) > 4096 := by omega
          clear HR
          go_wp2_with fail
          go_ret
          exact ⟨rfl, below2 HB2.out hbw⟩
        · have ho' : ¬ (o.size : Int) > 4096 := by omega
          have hin : i = n := by omega
          have hO : o.data.toList = outL (zp L (gam zs len) 0) := by
            have := HR.out
            rw [hin, List.drop_eq_nil_of_le (by rw [HL.out]; omega)] at this
            simpa [zp, outL] using this
          obtain ⟨k1, k2, k3⟩ := HSP.out o hO (by omega)
          rw [HL.out] at k2 k3
          have cO := tokensp_any o wr (HT2.out.on hbw)
          rw [k1] at cO
          clear HR hO k1 HSP
          go_wp2_with fail
          refine cO.mono ?_
          rintro _ w3 ⟨v3, rfl, r3⟩
          obtain ⟨g3, cap3, rfl, _, hg3, hA3⟩ := r3.lies (by omega)
          have hb3 : Below w2.heap.size w2 w3 := below2 hbw r3.B
          have HB3 : Hid (Below w.heap.size w w3) := below2 HB2.out hb3
          rw [k2] at hA3 ⊢
          have HM : Hid (∀ j, j < n → TkAt w3 g3 (j * 5) (lsF (tksL o) j)) := fun j hj => by have := hA3 j hj; rwa [Nat.zero_add] at this
          have HN : Hid (∀ j, j < n → TkAt w3 g (j * 5) (lsF L j)) := fun j hj => (HA.out j hj).on (hb3.block g hg)
          have HK : Hid (∀ j, j < n → sameB (lsF (tksL o) j) (lsF L j)) := k3
          have hg' : g < w3.heap.size := Nat.lt_of_lt_of_le hg hb3.size
          clear r3 hA3 hb3 hbw cO k2 k3 HA
          go_wp2_with fail
          go_loopw [15] (fun v wq => ∃ j : Nat, j ≤ n ∧ v = .int .i64 j ∧ Below w3.heap.size w3 wq) (fun v _ => n - (intOf v).toNat)
          case atStart => exact ⟨0, by omega, rfl, Below.refl _ _⟩
          case round =>
            obtain ⟨j, hj, rfl, hbq⟩ := hrel
            by_cases hjn : j < n
            · have hjn' : (j : Int) < (n : Int) := by omega
              obtain ⟨A, eA⟩ : ∃ A, lsF (tksL o) j = A := ⟨_, rfl⟩
              obtain ⟨B, eB⟩ : ∃ B, lsF L j = B := ⟨_, rfl⟩
              have hab := HK.out j hjn
              have xa := (HM.out j hjn).on (hbq.block g3 hg3)
              rw [eA] at xa hab
              rw [eB] at hab
              obtain ⟨s1, s2, s3, s4⟩ := hab
              obtain ⟨a0, a1, a2, a3, a4⟩ := xa
              rw [s1] at a0
              rw [s2] at a1
              rw [s3] at a2
              rw [s4] at a3
              obtain ⟨V, eV⟩ : ∃ V, wr.alloc (.cells #[.int .u8 B.k, .string B.x, .int .u8 B.ty, .int .i64 B.n, .int .i64 A.p] 32) = V := ⟨_, rfl⟩
              have hV : TkH V wr.heap.size ⟨B.k, B.x, B.ty, B.n, A.p⟩ := by rw [← eV]; exact heap_new _ _
              have hbV : Below w3.heap.size w3 V := by rw [← eV]; exact below2 hbq (below_new _ _)
              have hVs : V.heap.size = wr.heap.size + 1 := by rw [← eV]; exact size_alloc _ _
              obtain ⟨b0, b1, b2, b3, b4⟩ : TkAt V g (j * 5) B := by have := (HN.out j hjn).on (hbV.block g hg'); rwa [eB] at this
              obtain ⟨U, eU⟩ : ∃ U, V.alloc (.cells #[.int .u8 B.k, .string B.x, .int .u8 B.ty, .int .i64 B.n, .int .i64 B.p] 32) = U := ⟨_, rfl⟩
              have hU : TkH U wr.heap.size ⟨B.k, B.x, B.ty, B.n, A.p⟩ := by rw [← eU]; exact heap_old hV hV.lt
              have hU2 : TkH U (wr.heap.size + 1) B := by rw [← eU, ← hVs]; exact heap_new _ _
              have hbU : Below w3.heap.size w3 U := by rw [← eU]; exact below2 hbV (below_new _ _)
              obtain ⟨R, eR⟩ : ∃ R, U.setCell ⟨wr.heap.size, 4, none⟩ (.int .i64 0) = R := ⟨_, rfl⟩
              have hR : TkH R wr.heap.size ⟨B.k, B.x, B.ty, B.n, 0⟩ := by rw [← eR]; exact heap_set _ hU
              have hR2 : TkH R (wr.heap.size + 1) B := by rw [← eR]; exact (Below.heap_setCell _ _ _ _ (by simp)).trans hU2
              have hbR : Below w3.heap.size w3 R := by rw [← eR]; exact hbU.setCell (p := ⟨wr.heap.size, 4, none⟩) hbq.size _
              obtain ⟨S, eS⟩ : ∃ S, R.setCell ⟨wr.heap.size + 1, 4, none⟩ (.int .i64 0) = S := ⟨_, rfl⟩
              have hS : TkH S wr.heap.size ⟨B.k, B.x, B.ty, B.n, 0⟩ := by rw [← eS]; exact (Below.heap_setCell _ _ _ _ (by simp)).trans hR
              have hS2 : TkH S (wr.heap.size + 1) ⟨B.k, B.x, B.ty, B.n, 0⟩ := by rw [← eS]; exact heap_set _ hR2
              have HbS : Hid (Below w3.heap.size w3 S) := by rw [← eS]; exact hbR.setCell (p := ⟨wr.heap.size + 1, 4, none⟩) (by have := hbq.size; simp; omega) _
              obtain ⟨c0, c1, c2, c3, c4⟩ := hU.cells
              obtain ⟨d0, d1, d2, d3, d4⟩ := hU.froz
              obtain ⟨e0, e1, e2, e3, e4⟩ := hR2.cells
              obtain ⟨f0, f1, f2, f3, f4⟩ := hR2.froz
              obtain ⟨p0, p1, p2, p3, p4⟩ := hS.cells
              obtain ⟨q0, q1, q2, q3, q4⟩ := hS2.cells
              clear hV hbV hU hU2 hbU hR hR2 hbR hS hS2 s1 s2 s3 s4 eA eB hbq
              go_wp2_with fail
              exact ⟨⟨j + 1, by omega, by go_num, HbS.out⟩, by simp only [intOf]; omega⟩
            · have hn2 : ¬ (j : Int) < (n : Int) := by omega
              go_wp2_with fail
              go_ret
              exact ⟨rfl, below2 HB3.out hbq⟩
  · have hE' : (E != 0) = true := by simp [hE]
    have hL0 : tksL s = [] := by unfold tksL; rw [eE, if_neg hE]
    rw [hL0] at cA
    clear eE hE
    go_enter Tryd.func3, Tryd.ntmps3
    go_wp2_with fail
    refine cW.mono ?_
    rintro _ w1 ⟨rfl, b1⟩
    have t1 := ht.on b1
    go_wp2_with fail
    refine (cA _ t1).mono ?_
    rintro _ w2 ⟨v2, rfl, r2⟩
    have HB2 : Hid (Below w.heap.size w w2) := below2 b1 r2.B
    rcases r2.row.lies with ⟨rfl, _⟩ | ⟨g, cap, rfl, _⟩
    · clear b1 r2 t1
      go_wp2_with fail
      go_ret
      exact ⟨rfl, HB2.out⟩
    · clear b1 r2 t1
      go_wp2_with fail
      go_ret
      exact ⟨rfl, HB2.out⟩
theorem byt_of {w : World} {ao : Option Addr} {len cap : Nat} {zs : List Int}
    (h : (ao = none ∧ len = 0 ∧ cap = 0 ∧ zs = []) ∨ ∃ x, ao = some x ∧ len ≤ cap ∧ cap ≤ maxLen ∧ zs.length = cap ∧ (∀ i, i < zs.length → w.cell? (x.add i) = some (.int .u8 (zs.getD i 0))) ∧ ∀ n ∈ zs, (Lit.int .u8 n).wf = true) : Byt w ao len zs := by
  intro j hj
  rcases h with ⟨_, e, _⟩ | ⟨x, rfl, h1, _, h3, h4, h5⟩
  · omega
  · obtain ⟨b, off, rfl, hc⟩ := ints_at (zs := zs) h4 (by omega)
    have hm : zs.getD j 0 ∈ zs := by
      rw [List.getD_eq_getElem?_getD, List.getElem?_eq_getElem (by omega)]
      exact List.getElem_mem (by omega)
    have hb := h5 _ hm
    have hr := bounds_u8 hb
    exact ⟨b, off, rfl, World.block_lt_of_cell? w _ (hc j (by omega)), hc j (by omega), hr.1, hr.2⟩
end Go.Proofs.YtelanneckjgnbabDoor
