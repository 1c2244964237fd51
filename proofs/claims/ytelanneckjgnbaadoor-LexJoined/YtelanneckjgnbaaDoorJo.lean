/-
  The walk of LexJoined.
-/
import Derived.Test.YtelanneckjgnbaaDoorWk
import Derived.Test.YtelanneckjgnbaaDoorJp
namespace Go.Proofs.YtelanneckjgnbaaDoor
open Go.RowKit

theorem RL.at {W w : World} {v : Value} {L : List Tk} (h : RL W w v L) : ∃ ao cap, v = .slice ao L.length cap := by
  rcases h.row.lies with ⟨rfl, e⟩ | ⟨g, cap, rfl, _⟩
  · exact ⟨Option.none, 0, by rw [e]⟩
  · exact ⟨_, cap, rfl⟩
set_option maxRecDepth 100000 in
set_option maxHeartbeats 8000000 in
theorem joined_any (a b : ByteArray) (w : World) (ht : Tab w) :
    Calls Tryd.prog 8 #[.string a, .string b] w fun e w' => e = .returned (.bool true) ∧ Below w.heap.size w w' := by
  have cW := works_any w ht
  by_cases h : a.size + b.size > 4095
  · by_cases h1 : a.size > 4194304
    · have h1' : (a.size : Int) > 4194304 := by omega
      go_enter Tryd.func8, Tryd.ntmps8
      go_wp2_with fail
      refine cW.mono ?_
      rintro _ w1 ⟨rfl, b1⟩
      go_wp2_with fail
      go_ret
      exact ⟨rfl, b1⟩
    · have h1' : ¬ (a.size : Int) > 4194304 := by omega
      by_cases h2 : b.size > 4194304
      · have h2' : (b.size : Int) > 4194304 := by omega
        go_enter Tryd.func8, Tryd.ntmps8
        go_wp2_with fail
        refine cW.mono ?_
        rintro _ w1 ⟨rfl, b1⟩
        go_wp2_with fail
        go_ret
        exact ⟨rfl, b1⟩
      · have h2' : ¬ (b.size : Int) > 4194304 := by omega
        have h3' : (a.size : Int) + (b.size : Int) > 4095 := by omega
        go_enter Tryd.func8, Tryd.ntmps8
        go_wp2_with fail
        refine cW.mono ?_
        rintro _ w1 ⟨rfl, b1⟩
        go_wp2_with fail
        go_ret
        exact ⟨rfl, b1⟩
  · have h1' : ¬ (a.size : Int) > 4194304 := by omega
    have h2' : ¬ (b.size : Int) > 4194304 := by omega
    have h3' : ¬ (a.size : Int) + (b.size : Int) > 4095 := by omega
    obtain ⟨j1, j2, j3⟩ := jn_all (a := a) (b := b) (by omega)
    have cA := tokensp_any a
    have cB := tokensp_any b
    have cZ := tokensp_any (jn a b)
    unfold jn at cZ
    obtain ⟨E, eE⟩ : ∃ E, tksE a = E := ⟨_, rfl⟩
    obtain ⟨F, eF⟩ : ∃ F, tksE b = F := ⟨_, rfl⟩
    go_enter Tryd.func8, Tryd.ntmps8
    go_wp2_with fail
    refine cW.mono ?_
    rintro _ w1 ⟨rfl, b1⟩
    have t1 := ht.on b1
    go_wp2_with fail
    refine (cA _ t1).mono ?_
    rintro _ w2 ⟨v2, rfl, r2⟩
    have t2 := t1.on r2.B
    go_wp2_with fail
    refine (cB _ t2).mono ?_
    rintro _ w3 ⟨v3, rfl, r3⟩
    have t3 := t2.on r3.B
    go_wp2_with fail
    refine (cZ _ t3).mono ?_
    rintro _ w4 ⟨v4, rfl, r4⟩
    have hB4 : Below w.heap.size w w4 := below2 (below2 (below2 b1 r2.B) r3.B) r4.B
    have r2' : RL w1 w4 v2 (tksL a) := (r2.call r3.B).call r4.B
    have r3' : RL w2 w4 v3 (tksL b) := r3.call r4.B
    have HB4 : Hid (Below w.heap.size w w4) := hB4
    have j1' := j1
    unfold jn at j1 j2 j3
    clear cW cA cB cZ t1 t2 t3 b1 r2 r3 hB4 ht
    by_cases hE : E = 0
    · have hE' : (E != 0) = false := by simp [hE]
      by_cases hF : F = 0
      · have hF' : (F != 0) = false := by simp [hF]
        obtain ⟨g0, g1⟩ := j3 (eE.trans hE) (eF.trans hF)
        rw [g0]
        obtain ⟨lx1, lx2, _, chA⟩ := tks_len (eE.trans hE)
        obtain ⟨ly1, ly2, _, chB⟩ := tks_len (eF.trans hF)
        obtain ⟨A, eA⟩ : ∃ A, tksL a = A := ⟨_, rfl⟩
        obtain ⟨B, eB⟩ : ∃ B, tksL b = B := ⟨_, rfl⟩
        obtain ⟨Z, eZ⟩ : ∃ Z, tksL (a ++ (⟨#[10]⟩ : ByteArray) ++ b) = Z := ⟨_, rfl⟩
        rw [eA] at lx1 lx2 g1 r2' chA
        rw [eB] at ly1 ly2 g1 r3' chB
        rw [eZ] at g1
        rw [eZ] at r4
        have hzl : Z.length = A.length - 1 + B.length := by rw [g1]; simp
        obtain ⟨p2, c2, rfl, _, hp2, hA⟩ := r2'.lies lx1
        obtain ⟨p3, c3, rfl, _, hp3, hB⟩ := r3'.lies ly1
        obtain ⟨p4, c4, rfl, _, hp4, hZ⟩ := r4.lies (by omega)
        obtain ⟨nx, enx⟩ : ∃ nx, A.length = nx := ⟨_, rfl⟩
        obtain ⟨ny, eny⟩ : ∃ ny, B.length = ny := ⟨_, rfl⟩
        obtain ⟨nz, enz⟩ : ∃ nz, Z.length = nz := ⟨_, rfl⟩
        rw [enx] at hA lx1 lx2 hzl ⊢
        rw [eny] at hB ly1 ly2 hzl ⊢
        rw [enz] at hZ hzl ⊢
        have HA : Hid (∀ j, j < nx → TkAt w4 p2 (j * 5) (lsF A j)) := fun j hj => by have := hA j hj; rwa [Nat.zero_add] at this
        have HBB : Hid (∀ j, j < ny → TkAt w4 p3 (j * 5) (lsF B j)) := fun j hj => by have := hB j hj; rwa [Nat.zero_add] at this
        have HZ : Hid (∀ j, j < nz → TkAt w4 p4 (j * 5) (lsF Z j)) := fun j hj => by have := hZ j hj; rwa [Nat.zero_add] at this
        have HG : Hid (Z = A.dropLast ++ B.map (shf (a.size + 1))) := g1
        have HP : Hid (∀ t ∈ B, 0 ≤ t.p ∧ t.p + t.x.size ≤ b.size) := chain_p chB
        have HL : Hid (A.length = nx ∧ B.length = ny) := ⟨enx, eny⟩
        have hnx : ¬ (nx : Int) < 1 := by omega
        have HZL : Hid (nz = nx - 1 + ny) := hzl
        have hsum : (nx : Int) + (ny : Int) - 1 = (nz : Int) := by omega
        have q1 : (nx : Int) + (ny : Int) ≤ 9223372036854775807 := by omega
        clear j1 j1' j2 j3 g0 g1 r2' r3' r4 hA hB hZ chA chB eA eB eZ enx eny enz hzl
        go_wp2_with fail
        go_loopw [15] (fun v wr => ∃ i : Nat, i ≤ nz ∧ v = .int .i64 i ∧ Below w4.heap.size w4 wr) (fun v _ => nz - (intOf v).toNat)
        case atStart => exact ⟨0, by omega, rfl, Below.refl _ _⟩
        case round =>
          obtain ⟨i, hi, rfl, hbw⟩ := hrel
          by_cases hlt : i < nz
          · have hlt' : (i : Int) < (nz : Int) := by omega
            have x0 : TkAt wr p2 0 (lsF A 0) := (HA.out 0 lx1).on (hbw.block p2 hp2)
            have hzl := HZL.out
            have hMw : w4.heap.size ≤ wr.heap.size := hbw.size
            obtain ⟨X, eX⟩ : ∃ X, lsF A 0 = X := ⟨_, rfl⟩
            rw [eX] at x0
            obtain ⟨x00, x01, x02, x03, x04⟩ := x0
            obtain ⟨V, eV⟩ : ∃ V, wr.alloc (.cells #[.int .u8 X.k, .string X.x, .int .u8 X.ty, .int .i64 X.n, .int .i64 X.p] 49) = V := ⟨_, rfl⟩
            have hV : TkH V wr.heap.size X := by rw [← eV]; exact heap_new _ _
            have HbV : Hid (Below w4.heap.size w4 V) := by rw [← eV]; exact below2 hbw (below_new _ _)
            obtain ⟨m0, m1, m2, m3, m4⟩ := hV.cells
            obtain ⟨n0, n1, n2, n3, n4⟩ := hV.froz
            have hnx0 : (0 : Int) < (nx : Int) := by omega
            by_cases hc : i < nx - 1
            · have hc' : (i : Int) < (nx : Int) - 1 := by omega
              have hin : (i : Int) < (nx : Int) := by omega
              have hZi : lsF Z i = lsF A i := by
                rw [HG.out, lsF_app, if_pos (by rw [List.length_dropLast, HL.out.1]; exact hc), lsF_drop A i (by rw [HL.out.1]; exact hc)]
              obtain ⟨T, eT⟩ : ∃ T, lsF A i = T := ⟨_, rfl⟩
              have xi := (HA.out i (by omega)).on (HbV.out.block p2 hp2)
              rw [eT] at xi hZi
              obtain ⟨x10, x11, x12, x13, x14⟩ := xi
              obtain ⟨U, eU⟩ : ∃ U, ((((V.setCell ⟨wr.heap.size, 0, none⟩ (.int .u8 T.k)).setCell ⟨wr.heap.size, 1, none⟩ (.string T.x)).setCell ⟨wr.heap.size, 2, none⟩ (.int .u8 T.ty)).setCell ⟨wr.heap.size, 3, none⟩ (.int .i64 T.n)).setCell ⟨wr.heap.size, 4, none⟩ (.int .i64 T.p) = U := ⟨_, rfl⟩
              have hU : TkH U wr.heap.size T := by rw [← eU]; exact hV.put T
              have hbU : Below w4.heap.size w4 U := by rw [← eU]; exact below_put HbV.out hMw _ _ _ _ _
              have zi := (HZ.out i hlt).on (hbU.block p4 hp4)
              rw [hZi] at zi
              obtain ⟨z0, z1, z2, z3, z4⟩ := zi
              obtain ⟨u0, u1, u2, u3, u4⟩ := hU.cells
              clear hU hV hbw hZi eT eX hzl
              have HbU : Hid (Below w4.heap.size w4 U) := hbU
              clear hbU
              go_wp2_with fail
              clear eU eV
              go_quiet (fail)
              go_wp2_with fail
              exact ⟨⟨i + 1, by omega, by go_num, below_drew HbU.out _⟩, by simp only [intOf]; omega⟩
            · have hc' : ¬ (i : Int) < (nx : Int) - 1 := by omega
              obtain ⟨k, ek⟩ : ∃ k, k = i - (nx - 1) := ⟨_, rfl⟩
              have hkI : (i : Int) - (nx : Int) + 1 = (k : Int) := by omega
              have hky : k < ny := by omega
              have hkyI : (k : Int) < (ny : Int) := by omega
              obtain ⟨Y, eY⟩ : ∃ Y, lsF B k = Y := ⟨_, rfl⟩
              have hZi : lsF Z i = shf (a.size + 1) Y := by
                rw [HG.out, lsF_app, if_neg (by rw [List.length_dropLast, HL.out.1]; exact hc), List.length_dropLast, HL.out.1, ← ek, lsF_map _ B k (by rw [HL.out.2]; exact hky), eY]
              have hpY := HP.out (lsF B k) (lsF_mem (by rw [HL.out.2]; exact hky))
              rw [eY] at hpY
              have yk := (HBB.out k hky).on (HbV.out.block p3 hp3)
              rw [eY] at yk
              obtain ⟨x10, x11, x12, x13, x14⟩ := yk
              obtain ⟨U, eU⟩ : ∃ U, ((((V.setCell ⟨wr.heap.size, 0, none⟩ (.int .u8 Y.k)).setCell ⟨wr.heap.size, 1, none⟩ (.string Y.x)).setCell ⟨wr.heap.size, 2, none⟩ (.int .u8 Y.ty)).setCell ⟨wr.heap.size, 3, none⟩ (.int .i64 Y.n)).setCell ⟨wr.heap.size, 4, none⟩ (.int .i64 Y.p) = U := ⟨_, rfl⟩
              have hU : TkH U wr.heap.size Y := by rw [← eU]; exact hV.put Y
              have hbU : Below w4.heap.size w4 U := by rw [← eU]; exact below_put HbV.out hMw _ _ _ _ _
              obtain ⟨q, eq⟩ : ∃ q : Int, Y.p + (a.size : Int) + 1 = q := ⟨_, rfl⟩
              obtain ⟨R, eR⟩ : ∃ R, U.setCell ⟨wr.heap.size, 4, none⟩ (.int .i64 q) = R := ⟨_, rfl⟩
              have hR : TkH R wr.heap.size ⟨Y.k, Y.x, Y.ty, Y.n, q⟩ := by rw [← eR]; exact heap_set _ hU
              have hbR : Below w4.heap.size w4 R := by rw [← eR]; exact hbU.setCell (p := ⟨wr.heap.size, 4, none⟩) hMw _
              have zi := (HZ.out i hlt).on (hbR.block p4 hp4)
              have hq : Y.p + ((a.size + 1 : Nat) : Int) = q := by omega
              rw [hZi, show shf (a.size + 1) Y = ⟨Y.k, Y.x, Y.ty, Y.n, q⟩ by unfold shf; rw [hq]] at zi
              obtain ⟨z0, z1, z2, z3, z4⟩ := zi
              obtain ⟨u0, u1, u2, u3, u4⟩ := hU.cells
              obtain ⟨v0, v1, v2, v3, v4⟩ := hU.froz
              obtain ⟨t0, t1, t2, t3, t4⟩ := hR.cells
              have HbR : Hid (Below w4.heap.size w4 R) := hbR
              have s1 : -9223372036854775808 ≤ Y.p + (a.size : Int) := by omega
              have s2 : Y.p + (a.size : Int) ≤ 9223372036854775807 := by omega
              have s3 : -9223372036854775808 ≤ q := by omega
              have s4 : q ≤ 9223372036854775807 := by omega
              have s5 : -9223372036854775808 ≤ (i : Int) - (nx : Int) := by omega
              have s6 : (i : Int) - (nx : Int) ≤ 9223372036854775807 := by omega
              clear hU hV hbw hZi eY eX hzl hbU hbR hR hq hpY ek
              go_wp2_with fail
              clear eU eV eR
              go_quiet (fail)
              go_wp2_with fail
              exact ⟨⟨i + 1, by omega, by go_num, below_drew HbR.out _⟩, by simp only [intOf]; omega⟩
          · have hn : ¬ (i : Int) < (nz : Int) := by omega
            go_wp2_with fail
            go_ret
            exact ⟨rfl, below2 HB4.out hbw⟩
      · have hF' : (F != 0) = true := by simp [hF]
        obtain ⟨g0, g1⟩ := j2 (eE.trans hE) (by rw [eF]; exact hF)
        rw [eF] at g0
        rw [g0, g1]
        have hp := tksB_le b
        obtain ⟨G, eG⟩ : ∃ G, tksB b = G := ⟨_, rfl⟩
        rw [eG] at hp ⊢
        have hG : G + ((a.size + 1 : Nat) : Int) = G + (a.size : Int) + 1 := by omega
        rw [hG]
        have k1 : -9223372036854775808 ≤ G + (a.size : Int) := by omega
        have k2 : G + (a.size : Int) ≤ 9223372036854775807 := by omega
        have k3 : -9223372036854775808 ≤ G + (a.size : Int) + 1 := by omega
        have k4 : G + (a.size : Int) + 1 ≤ 9223372036854775807 := by omega
        clear j1 j1' j2 j3 g0 g1 hG eG r2' r3' r4
        go_wp2_with fail
        go_ret
        exact ⟨rfl, HB4.out⟩
    · have hE' : (E != 0) = true := by simp [hE]
      have g0 := j1 (by rw [eE]; exact hE)
      rw [eE] at g0
      rw [g0]
      clear j1 j1' j2 j3 g0 r2' r3' r4
      go_wp2_with fail
      go_ret
      exact ⟨rfl, HB4.out⟩
end Go.Proofs.YtelanneckjgnbaaDoor
