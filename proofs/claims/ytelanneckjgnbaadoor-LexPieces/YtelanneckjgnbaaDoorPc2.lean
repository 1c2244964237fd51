/-
  The walk of LexPieces.
-/
import Derived.Test.YtelanneckjgnbaaDoorWk
import Derived.Test.YtelanneckjgnbaaDoorPp
import Derived.Test.YtelanneckjgnbaaDoorFr
namespace Go.Proofs.YtelanneckjgnbaaDoor
open Go.RowKit

set_option maxRecDepth 100000 in
set_option maxHeartbeats 8000000 in
theorem pieces_any (s : ByteArray) (w : World) (ht : Tab w) :
    Calls Tryd.prog 7 #[.string s] w fun e w' => e = .returned (.bool true) ∧ Below w.heap.size w w' := by
  have cW := works_any w ht
  by_cases h : s.size > 4194304
  · have h' : (s.size : Int) > 4194304 := by omega
    go_enter Tryd.func7, Tryd.ntmps7
    go_wp2_with fail
    refine cW.mono ?_
    rintro _ w1 ⟨rfl, b1⟩
    go_wp2_with fail
    go_ret
    exact ⟨rfl, b1⟩
  · have h' : ¬ (s.size : Int) > 4194304 := by omega
    have cA := tokensp_any s
    obtain ⟨E, eE⟩ : ∃ E, tksE s = E := ⟨_, rfl⟩
    rw [eE] at cA
    by_cases hE : E = 0
    · have hE' : (E != 0) = false := by simp [hE]
      obtain ⟨ll1, ll2, hss, hch⟩ := tks_len (eE.trans hE)
      obtain ⟨L, eL⟩ : ∃ L, tksL s = L := ⟨_, rfl⟩
      rw [eL] at ll1 ll2 hch cA
      subst hE
      go_enter Tryd.func7, Tryd.ntmps7
      go_wp2_with fail
      refine cW.mono ?_
      rintro _ w1 ⟨rfl, b1⟩
      have t1 := ht.on b1
      go_wp2_with fail
      refine (cA _ t1).mono ?_
      rintro _ w2 ⟨v2, rfl, r2⟩
      obtain ⟨g, cap, rfl, _, hg, hA⟩ := r2.lies ll1
      have HT2 := (t1.on r2.B).hid
      have HB2 : Hid (Below w.heap.size w w2) := below2 b1 r2.B
      obtain ⟨n, en⟩ : ∃ n, L.length = n := ⟨_, rfl⟩
      rw [en] at hA ll1 ll2 ⊢
      have HA : Hid (∀ j, j < n → TkAt w2 g (j * 5) (lsF L j)) := fun j hj => by have := hA j hj; rwa [Nat.zero_add] at this
      have HL : Hid (L.length = n) := en
      have HC : Hid (Chain s 0 (L.drop 0)) := by rw [List.drop_zero]; exact hch
      clear cW cA b1 t1 r2 hA en hch eL ht eE
      go_wp2_with fail
      go_loopw [7, 8] (fun va vi wr => ∃ (f i : Nat), i ≤ n ∧ va = .int .i64 f ∧ vi = .int .i64 i ∧ f ≤ s.size ∧ Below w2.heap.size w2 wr ∧ Hid ((i < n → Chain s f (L.drop i)) ∧ (i = n → f = s.size))) (fun _ vi _ => n - (intOf vi).toNat)
      case atStart => exact ⟨0, 0, by omega, rfl, rfl, by omega, Below.refl _ _, ⟨fun _ => HC.out, fun e => absurd e (by omega)⟩⟩
      case round =>
        obtain ⟨f, i, hi, rfl, rfl, hfs, hbw, HR⟩ := hrel
        clear HC
        by_cases hlt : i < n
        · have hlt' : (i : Int) < (n : Int) := by omega
          obtain ⟨_, p, c1, c2, c3, c4, c5, c6⟩ := chain_at (HR.out.1 hlt) (by rw [HL.out]; exact hlt)
          rw [HL.out] at c6
          have xi := (HA.out i hlt).on (hbw.block g hg)
          have hMw : w2.heap.size ≤ wr.heap.size := hbw.size
          obtain ⟨X, eX⟩ : ∃ X, lsF L i = X := ⟨_, rfl⟩
          rw [eX] at xi c1 c3 c4 c6
          obtain ⟨x00, x01, x02, x03, x04⟩ := xi
          rw [c1] at x04
          obtain ⟨V, eV⟩ : ∃ V, wr.alloc (.cells #[.int .u8 X.k, .string X.x, .int .u8 X.ty, .int .i64 X.n, .int .i64 (p : Int)] 49) = V := ⟨_, rfl⟩
          have hV : TkH V wr.heap.size ⟨X.k, X.x, X.ty, X.n, (p : Int)⟩ := by rw [← eV]; exact heap_new _ _
          have HV := hV.hid
          have HbV : Hid (Below w2.heap.size w2 V) := by rw [← eV]; exact below2 hbw (below_new _ _)
          obtain ⟨d, ed⟩ : ∃ d, p + X.x.size = d := ⟨_, rfl⟩
          rw [ed] at c3 c4 c6
          have hdI : (p : Int) + (X.x.size : Int) = (d : Int) := by omega
          have hpd : p ≤ d := by omega
          have cF := free_any (s.extract f p) (by rw [ext_size s f p (by omega)]; omega) c5
          obtain ⟨y, ey⟩ : ∃ y, s.extract f p = y := ⟨_, rfl⟩
          rw [ey] at cF
          have hps : p ≤ s.size := by omega
          rcases c6 with ⟨e1, e2, e3⟩ | ⟨e1, e2, e3⟩
          · have hX : X.k = 0 ∧ X.x = ⟨#[]⟩ ∧ X.ty = 0 ∧ X.n = 0 := by rw [e2]; exact ⟨rfl, rfl, rfl, rfl⟩
            obtain ⟨k1, k2, k3, k4⟩ := hX
            have hx0 : X.x.size = 0 := by rw [k2]; rfl
            have hdp : d = p := by omega
            subst hdp
            have hn1 : ((i : Int) == (n : Int) - 1) = true := by rw [show (i : Int) = (n : Int) - 1 by omega]; simp
            have lt1 : ¬ (i : Int) < (n : Int) - 1 := by omega
            have lt1b : decide ((i : Int) < (n : Int) - 1) = false := decide_eq_false lt1
            have cT := tokensp_any ⟨#[]⟩
            rw [tks_none.1, tks_none.2] at cT
            have g1 : ¬ (d : Int) < (f : Int) := by omega
            have g2 : ¬ (d : Int) > (s.size : Int) := by omega
            have g1b : decide (d < f) = false := decide_eq_false (by omega)
            have g2b : decide (s.size < d) = false := decide_eq_false (by omega)
            rw [k1] at x00
            rw [k2] at x01 c4
            rw [k3] at x02
            rw [k4] at x03
            rw [k1, k2, k3, k4] at eV hV HV
            obtain ⟨m0, m1, m2, m3, m4⟩ := hV.cells
            obtain ⟨n0, n1, n2, n3, n4⟩ := hV.froz
            have E3 : Hid (d = s.size) := e3
            have E1 : Hid (i + 1 = n) := e1
            clear HR c5 e1 e2 e3 eX c1 hV hbw ed hdI k1 k2 k3 k4 hx0
            go_wp2_with fail
            clear eV
            go_quiet (fail)
            go_wp2_with (go_at_call 29; refine (cF _).mono ?_; rintro _ vv ⟨rfl, q⟩; obtain rfl := q.symm)
            have hV2 : TkH (V.drewN nq) wr.heap.size ⟨0, ⟨#[]⟩, 0, 0, (d : Int)⟩ := HV.out
            have hbV2 : Below w2.heap.size w2 (V.drewN nq) := below_drew HbV.out nq
            refine (cT _ (HT2.out.on hbV2)).mono ?_
            rintro _ w3 ⟨v3, rfl, r3⟩
            obtain ⟨g3, cap3, rfl, hg3, hg3', hA3⟩ := r3.lies (by simp)
            have hV3 := hV2.onto r3.B
            have hb3 : Below w2.heap.size w2 w3 := below2 hbV2 r3.B
            obtain ⟨U, eU⟩ : ∃ U, w3.setCell ⟨wr.heap.size, 4, none⟩ (.int .i64 0) = U := ⟨_, rfl⟩
            have HbU : Hid (Below w2.heap.size w2 U) := by rw [← eU]; exact hb3.setCell (p := ⟨wr.heap.size, 4, none⟩) hMw _
            obtain ⟨o0, o1, o2, o3, o4⟩ := hV3.cells
            obtain ⟨l0, l1, l2, l3, l4⟩ := hV3.froz
            clear r3 hA3 hb3 hbV2 hV2 cT cF hV3 hg3 hg3' m0 m1 m2 m3 m4 n0 n1 n2 n3 n4 x00 x01 x02 x03 x04
            simp only [List.length_cons, List.length_nil]
            go_wp2_with fail
            clear eU
            go_quiet (fail)
            go_wp2_with fail
            exact ⟨⟨d, i + 1, by omega, rfl, by go_num, by omega, below_drew HbU.out _, ⟨fun e => absurd E1.out (by omega), fun _ => E3.out⟩⟩, by simp only [intOf]; omega⟩
          · have ne1 : ((i : Int) == (n : Int) - 1) = false := beq_false_of_ne (by omega)
            have ne2 : (X.k == 0) = false := beq_false_of_ne e2.kk
            have ne3 := size_seq e2.ne
            have lt1 : (i : Int) < (n : Int) - 1 := by omega
            obtain ⟨a1, a2⟩ := tks_alone e2 (by omega)
            have cT := tokensp_any X.x
            rw [a1, a2] at cT
            have g1 : ¬ (p : Int) < (f : Int) := by omega
            have g2 : ¬ (d : Int) > (s.size : Int) := by omega
            have g1b : decide (p < f) = false := decide_eq_false (by omega)
            have g2b : decide (s.size < d) = false := decide_eq_false (by omega)
            obtain ⟨m0, m1, m2, m3, m4⟩ := hV.cells
            obtain ⟨n0, n1, n2, n3, n4⟩ := hV.froz
            have HCH : Hid (Chain s d (L.drop (i + 1))) := e3
            clear HR c5 e2 e3 eX c1 hV hbw ed a1 a2
            go_wp2_with fail
            clear eV
            go_quiet (fail)
            go_wp2_with (go_at_call 29; refine (cF _).mono ?_; rintro _ vv ⟨rfl, q⟩; obtain rfl := q.symm)
            have hV2 : TkH (V.drewN nq) wr.heap.size ⟨X.k, X.x, X.ty, X.n, (p : Int)⟩ := HV.out
            have hbV2 : Below w2.heap.size w2 (V.drewN nq) := below_drew HbV.out nq
            refine (cT _ (HT2.out.on hbV2)).mono ?_
            rintro _ w3 ⟨v3, rfl, r3⟩
            obtain ⟨g3, cap3, rfl, hg3, hg3', hA3⟩ := r3.lies (by simp)
            have hV3 := hV2.onto r3.B
            have hb3 : Below w2.heap.size w2 w3 := below2 hbV2 r3.B
            have hgM : g3 ≠ wr.heap.size := by have := hV2.lt; omega
            obtain ⟨U, eU⟩ : ∃ U, w3.setCell ⟨wr.heap.size, 4, none⟩ (.int .i64 0) = U := ⟨_, rfl⟩
            have hU : TkH U wr.heap.size ⟨X.k, X.x, X.ty, X.n, 0⟩ := by rw [← eU]; exact heap_set _ hV3
            have HbU : Hid (Below w2.heap.size w2 U) := by rw [← eU]; exact hb3.setCell (p := ⟨wr.heap.size, 4, none⟩) hMw _
            have z := (hA3 0 (by simp)).on (show U.heap[g3]? = w3.heap[g3]? by rw [← eU]; exact Below.heap_setCell _ _ _ _ (by simpa using hgM))
            obtain ⟨z0, z1, z2, z3, z4⟩ : TkAt U g3 0 ⟨X.k, X.x, X.ty, X.n, 0⟩ := z
            obtain ⟨u0, u1, u2, u3, u4⟩ := hU.cells
            obtain ⟨o0, o1, o2, o3, o4⟩ := hV3.cells
            obtain ⟨l0, l1, l2, l3, l4⟩ := hV3.froz
            clear r3 hA3 hb3 hbV2 hV2 cT cF hU hV3 hg3 hg3' m0 m1 m2 m3 m4 n0 n1 n2 n3 n4 x00 x01 x02 x03 x04
            simp only [List.length_cons, List.length_nil]
            go_wp2_with fail
            clear eU
            go_quiet (fail)
            go_wp2_with fail
            exact ⟨⟨d, i + 1, by omega, rfl, by go_num, by omega, below_drew HbU.out _, ⟨fun _ => HCH.out, fun e => by omega⟩⟩, by simp only [intOf]; omega⟩
        · have hn : ¬ (i : Int) < (n : Int) := by omega
          have hfe := HR.out.2 (by omega)
          have hfe' : ((f : Int) == (s.size : Int)) = true := by rw [hfe]; simp
          have hn0 : (0 : Int) < (n : Int) := by omega
          clear HR hfe
          go_wp2_with fail
          go_ret
          exact ⟨rfl, below2 HB2.out hbw⟩
    · have hE' : (E != 0) = true := by simp [hE]
      have hL0 : tksL s = [] := by unfold tksL; rw [eE, if_neg hE]
      rw [hL0] at cA
      clear eE hE
      go_enter Tryd.func7, Tryd.ntmps7
      go_wp2_with fail
      refine cW.mono ?_
      rintro _ w1 ⟨rfl, b1⟩
      have t1 := ht.on b1
      go_wp2_with fail
      refine (cA _ t1).mono ?_
      rintro _ w2 ⟨v2, rfl, r2⟩
      have HB2 : Hid (Below w.heap.size w w2) := below2 b1 r2.B
      rcases r2.row.lies with ⟨rfl, _⟩ | ⟨g, cap, rfl, _⟩
      · clear b1 r2 t1
        go_wp2_with fail
        go_ret
        exact ⟨rfl, HB2.out⟩
      · clear b1 r2 t1
        go_wp2_with fail
        go_ret
        exact ⟨rfl, HB2.out⟩
end Go.Proofs.YtelanneckjgnbaaDoor
