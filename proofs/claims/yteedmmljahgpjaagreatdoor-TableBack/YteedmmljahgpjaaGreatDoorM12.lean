import Derived.Test.YteedmmljahgpjaaGreatDoorM11
/-
  Do a span's heights fit; what is wrong with a span?
-/
namespace Go.Proofs.YteedmmljahgpjaaGreatDoor
open Go.RowKit
set_option linter.unusedVariables false
set_option linter.unusedSimpArgs false
structure Cx (w0 : World) (C : Nat) (t : TbM) (w : World) (h : Nat → Int) : Prop where
  T : TbL w0 t
  B : Below w0.heap.size w0 w
  G : w0.heap.size ≤ C
  K : CkAt w C t h
  O : HOk h
theorem Cx.below {w0 w w' : World} {C : Nat} {t : TbM} {h : Nat → Int} (c : Cx w0 C t w h) (m : Mv w w' (fun k => k = C)) : Below w0.heap.size w0 w' := c.B.trans (m.below c.B.size (by rintro _ rfl; exact c.G))
theorem Cx.mv {w0 w w' : World} {C : Nat} {t : TbM} {h h' : Nat → Int} (c : Cx w0 C t w h) (m : Mv w w' (fun k => k = C)) (k : CkAt w' C t h') (o : HOk h') : Cx w0 C t w' h' := ⟨c.T, c.below m, c.G, k, o⟩
theorem Cx.on {w0 w w' : World} {C : Nat} {t : TbM} {h : Nat → Int} (c : Cx w0 C t w h) (b : Below w.heap.size w w') : Cx w0 C t w' h := ⟨c.T, below2 c.B b, c.G, c.K.on b, c.O⟩
theorem Cx.tb {w0 w : World} {C : Nat} {t : TbM} {h : Nat → Int} (c : Cx w0 C t w h) : TbL w t := c.T.on c.B
def fitsL (ds : List InM) : Nat → Nat → (Nat → Int) → Bool × (Nat → Int)
  | 0, a, h => (h a == 2, h)
  | n + 1, a, h => if h a == 0 then (false, h) else if (goF h (ds.getD a ⟨0, 0⟩) a (h a - 1)).1 then fitsL ds n (a + 1) (goF h (ds.getD a ⟨0, 0⟩) a (h a - 1)).2 else (false, (goF h (ds.getD a ⟨0, 0⟩) a (h a - 1)).2)
theorem fitsL_ok (ds : List InM) : ∀ (n a : Nat) (h : Nat → Int), HOk h → HOk (fitsL ds n a h).2
  | 0, a, h, k => k
  | n + 1, a, h, k => by
    unfold fitsL
    split
    · exact k
    · split
      · exact fitsL_ok ds n (a + 1) _ (goF_ok k _ _ _)
      · exact goF_ok k _ _ _
theorem upd_ok {h : Nat → Int} (k : HOk h) (a : Nat) : HOk (upd h a 1) := by
  intro j
  unfold upd
  split
  · omega
  · exact k j
theorem stand_ok {t : TbM} {d : InM} {a b : Int} (h : standB t d a b = true) (hb : b ≤ 4096) : (d.k = 5 → 1 ≤ d.a ∧ d.a ≤ 16) ∧ (6 ≤ d.k → d.k ≤ 9 → a + 1 ≤ d.a ∧ d.a ≤ 4096) := by
  unfold standB withinB at h
  constructor
  · intro e
    rw [e] at h
    simpa using h
  · intro h6 h9
    obtain e | e | e | e : d.k = 6 ∨ d.k = 7 ∨ d.k = 8 ∨ d.k = 9 := by omega
    all_goals
      rw [e] at h
      simp at h
      omega
set_option maxRecDepth 100000 in
set_option maxHeartbeats 4000000 in
theorem fits_any (C : Nat) (t : TbM) (h : Nat → Int) (f b : Nat) (w : World) (w0 : World) (hc : Cx w0 C t w h) (hfb : f < b) (hbd : b ≤ t.ds.length) (hd : t.ds.length ≤ 4096) (hst : ∀ a : Nat, f ≤ a → a < b → standB t (t.ds.getD a ⟨0, 0⟩) a b = true) : Calls Tryz.prog 128 #[.pointer (some ⟨C, 0, none⟩), .agg (Sp.vals ⟨f, b⟩)] w fun e w' => e = .returned (.bool (fitsL t.ds (b - f) f (upd h f 1)).1) ∧ Mv w w' (fun k => k = C) ∧ CkAt w' C t (fitsL t.ds (b - f) f (upd h f 1)).2 := by
  have hb1 := below_new w (.cells (Sp.vals ⟨f, b⟩) 65)
  have hn1 := heap_new w (.cells (Sp.vals ⟨f, b⟩) 65)
  obtain ⟨W1, e1⟩ : ∃ W, w.alloc (.cells (Sp.vals ⟨f, b⟩) 65) = W := ⟨_, rfl⟩
  have E1 : Hid (w.alloc (.cells (Sp.vals ⟨f, b⟩) 65) = W1) := e1
  rw [e1] at hb1 hn1
  have HB1 : Hid (Below w.heap.size w W1) := hb1
  have c0 : W1.cell? ⟨w.heap.size, 0, none⟩ = some (.int .i64 f) := cell_of hn1 0
  have c1 : W1.cell? ⟨w.heap.size, 1, none⟩ = some (.int .i64 b) := cell_of hn1 1
  have HN1 : Hid (W1.heap[w.heap.size]? = some (.cells (Sp.vals ⟨f, b⟩) 65 (0, 0))) := hn1
  have HS1 : Hid (W1.heap.size = w.heap.size + 1) := by show _ = _; rw [← e1]; exact size_alloc _ _
  clear hb1 e1 hn1
  obtain ⟨R, eR⟩ : ∃ R, fitsL t.ds (b - f) f (upd h f 1) = R := ⟨_, rfl⟩
  rw [eR]
  have HR : Hid (R = fitsL t.ds (b - f) f (upd h f 1)) := eR.symm
  have HOK : Hid (∀ a : Nat, f ≤ a → a < b → standB t (t.ds.getD a ⟨0, 0⟩) a b = true) := hst
  have HCX : Hid (Cx w0 C t w h) := hc
  have hk := hc.K
  have hh := hc.O
  have HH : Hid (HOk (upd h f 1)) := upd_ok hh f
  have hf1 : (f : Int) < 4097 := by omega
  have hb1 : (b : Int) < 4097 := by omega
  have hk1 := hk.on HB1.out
  have ca := hk1.H f (by omega)
  have fa := hk1.F (6 + f)
  have HCL : Hid (C < w.heap.size) := hk.L
  have HKS : Hid (CkAt (W1.setCell ⟨C, 6 + f, none⟩ (.int .u8 1)).drew C t (upd h f 1)) := (hk1.set f (by omega) 1).on (w' := (W1.setCell ⟨C, 6 + f, none⟩ (.int .u8 1)).drew) ⟨rfl, rfl, rfl, Nat.le_refl _, fun _ _ => rfl⟩
  have HMS : Hid (Mv w (W1.setCell ⟨C, 6 + f, none⟩ (.int .u8 1)).drew (fun k => k = C)) := ((Mv.ofBelow (F := fun k => k = C) HB1.out).setCell (a := ⟨C, 6 + f, none⟩) (.inl rfl) _).drew
  have HNS : Hid ((W1.setCell ⟨C, 6 + f, none⟩ (.int .u8 1)).drew.heap[w.heap.size]? = some (.cells (Sp.vals ⟨f, b⟩) 65 (0, 0))) := (heap_setCell_other _ _ _ _ (by show w.heap.size ≠ C; have := HCL.out; omega)).trans HN1.out
  clear eR hst hk hk1 hh hc
  go_enter Tryz.func128, Tryz.ntmps128
  go_upto_region 1 with fail
  rw [E1.out]
  clear E1
  go_region
  generalize (W1.setCell ⟨C, 6 + f, none⟩ (.int .u8 1)).drew = U at HKS HMS HNS ⊢
  have x0 : U.cell? ⟨w.heap.size, 0, none⟩ = some (.int .i64 f) := cell_of HNS.out 0
  clear c0 c1 ca fa HB1 HN1 HS1
  go_wp2_with fail
  go_loopw [5] (fun q wr => ∃ (a : Nat) (g : Nat → Int), f ≤ a ∧ a ≤ b ∧ q = .int .i64 a ∧ Hid (CkAt wr C t g) ∧ Hid (HOk g) ∧ Hid (Mv w wr (fun k => k = C)) ∧ Hid (wr.heap[w.heap.size]? = some (.cells (Sp.vals ⟨f, b⟩) 65 (0, 0))) ∧ Hid (R = fitsL t.ds (b - a) a g)) (fun q _ => b - (intOf q).toNat)
  case atStart => exact ⟨f, _, by omega, by omega, rfl, HKS, HH, HMS, HNS, HR⟩
  case round =>
    obtain ⟨a, g, hfa, hab, rfl, HKR, HHR, HMR, HNR, HRR⟩ := hrel
    have y1 : wr.cell? ⟨w.heap.size, 1, none⟩ = some (.int .i64 b) := cell_of HNR.out 1
    have ya := HKR.out.H a (by omega)
    have hy := HHR.out a
    have ha1 : (a : Int) < 4097 := by omega
    by_cases hlt : a < b
    · have hlt' : (a : Int) < (b : Int) := by omega
      obtain ⟨n, en⟩ : ∃ n, b - a = n + 1 := ⟨b - a - 1, by omega⟩
      have HD : Hid (R = if g a == 0 then (false, g) else if (goF g (t.ds.getD a ⟨0, 0⟩) a (g a - 1)).1 then fitsL t.ds (b - (a + 1)) (a + 1) (goF g (t.ds.getD a ⟨0, 0⟩) a (g a - 1)).2 else (false, (goF g (t.ds.getD a ⟨0, 0⟩) a (g a - 1)).2)) := by show _ = _; rw [HRR.out, en, show b - (a + 1) = n by omega]; rfl
      have cG := goOn_any C t g a (g a - 1) wr HKR.out (HCX.out.T.on (HCX.out.below HMR.out)) hd (by omega) (by omega) (stand_ok (HOK.out a hfa hlt) (by omega))
      have HGO : Hid (HOk (goF g (t.ds.getD a ⟨0, 0⟩) a (g a - 1)).2) := goF_ok HHR.out _ _ _
      obtain ⟨S, eS⟩ : ∃ S, goF g (t.ds.getD a ⟨0, 0⟩) a (g a - 1) = S := ⟨_, rfl⟩
      rw [eS] at HD cG HGO
      obtain ⟨y, ey⟩ : ∃ y, g a = y := ⟨_, rfl⟩
      rw [ey] at HD cG ya hy
      clear eS en HRR ey
      cases hz : (y == 0) with
      | true =>
        have HX : Hid (R = (false, g)) := by show _ = _; rw [HD.out, if_pos hz]
        go_wp2_with fail
        go_ret
        exact ⟨by rw [HX.out]; rfl, HMR.out, by rw [HX.out]; exact HKR.out⟩
      | false =>
        cases hS : S.1 with
        | false =>
          have HX : Hid (R = (false, S.2)) := by show _ = _; rw [HD.out, if_neg (by simp [hz]), if_neg (by simp [hS])]
          rw [hS] at cG
          go_wp2_with fail
          refine cG.mono ?_
          rintro e w5 ⟨rfl, hm5, hk5⟩
          have HM5 : Hid (Mv w w5 (fun k => k = C)) := HMR.out.trans hm5 (fun _ e => .inl e)
          have HK5 : Hid (CkAt w5 C t S.2) := hk5
          clear cG hm5 hk5
          go_wp2_with fail
          go_ret
          exact ⟨by rw [HX.out]; rfl, HM5.out, by rw [HX.out]; exact HK5.out⟩
        | true =>
          have HX : Hid (R = fitsL t.ds (b - (a + 1)) (a + 1) S.2) := by show _ = _; rw [HD.out, if_neg (by simp [hz]), if_pos hS]
          rw [hS] at cG
          go_wp2_with fail
          refine cG.mono ?_
          rintro e w5 ⟨rfl, hm5, hk5⟩
          have HM5 : Hid (Mv w w5 (fun k => k = C)) := HMR.out.trans hm5 (fun _ e => .inl e)
          have HK5 : Hid (CkAt w5 C t S.2) := hk5
          have HN5 : Hid (w5.heap[w.heap.size]? = some (.cells (Sp.vals ⟨f, b⟩) 65 (0, 0))) := (hm5.block _ (Array.getElem?_eq_some_iff.1 HNR.out).1 (by have := HCL.out; omega)).trans HNR.out
          clear cG hm5 hk5
          go_wp2_with fail
          exact ⟨⟨a + 1, S.2, by omega, hlt, rfl, HK5, HGO, HM5, HN5, HX⟩, by simp only [intOf]; omega⟩
    · obtain rfl : a = b := by omega
      have hnot : ¬ (a : Int) < (a : Int) := by omega
      have HX : Hid (R = (g a == 2, g)) := by show _ = _; rw [HRR.out, Nat.sub_self]; rfl
      have HMD : Hid (∀ n, Mv w (wr.drewN n) (fun k => k = C)) := fun n => HMR.out.trans (show Mv wr (wr.drewN n) (fun _ => False) from Mv.ofBelow ⟨rfl, rfl, rfl, Nat.le_refl _, fun _ _ => rfl⟩) (fun _ e => e.elim)
      have HKD : Hid (∀ n, CkAt (wr.drewN n) C t g) := fun n => HKR.out.on ⟨rfl, rfl, rfl, Nat.le_refl _, fun _ _ => rfl⟩
      go_wp2_with fail
      go_quiet (fail)
      go_wp2_with fail
      go_ret
      exact ⟨by rw [HX.out]; rfl, HMD.out _, by rw [HX.out]; exact HKD.out _⟩
def standsL (t : TbM) (b : Nat) : Nat → Nat → Bool
  | 0, _ => true
  | n + 1, a => standB t (t.ds.getD a ⟨0, 0⟩) a b && standsL t b n (a + 1)
theorem standsL_all {t : TbM} {b : Nat} : ∀ (n a : Nat), standsL t b n a = true → ∀ j, a ≤ j → j < a + n → standB t (t.ds.getD j ⟨0, 0⟩) j b = true
  | 0, a, _, j, h1, h2 => by omega
  | n + 1, a, h, j, h1, h2 => by
    unfold standsL at h
    rw [Bool.and_eq_true] at h
    by_cases e : j = a
    · rw [e]; exact h.1
    · exact standsL_all n (a + 1) h.2 j (by omega) (by omega)
def spanE (t : TbM) (h : Nat → Int) (f b : Nat) : Int × (Nat → Int) := if standsL t b (b - f) f then (if (fitsL t.ds (b - f) f (upd h f 1)).1 then (0, (fitsL t.ds (b - f) f (upd h f 1)).2) else (192, (fitsL t.ds (b - f) f (upd h f 1)).2)) else (191, h)
theorem spanE_ok (t : TbM) {h : Nat → Int} (k : HOk h) (f b : Nat) : HOk (spanE t h f b).2 := by
  unfold spanE
  split
  · split
    · exact fitsL_ok _ _ _ _ (upd_ok k f)
    · exact fitsL_ok _ _ _ _ (upd_ok k f)
  · exact k
set_option maxRecDepth 100000 in
set_option maxHeartbeats 4000000 in
theorem span_any (C : Nat) (t : TbM) (h : Nat → Int) (f b : Nat) (w : World) (w0 : World) (hc : Cx w0 C t w h) (hfb : f < b) (hbd : b ≤ t.ds.length) (hs : t.rs.length ≤ 12 ∧ t.cs.length ≤ 1024 ∧ t.ds.length ≤ 4096) : Calls Tryz.prog 98 #[.pointer (some ⟨C, 0, none⟩), .agg (Sp.vals ⟨f, b⟩)] w fun e w' => e = .returned (.int .i64 (spanE t h f b).1) ∧ Mv w w' (fun k => k = C) ∧ CkAt w' C t (spanE t h f b).2 := by
  have hb1 := below_new w (.cells (Sp.vals ⟨f, b⟩) 65)
  have hn1 := heap_new w (.cells (Sp.vals ⟨f, b⟩) 65)
  obtain ⟨W1, e1⟩ : ∃ W, w.alloc (.cells (Sp.vals ⟨f, b⟩) 65) = W := ⟨_, rfl⟩
  have E1 : Hid (w.alloc (.cells (Sp.vals ⟨f, b⟩) 65) = W1) := e1
  rw [e1] at hb1 hn1
  have HB1 : Hid (Below w.heap.size w W1) := hb1
  have c0 : W1.cell? ⟨w.heap.size, 0, none⟩ = some (.int .i64 f) := cell_of hn1 0
  have c1 : W1.cell? ⟨w.heap.size, 1, none⟩ = some (.int .i64 b) := cell_of hn1 1
  have HN1 : Hid (W1.heap[w.heap.size]? = some (.cells (Sp.vals ⟨f, b⟩) 65 (0, 0))) := hn1
  have HS1 : Hid (W1.heap.size = w.heap.size + 1) := by show _ = _; rw [← e1]; exact size_alloc _ _
  clear hb1 e1 hn1
  obtain ⟨R, eR⟩ : ∃ R, spanE t h f b = R := ⟨_, rfl⟩
  rw [eR]
  have HR : Hid (R = if standsL t b (b - f) f then (if (fitsL t.ds (b - f) f (upd h f 1)).1 then (0, (fitsL t.ds (b - f) f (upd h f 1)).2) else (192, (fitsL t.ds (b - f) f (upd h f 1)).2)) else (191, h)) := eR.symm
  have HCX : Hid (Cx w0 C t W1 h) := hc.on HB1.out
  have HM1 : Hid (Mv w W1 (fun k => k = C)) := Mv.ofBelow HB1.out
  obtain ⟨S, eS⟩ : ∃ S, standsL t b (b - f) f = S := ⟨_, rfl⟩
  have HS : Hid (S = standsL t b (b - f) f) := eS.symm
  have hlen : f < b := hfb
  clear eR eS hc
  go_enter Tryz.func98, Tryz.ntmps98
  go_upto_region 1 with fail
  rw [E1.out]
  clear E1
  go_wp2_with fail
  go_loopw [5] (fun q wr => ∃ (a : Nat), f ≤ a ∧ a ≤ b ∧ q = .int .i64 a ∧ wr = W1 ∧ Hid (S = standsL t b (b - a) a)) (fun q _ => b - (intOf q).toNat)
  case atStart => exact ⟨f, by omega, by omega, rfl, rfl, HS⟩
  case round =>
    obtain ⟨a, hfa, hab, rfl, rfl, HRR⟩ := hrel
    by_cases hlt : a < b
    · have hlt' : (a : Int) < (b : Int) := by omega
      obtain ⟨n, en⟩ : ∃ n, b - a = n + 1 := ⟨b - a - 1, by omega⟩
      have HD : Hid (S = (standB t (t.ds.getD a ⟨0, 0⟩) a b && standsL t b (b - (a + 1)) (a + 1))) := by show _ = _; rw [HRR.out, en, show b - (a + 1) = n by omega]; rfl
      have cS := stands_any C t h a b wr HCX.out.K HCX.out.tb hs (by omega)
      clear en HRR
      cases hz : standB t (t.ds.getD a ⟨0, 0⟩) a b with
      | false =>
        rw [hz] at cS
        have HX : Hid (R = (191, h)) := by show _ = _; rw [HR.out, ← HS.out, HD.out, hz]; rfl
        go_wp2_with fail
        refine cS.mono ?_
        rintro e w5 ⟨rfl, rfl⟩
        go_wp2_with fail
        go_ret
        exact ⟨by rw [HX.out]; rfl, HM1.out, by rw [HX.out]; exact HCX.out.K⟩
      | true =>
        rw [hz] at cS
        have HX : Hid (S = standsL t b (b - (a + 1)) (a + 1)) := by show _ = _; rw [HD.out, hz]; rfl
        go_wp2_with fail
        refine cS.mono ?_
        rintro e w5 ⟨rfl, rfl⟩
        go_wp2_with fail
        exact ⟨⟨a + 1, by omega, hlt, rfl, by first | rfl | trivial, HX⟩, by simp only [intOf]; omega⟩
    · obtain rfl : a = b := by omega
      have hnot : ¬ (a : Int) < (a : Int) := by omega
      have hS1 : S = true := by rw [HRR.out, Nat.sub_self]; rfl
      have hS2 : standsL t a (a - f) f = true := by rw [← HS.out]; exact hS1
      have HD : Hid (R = if (fitsL t.ds (a - f) f (upd h f 1)).1 then (0, (fitsL t.ds (a - f) f (upd h f 1)).2) else (192, (fitsL t.ds (a - f) f (upd h f 1)).2)) := by show _ = _; rw [HR.out, if_pos hS2]
      have cF := fits_any C t h f a wr w0 HCX.out hlen (by omega) hs.2.2 (fun j h1 h2 => standsL_all (a - f) f hS2 j h1 (by omega))
      obtain ⟨Q, eQ⟩ : ∃ Q, fitsL t.ds (a - f) f (upd h f 1) = Q := ⟨_, rfl⟩
      rw [eQ] at cF HD
      clear hS1 hS2 HR HS HRR eQ
      cases hq : Q.1 with
      | true =>
        rw [hq] at cF
        have HX : Hid (R = (0, Q.2)) := by show _ = _; rw [HD.out, if_pos hq]
        go_wp2_with fail
        refine cF.mono ?_
        rintro e w5 ⟨rfl, hm5, hk5⟩
        have HM5 : Hid (Mv w w5 (fun k => k = C)) := HM1.out.trans hm5 (fun _ e => .inl e)
        have HK5 : Hid (CkAt w5 C t Q.2) := hk5
        clear cF hm5 hk5
        go_wp2_with fail
        go_ret
        exact ⟨by rw [HX.out]; rfl, HM5.out, by rw [HX.out]; exact HK5.out⟩
      | false =>
        rw [hq] at cF
        have HX : Hid (R = (192, Q.2)) := by show _ = _; rw [HD.out, if_neg (by simp [hq])]
        go_wp2_with fail
        refine cF.mono ?_
        rintro e w5 ⟨rfl, hm5, hk5⟩
        have HM5 : Hid (Mv w w5 (fun k => k = C)) := HM1.out.trans hm5 (fun _ e => .inl e)
        have HK5 : Hid (CkAt w5 C t Q.2) := hk5
        clear cF hm5 hk5
        go_wp2_with fail
        go_ret
        exact ⟨by rw [HX.out]; rfl, HM5.out, by rw [HX.out]; exact HK5.out⟩
end Go.Proofs.YteedmmljahgpjaaGreatDoor

/-
  What instructions read.
-/
namespace Go.Proofs.YteedmmljahgpjaaGreatDoor
open Go.RowKit
set_option linter.unusedVariables false
set_option linter.unusedSimpArgs false
theorem run_max (x y : Int) : Builtin.max_ #[3, 3] 3 #[.int .i64 x, .int .i64 y] = pure (.int .i64 (if y > x then y else x)) := by
  show (Builtin.max2 (.int .i64 x) (.int .i64 y) >>= fun v => pure v) = _
  show (pure (Value.int .i64 (if y > x then y else x)) >>= fun v => (pure v : Sem Value)) = _
  rfl
theorem run_min (x y : Int) : Builtin.min_ #[3, 3] 3 #[.int .i64 x, .int .i64 y] = pure (.int .i64 (if y < x then y else x)) := by
  show (Builtin.min2 (.int .i64 x) (.int .i64 y) >>= fun v => pure v) = _
  show (pure (Value.int .i64 (if y < x then y else x)) >>= fun v => (pure v : Sem Value)) = _
  rfl
def mx0 (f : Int) : Int := if 0 > f then 0 else f
def mnL (t : Int) (n : Nat) : Int := if (n : Int) < t then n else t
def orM (m : Int) (a : Int) : Int := bits .or .u16 m (IntKind.u16.wrap (2 ^ a.toNat))
def rd1 (d : InM) (q : Int × Int) : Int × Int :=
  if decide (d.a < 0) then q else if decide (d.a ≥ 16) then q else if d.k == 2 then (orM q.1 d.a, q.2) else if d.k == 3 then (orM q.1 d.a, q.2) else if d.k == 4 then (q.1, orM q.2 d.a) else q
def rdL (ds : List InM) : Nat → Nat → Int × Int → Int × Int
  | 0, _, q => q
  | n + 1, a, q => rdL ds n (a + 1) (rd1 (ds.getD a ⟨0, 0⟩) q)
def readsN (ds : List InM) (x : Sp) : Int × Int := rdL ds ((mnL x.t ds.length).toNat - (mx0 x.f).toNat) (mx0 x.f).toNat (0, 0)
set_option maxRecDepth 100000 in
set_option maxHeartbeats 4000000 in
theorem reads_any (t : TbM) (x : Sp) (w : World) (hl : TbL w t) : Calls Tryz.prog 23 #[.agg t.vals, .agg x.vals] w fun e w' => e = .returned (.tuple #[.int .u16 (readsN t.ds x).1, .int .u16 (readsN t.ds x).2]) ∧ Below w.heap.size w w' := by
  have hb1 := below_new w (.cells t.vals 26)
  have hn1 := heap_new w (.cells t.vals 26)
  have hs1 := size_alloc w (.cells t.vals 26)
  obtain ⟨W1, e1⟩ : ∃ W, w.alloc (.cells t.vals 26) = W := ⟨_, rfl⟩
  have E1 : Hid (w.alloc (.cells t.vals 26) = W1) := e1
  rw [e1] at hb1 hn1 hs1
  have hb2 := below_new W1 (.cells x.vals 65)
  have hn2 := heap_new W1 (.cells x.vals 65)
  obtain ⟨W2, e2⟩ : ∃ W, W1.alloc (.cells x.vals 65) = W := ⟨_, rfl⟩
  have E2 : Hid (W1.alloc (.cells x.vals 65) = W2) := e2
  rw [e2] at hb2 hn2
  rw [hs1] at hn2
  have hk : W2.heap[w.heap.size]? = some (.cells t.vals 26 (0, 0)) := (hb2.block _ (by omega)).trans hn1
  have HT2 : Hid (W2.heap[w.heap.size]? = some (.cells t.vals 26 (0, 0))) := hk
  have HB2 : Hid (Below w.heap.size w W2) := below2 hb1 hb2
  obtain ⟨g3, e3⟩ : ∃ g, w.heap.size + 1 = g := ⟨_, rfl⟩
  rw [e3] at hn2
  have HN2 : Hid (W2.heap[g3]? = some (.cells x.vals 65 (0, 0))) := hn2
  have HG3 : Hid (w.heap.size + 1 = g3) := e3
  have c0 : W2.cell? ⟨g3, 0, none⟩ = some (.int .i64 x.f) := cell_of hn2 0
  have HSL : Hid (SlAt w 2 t.da t.dc (t.ds.map InM.vals)) := hl.D
  have HDI : Hid (∀ d ∈ t.ds, B8 d.k ∧ I64 d.a) := hl.Di
  obtain ⟨R, eR⟩ : ∃ R, readsN t.ds x = R := ⟨_, rfl⟩
  have HR : Hid (R = rdL t.ds ((mnL x.t t.ds.length).toNat - (mx0 x.f).toNat) (mx0 x.f).toNat (0, 0)) := eR.symm
  rw [eR]
  obtain ⟨ds, eds⟩ : ∃ q, t.ds = q := ⟨_, rfl⟩
  obtain ⟨da, eda⟩ : ∃ q, t.da = q := ⟨_, rfl⟩
  have HT4 : Hid (∀ V : World, V.heap[w.heap.size]? = some (.cells t.vals 26 (0, 0)) → V.cell? ⟨w.heap.size, 4, none⟩ = some (.slice da ds.length t.dc)) := fun V hV => by rw [← eds, ← eda]; exact cell_of hV 4
  rw [eds] at HR HSL HDI
  rw [eda] at HSL
  have hlen : ds.length ≤ 9223372036854775807 := by have h1 := HSL.out.1; have h2 := HSL.out.2.1; rw [List.length_map] at h1; omega
  obtain ⟨A, eA⟩ : ∃ A : Nat, (mx0 x.f).toNat = A := ⟨_, rfl⟩
  obtain ⟨Bd, eB⟩ : ∃ B : Int, mnL x.t ds.length = B := ⟨_, rfl⟩
  have hmx0 : (if 0 > x.f then 0 else x.f) = (A : Int) := by show mx0 x.f = _; rw [← eA]; unfold mx0; split <;> omega
  have hBl : Bd ≤ ds.length := by rw [← eB]; unfold mnL; split <;> omega
  have hBe : (if (ds.length : Int) < x.t then (ds.length : Int) else x.t) = Bd := eB
  rw [eA, eB] at HR
  clear hb1 hn1 hs1 e1 hb2 hn2 e2 hk e3 hl eR eds eda eA
  go_enter Tryz.func23, Tryz.ntmps23
  go_upto_region 3 with fail
  rw [E1.out, E2.out, HG3.out]
  clear E1 E2
  have hm := run_max
  have hn := run_min
  go_wp2_with fail
  try rw [hmx0]
  clear hm
  go_loopw [6, 7, 8] (fun q6 q7 q8 wr => ∃ (a : Nat) (fm rm : Int), A ≤ a ∧ q8 = .int .i64 a ∧ q6 = .int .u16 fm ∧ q7 = .int .u16 rm ∧ Hid (Below w.heap.size w wr) ∧ Hid (wr.heap[w.heap.size]? = some (.cells t.vals 26 (0, 0))) ∧ Hid (wr.heap[g3]? = some (.cells x.vals 65 (0, 0))) ∧ Hid (R = rdL ds (Bd.toNat - a) a (fm, rm))) (fun _ _ q8 _ => Bd.toNat - (intOf q8).toNat)
  case atStart => exact ⟨A, 0, 0, by omega, rfl, rfl, rfl, HB2, HT2, HN2, HR⟩
  case round =>
    obtain ⟨a, fm, rm, hAa, rfl, rfl, rfl, HBR, HTR, HNR, HRR⟩ := hrel
    have y1 : wr.cell? ⟨g3, 1, none⟩ = some (.int .i64 x.t) := cell_of HNR.out 1
    have y4 := HT4.out wr HTR.out
    by_cases hlt : (a : Int) < Bd
    · have hal : a < ds.length := by omega
      have hal' : (a : Int) < (ds.length : Int) := by omega
      obtain ⟨n, en⟩ : ∃ n, Bd.toNat - a = n + 1 := ⟨Bd.toNat - a - 1, by omega⟩
      have HD : Hid (R = rdL ds (Bd.toNat - (a + 1)) (a + 1) (rd1 ds[a] (fm, rm))) := by show _ = _; rw [HRR.out, en, show Bd.toNat - (a + 1) = n by omega]; show rdL ds n (a + 1) (rd1 (ds.getD a ⟨0, 0⟩) (fm, rm)) = _; rw [List.getD_eq_getElem?_getD, List.getElem?_eq_getElem hal]; rfl
      obtain ⟨bb, o, ea, hat⟩ := (HSL.out.on (mapz InM.sz _) HBR.out).2.2 a (by rw [List.length_map]; exact hal)
      simp only [List.getElem_map] at hat
      have hdi := (HDI.out ds[a] (List.getElem_mem hal)).2
      obtain ⟨d, ed⟩ : ∃ d, ds[a] = d := ⟨_, rfl⟩
      rw [ed] at hat HD hdi
      have HRG : Hid (wr.rangeAt bb (o + a * 2) d.vals.toList) := fun j v hv => by
        have hj : j < 2 := (List.getElem?_eq_some_iff.1 hv).1
        rw [hat j hj, ← hv]; simp
      have HZ : Hid ((wr.alloc (.cells #[.int .u8 0, .int .i64 0] 61)).heap[wr.heap.size]? = some (.cells #[.int .u8 0, .int .i64 0] 61 (0, 0))) := heap_new _ _
      have HWX : Hid (Below wr.heap.size wr ((wr.alloc (.cells #[.int .u8 0, .int .i64 0] 61)).setRow wr.heap.size d.vals)) := below_row (below_new _ _) (Nat.le_refl _) _
      have HNX : Hid (((wr.alloc (.cells #[.int .u8 0, .int .i64 0] 61)).setRow wr.heap.size d.vals).heap[wr.heap.size]? = some (.cells d.vals 61 (0, 0))) := setRow_heap _ _ _ _ _ _ HZ.out
      subst ea
      clear hat ed en HRR
      go_upto_region 7 with (first | (refine wpList_load_mid rfl 61 (.tmp 26) rfl bb (o + a * 2) rfl d.vals.toList _ HRG.out Tryz.underlying61 rfl (by show _ = some 2; exact size61') ?_; rw [Array.toArray_toList]) | (refine wpList_store_row rfl 61 (.tmp 9) (.tmp 27) rfl wr.heap.size d.vals rfl rfl 61 #[.int .u8 0, .int .i64 0] HZ.out size61' rfl (allIn d) ?_))
      generalize World.setRow _ _ _ = WX at HWX HNX ⊢
      have HBX : Hid (Below w.heap.size w WX) := below2 HBR.out HWX.out
      have HTX : Hid (WX.heap[w.heap.size]? = some (.cells t.vals 26 (0, 0))) := (HWX.out.block _ (Array.getElem?_eq_some_iff.1 HTR.out).1).trans HTR.out
      have HSX : Hid (WX.heap[g3]? = some (.cells x.vals 65 (0, 0))) := (HWX.out.block _ (Array.getElem?_eq_some_iff.1 HNR.out).1).trans HNR.out
      have z0 : WX.cell? ⟨wr.heap.size, 0, none⟩ = some (.int .u8 d.k) := cell_of HNX.out 0
      have z1 : WX.cell? ⟨wr.heap.size, 1, none⟩ = some (.int .i64 d.a) := cell_of HNX.out 1
      clear HZ HRG HBR HTR HNR HWX HNX y1 y4 hn
      have hai : (a : Int) + 1 ≤ 9223372036854775807 := by omega
      cases h0 : decide (d.a < 0) with
      | true =>
        have HX : Hid (R = rdL ds (Bd.toNat - (a + 1)) (a + 1) (fm, rm)) := by show _ = _; rw [HD.out]; unfold rd1; simp only [h0, reduceIte, Bool.false_eq_true, if_false, if_true]
        go_wp2_with fail
        exact ⟨⟨a + 1, fm, rm, by omega, rfl, by first | (unfold orM; rfl) | rfl | trivial, by first | (unfold orM; rfl) | rfl | trivial, HBX, HTX, HSX, HX⟩, by simp only [intOf]; omega⟩
      | false =>
        cases h16 : decide (d.a ≥ 16) with
        | true =>
          have HX : Hid (R = rdL ds (Bd.toNat - (a + 1)) (a + 1) (fm, rm)) := by show _ = _; rw [HD.out]; unfold rd1; simp only [h0, h16, reduceIte, Bool.false_eq_true, if_false, if_true]
          go_wp2_with fail
          exact ⟨⟨a + 1, fm, rm, by omega, rfl, by first | (unfold orM; rfl) | rfl | trivial, by first | (unfold orM; rfl) | rfl | trivial, HBX, HTX, HSX, HX⟩, by simp only [intOf]; omega⟩
        | false =>
          have ha0 : 0 ≤ d.a := by simpa using h0
          have ha16 : d.a < 16 := by simpa using h16
          cases h2 : (d.k == 2) with
          | true =>
            have HX : Hid (R = rdL ds (Bd.toNat - (a + 1)) (a + 1) (orM fm d.a, rm)) := by show _ = _; rw [HD.out]; unfold rd1; simp only [h0, h16, h2, reduceIte, Bool.false_eq_true, if_false, if_true]
            go_wp2_with fail
            exact ⟨⟨a + 1, (orM fm d.a), rm, by omega, rfl, by first | (unfold orM; rfl) | rfl | trivial, by first | (unfold orM; rfl) | rfl | trivial, HBX, HTX, HSX, HX⟩, by simp only [intOf]; omega⟩
          | false =>
            cases h3 : (d.k == 3) with
            | true =>
              have HX : Hid (R = rdL ds (Bd.toNat - (a + 1)) (a + 1) (orM fm d.a, rm)) := by show _ = _; rw [HD.out]; unfold rd1; simp only [h0, h16, h2, h3, reduceIte, Bool.false_eq_true, if_false, if_true]
              go_wp2_with fail
              exact ⟨⟨a + 1, (orM fm d.a), rm, by omega, rfl, by first | (unfold orM; rfl) | rfl | trivial, by first | (unfold orM; rfl) | rfl | trivial, HBX, HTX, HSX, HX⟩, by simp only [intOf]; omega⟩
            | false =>
              cases h4 : (d.k == 4) with
              | true =>
                have HX : Hid (R = rdL ds (Bd.toNat - (a + 1)) (a + 1) (fm, orM rm d.a)) := by show _ = _; rw [HD.out]; unfold rd1; simp only [h0, h16, h2, h3, h4, reduceIte, Bool.false_eq_true, if_false, if_true]
                go_wp2_with fail
                exact ⟨⟨a + 1, fm, (orM rm d.a), by omega, rfl, by first | (unfold orM; rfl) | rfl | trivial, by first | (unfold orM; rfl) | rfl | trivial, HBX, HTX, HSX, HX⟩, by simp only [intOf]; omega⟩
              | false =>
                have HX : Hid (R = rdL ds (Bd.toNat - (a + 1)) (a + 1) (fm, rm)) := by show _ = _; rw [HD.out]; unfold rd1; simp only [h0, h16, h2, h3, h4, reduceIte, Bool.false_eq_true, if_false, if_true]
                go_wp2_with fail
                exact ⟨⟨a + 1, fm, rm, by omega, rfl, by first | (unfold orM; rfl) | rfl | trivial, by first | (unfold orM; rfl) | rfl | trivial, HBX, HTX, HSX, HX⟩, by simp only [intOf]; omega⟩
    · have HX : Hid (R = (fm, rm)) := by show _ = _; rw [HRR.out, show Bd.toNat - a = 0 by omega]; rfl
      go_wp2_with fail
      go_ret2
      exact ⟨by rw [HX.out]; rfl, HBR.out⟩
end Go.Proofs.YteedmmljahgpjaaGreatDoor
