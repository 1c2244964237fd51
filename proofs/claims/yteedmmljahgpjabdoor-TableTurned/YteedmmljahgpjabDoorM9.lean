import Derived.Test.YteedmmljahgpjabDoorM8
/-
  May an instruction stand at its place; where one goes on from it.
-/
namespace Go.Proofs.YteedmmljahgpjabDoor
open Go.RowKit
set_option linter.unusedVariables false
set_option linter.unusedSimpArgs false
def standB (t : TbM) (d : InM) (a b : Int) : Bool :=
  if d.k == 1 then withinB 0 d.a ((t.cs.length : Int) - 1) else if d.k == 2 then withinB 1 d.a 6 else if d.k == 3 then withinB 1 d.a 3 else if d.k == 4 then withinB 0 d.a ((t.rs.length : Int) - 1) else if d.k == 5 then withinB 1 d.a 16 else if d.k == 6 then withinB (a + 1) d.a b else if d.k == 7 then withinB (a + 1) d.a b else if d.k == 8 then withinB (a + 1) d.a b else if d.k == 9 then withinB (a + 1) d.a b else false
theorem CkAt.c1 {w : World} {C : Nat} {t : TbM} {h : Nat → Int} (k : CkAt w C t h) : w.cell? ⟨C, 1, none⟩ = some (.slice t.ra t.rs.length t.rc) := k.T 1 (by omega)
theorem CkAt.c3 {w : World} {C : Nat} {t : TbM} {h : Nat → Int} (k : CkAt w C t h) : w.cell? ⟨C, 3, none⟩ = some (.slice t.ca t.cs.length t.cc) := k.T 3 (by omega)
theorem CkAt.c4 {w : World} {C : Nat} {t : TbM} {h : Nat → Int} (k : CkAt w C t h) : w.cell? ⟨C, 4, none⟩ = some (.slice t.da t.ds.length t.dc) := k.T 4 (by omega)
theorem CkAt.c5 {w : World} {C : Nat} {t : TbM} {h : Nat → Int} (k : CkAt w C t h) : w.cell? ⟨C, 5, none⟩ = some (.slice t.ta t.ts.length t.tc) := k.T 5 (by omega)
set_option maxRecDepth 100000 in
set_option maxHeartbeats 4000000 in
theorem stands_any (C : Nat) (t : TbM) (h : Nat → Int) (a : Nat) (b : Int) (w : World) (hk : CkAt w C t h) (hl : TbL w t) (hs : t.rs.length ≤ 12 ∧ t.cs.length ≤ 1024 ∧ t.ds.length ≤ 4096) (ha : a < t.ds.length) : Calls Tryd.prog 71 #[.pointer (some ⟨C, 0, none⟩), .int .i64 a, .int .i64 b] w fun e w' => e = .returned (.bool (standB t (t.ds.getD a ⟨0, 0⟩) a b)) ∧ w' = w := by
  obtain ⟨bb, o, ea, hat⟩ := hl.D.2.2 a (by rw [List.length_map]; exact ha)
  simp only [List.getElem_map] at hat
  have hI := hl.Di t.ds[a] (List.getElem_mem ha)
  obtain ⟨d, ed⟩ : ∃ d, t.ds[a] = d := ⟨_, rfl⟩
  rw [ed] at hat hI
  have k0 : w.cell? ⟨bb, o + a * 2, none⟩ = some (.int .u8 d.k) := by have := hat 0 (by omega); rw [Nat.add_zero] at this; exact this
  have k1 : w.cell? ⟨bb, o + a * 2 + 1, none⟩ = some (.int .i64 d.a) := hat 1 (by omega)
  have c4 := hk.c4
  rw [ea] at c4
  have ha1 : (a : Int) < (t.ds.length : Int) := by omega
  have hr1 : t.rs.length ≤ 12 := hs.1
  have hc1 : t.cs.length ≤ 1024 := hs.2.1
  have hd1 : t.ds.length ≤ 4096 := hs.2.2
  rw [show t.ds.getD a ⟨0, 0⟩ = d by rw [List.getD_eq_getElem?_getD, List.getElem?_eq_getElem ha, ed]; rfl]
  have c1 := hk.c1
  have c3 := hk.c3
  clear hat hk hl ed ea hs hI
  unfold standB
  cases h1 : (d.k == 1) with
  | true =>
    have cW := within_any 0 d.a ((t.cs.length : Int) - 1) w
    go_enter Tryd.func71, Tryd.ntmps71
    go_wp2_with fail
    refine cW.mono ?_
    rintro e w5 ⟨rfl, rfl⟩
    go_wp2_with fail
    go_ret
    exact ⟨by simp [*], rfl⟩
  | false =>
    cases h2 : (d.k == 2) with
    | true =>
      have cW := within_any 1 d.a 6 w
      go_enter Tryd.func71, Tryd.ntmps71
      go_wp2_with fail
      refine cW.mono ?_
      rintro e w5 ⟨rfl, rfl⟩
      go_wp2_with fail
      go_ret
      exact ⟨by simp [*], rfl⟩
    | false =>
      cases h3 : (d.k == 3) with
      | true =>
        have cW := within_any 1 d.a 3 w
        go_enter Tryd.func71, Tryd.ntmps71
        go_wp2_with fail
        refine cW.mono ?_
        rintro e w5 ⟨rfl, rfl⟩
        go_wp2_with fail
        go_ret
        exact ⟨by simp [*], rfl⟩
      | false =>
        cases h4 : (d.k == 4) with
        | true =>
          have cW := within_any 0 d.a ((t.rs.length : Int) - 1) w
          go_enter Tryd.func71, Tryd.ntmps71
          go_wp2_with fail
          refine cW.mono ?_
          rintro e w5 ⟨rfl, rfl⟩
          go_wp2_with fail
          go_ret
          exact ⟨by simp [*], rfl⟩
        | false =>
          cases h5 : (d.k == 5) with
          | true =>
            have cW := within_any 1 d.a 16 w
            go_enter Tryd.func71, Tryd.ntmps71
            go_wp2_with fail
            refine cW.mono ?_
            rintro e w5 ⟨rfl, rfl⟩
            go_wp2_with fail
            go_ret
            exact ⟨by simp [*], rfl⟩
          | false =>
            cases h6 : (d.k == 6) with
            | true =>
              have cW := within_any ((a : Int) + 1) d.a b w
              go_enter Tryd.func71, Tryd.ntmps71
              go_wp2_with fail
              refine cW.mono ?_
              rintro e w5 ⟨rfl, rfl⟩
              go_wp2_with fail
              go_ret
              exact ⟨by simp [*], rfl⟩
            | false =>
              cases h7 : (d.k == 7) with
              | true =>
                have cW := within_any ((a : Int) + 1) d.a b w
                go_enter Tryd.func71, Tryd.ntmps71
                go_wp2_with fail
                refine cW.mono ?_
                rintro e w5 ⟨rfl, rfl⟩
                go_wp2_with fail
                go_ret
                exact ⟨by simp [*], rfl⟩
              | false =>
                cases h8 : (d.k == 8) with
                | true =>
                  have cW := within_any ((a : Int) + 1) d.a b w
                  go_enter Tryd.func71, Tryd.ntmps71
                  go_wp2_with fail
                  refine cW.mono ?_
                  rintro e w5 ⟨rfl, rfl⟩
                  go_wp2_with fail
                  go_ret
                  exact ⟨by simp [*], rfl⟩
                | false =>
                  cases h9 : (d.k == 9) with
                  | true =>
                    have cW := within_any ((a : Int) + 1) d.a b w
                    go_enter Tryd.func71, Tryd.ntmps71
                    go_wp2_with fail
                    refine cW.mono ?_
                    rintro e w5 ⟨rfl, rfl⟩
                    go_wp2_with fail
                    go_ret
                    exact ⟨by simp [*], rfl⟩
                  | false =>
                    go_enter Tryd.func71, Tryd.ntmps71
                    go_wp2_with fail
                    go_ret
                    exact ⟨by simp [*], rfl⟩
end Go.Proofs.YteedmmljahgpjabDoor

/-
  Where one goes on from a place, with which heights.
-/
namespace Go.Proofs.YteedmmljahgpjabDoor
open Go.RowKit
set_option linter.unusedVariables false
set_option linter.unusedSimpArgs false
def and2 (h : Nat → Int) (p : Nat) (x : Int) (q : Nat) (y : Int) : Bool × (Nat → Int) := if comeB h p x then (comeB (comeH h p x) q y, comeH (comeH h p x) q y) else (false, comeH h p x)
def goF (h : Nat → Int) (d : InM) (a : Nat) (x : Int) : Bool × (Nat → Int) :=
  if d.k == 5 then (if decide (d.a ≤ 3) then (if decide (x ≥ 1) then (comeB h (a + 1) x, comeH h (a + 1) x) else (false, h)) else (if decide (x ≥ 2) then (comeB h (a + 1) (x - 1), comeH h (a + 1) (x - 1)) else (false, h)))
  else if d.k == 6 then and2 h d.a.toNat x (a + 1) (x - 1) else if d.k == 7 then and2 h d.a.toNat x (a + 1) (x - 1) else if d.k == 8 then and2 h d.a.toNat (x - 1) (a + 1) (x - 1)
  else if d.k == 9 then (comeB h d.a.toNat x, comeH h d.a.toNat x) else (comeB h (a + 1) (x + 1), comeH h (a + 1) (x + 1))
theorem goF_ok {h : Nat → Int} (k : HOk h) (d : InM) (a : Nat) (x : Int) : HOk (goF h d a x).2 := by
  unfold goF and2
  repeat' split
  all_goals first | exact k | exact comeH_ok k _ _ | exact comeH_ok (comeH_ok k _ _) _ _
theorem come_int (C : Nat) (t : TbM) (h : Nat → Int) (y : Int) (x : Int) (w : World) (hk : CkAt w C t h) (h0 : 0 ≤ y) (h1 : y < 4097) : Calls Tryd.prog 91 #[.pointer (some ⟨C, 0, none⟩), .int .i64 y, .int .i64 x] w fun e w' => e = .returned (.bool (comeB h y.toNat x)) ∧ Mv w w' (fun k => k = C) ∧ CkAt w' C t (comeH h y.toNat x) := by
  obtain ⟨n, rfl⟩ := Int.eq_ofNat_of_zero_le h0
  exact come_any C t h n x w hk (by omega)
set_option maxRecDepth 100000 in
set_option maxHeartbeats 4000000 in
theorem goOn_any (C : Nat) (t : TbM) (h : Nat → Int) (a : Nat) (x : Int) (w : World) (hk : CkAt w C t h) (hl : TbL w t) (hd1 : t.ds.length ≤ 4096) (ha : a < t.ds.length) (hx : -1 ≤ x ∧ x ≤ 64) (hok : ((t.ds.getD a ⟨0, 0⟩).k = 5 → 1 ≤ (t.ds.getD a ⟨0, 0⟩).a ∧ (t.ds.getD a ⟨0, 0⟩).a ≤ 16) ∧ (6 ≤ (t.ds.getD a ⟨0, 0⟩).k → (t.ds.getD a ⟨0, 0⟩).k ≤ 9 → (a : Int) + 1 ≤ (t.ds.getD a ⟨0, 0⟩).a ∧ (t.ds.getD a ⟨0, 0⟩).a ≤ 4096)) : Calls Tryd.prog 88 #[.pointer (some ⟨C, 0, none⟩), .int .i64 a, .int .i64 x] w fun e w' => e = .returned (.bool (goF h (t.ds.getD a ⟨0, 0⟩) a x).1) ∧ Mv w w' (fun k => k = C) ∧ CkAt w' C t (goF h (t.ds.getD a ⟨0, 0⟩) a x).2 := by
  obtain ⟨bb, o, ea, hat⟩ := hl.D.2.2 a (by rw [List.length_map]; exact ha)
  simp only [List.getElem_map] at hat
  have hI := hl.Di t.ds[a] (List.getElem_mem ha)
  obtain ⟨d, ed⟩ : ∃ d, t.ds[a] = d := ⟨_, rfl⟩
  rw [ed] at hat hI
  have k0 : w.cell? ⟨bb, o + a * 2, none⟩ = some (.int .u8 d.k) := by have := hat 0 (by omega); rw [Nat.add_zero] at this; exact this
  have k1 : w.cell? ⟨bb, o + a * 2 + 1, none⟩ = some (.int .i64 d.a) := hat 1 (by omega)
  have c4 := hk.c4
  rw [ea] at c4
  have ha1 : (a : Int) < (t.ds.length : Int) := by omega
  rw [show t.ds.getD a ⟨0, 0⟩ = d by rw [List.getD_eq_getElem?_getD, List.getElem?_eq_getElem ha, ed]; rfl]
  rw [show t.ds.getD a ⟨0, 0⟩ = d by rw [List.getD_eq_getElem?_getD, List.getElem?_eq_getElem ha, ed]; rfl] at hok
  have HK : Hid (CkAt w C t h) := hk
  have HRG : Hid (w.rangeAt bb (o + a * 2) d.vals.toList) := fun j v hv => by
    have hj : j < 2 := (List.getElem?_eq_some_iff.1 hv).1
    rw [hat j hj, ← hv]; simp
  have HZ : Hid ((w.alloc (.cells #[.int .u8 0, .int .i64 0] 44)).heap[w.heap.size]? = some (.cells #[.int .u8 0, .int .i64 0] 44 (0, 0))) := heap_new _ _
  have HB1 : Hid (Below w.heap.size w ((w.alloc (.cells #[.int .u8 0, .int .i64 0] 44)).setRow w.heap.size d.vals)) := below_row (below_new _ _) (Nat.le_refl _) _
  have HN1 : Hid (((w.alloc (.cells #[.int .u8 0, .int .i64 0] 44)).setRow w.heap.size d.vals).heap[w.heap.size]? = some (.cells d.vals 44 (0, 0))) := setRow_heap _ _ _ _ _ _ HZ.out
  clear hat hk hl ed ea hI
  obtain ⟨R, eR⟩ : ∃ R, goF h d a x = R := ⟨_, rfl⟩
  have HR : Hid (goF h d a x = R) := eR
  rw [eR]
  clear eR
  go_enter Tryd.func88, Tryd.ntmps88
  go_upto_region 2 with (first | (refine wpList_load_mid rfl 44 (.tmp 14) rfl bb (o + a * 2) rfl d.vals.toList _ HRG.out Tryd.underlying44 rfl (by show _ = some 2; exact size61') ?_; rw [Array.toArray_toList]) | (refine wpList_store_row rfl 44 (.tmp 7) (.tmp 15) rfl w.heap.size d.vals rfl rfl 44 #[.int .u8 0, .int .i64 0] HZ.out size61' rfl (allIn d) ?_))
  generalize World.setRow _ _ _ = W1 at HB1 HN1 ⊢
  have HK1 : Hid (CkAt W1 C t h) := HK.out.on HB1.out
  have HM1 : Hid (Mv w W1 (fun k => k = C)) := Mv.ofBelow HB1.out
  have x0 : W1.cell? ⟨w.heap.size, 0, none⟩ = some (.int .u8 d.k) := cell_of HN1.out 0
  have x1 : W1.cell? ⟨w.heap.size, 1, none⟩ = some (.int .i64 d.a) := cell_of HN1.out 1
  clear HZ HRG k0 k1 c4
  obtain rfl := HR.out
  clear HR
  cases h5 : (d.k == 5) with
  | true =>
    have hda : 1 ≤ d.a ∧ d.a ≤ 16 := hok.1 (by simpa using h5)
    have hdm : d.a % 256 = d.a := by omega
    cases h3 : decide (d.a ≤ 3) with
    | true =>
      cases h1 : decide (x ≥ 1) with
      | true =>
        have HE : Hid (goF h d a x = (comeB h (a + 1) x, comeH h (a + 1) x)) := by show _ = _; unfold goF and2; simp only [h5, h3, h1, reduceIte, Bool.false_eq_true, if_false, if_true]
        have cC := come_int C t h ((a : Int) + 1) x W1 HK1.out (by omega) (by omega)
        go_wp2_with fail
        refine cC.mono ?_
        rintro e w5 ⟨rfl, hm5, hk5⟩
        have HM5 : Hid (Mv w w5 (fun k => k = C)) := HM1.out.trans hm5 (fun _ e => .inl e)
        have HK5 : Hid (CkAt w5 C t (comeH h (a + 1) x)) := by first | exact hk5 | (have := hk5; simpa using this)
        clear cC hm5 hk5
        go_wp2_with fail
        go_ret
        exact ⟨by rw [HE.out]; rfl, HM5.out, by rw [HE.out]; exact HK5.out⟩
      | false =>
        have HE : Hid (goF h d a x = (false, h)) := by show _ = _; unfold goF and2; simp only [h5, h3, h1, reduceIte, Bool.false_eq_true, if_false, if_true]
        go_wp2_with fail
        go_ret
        exact ⟨by rw [HE.out]; rfl, HM1.out, by rw [HE.out]; exact HK1.out⟩
    | false =>
      cases h2 : decide (x ≥ 2) with
      | true =>
        have HE : Hid (goF h d a x = (comeB h (a + 1) (x - 1), comeH h (a + 1) (x - 1))) := by show _ = _; unfold goF and2; simp only [h5, h3, h2, reduceIte, Bool.false_eq_true, if_false, if_true]
        have cC := come_int C t h ((a : Int) + 1) (x - 1) W1 HK1.out (by omega) (by omega)
        go_wp2_with fail
        refine cC.mono ?_
        rintro e w5 ⟨rfl, hm5, hk5⟩
        have HM5 : Hid (Mv w w5 (fun k => k = C)) := HM1.out.trans hm5 (fun _ e => .inl e)
        have HK5 : Hid (CkAt w5 C t (comeH h (a + 1) (x - 1))) := by first | exact hk5 | (have := hk5; simpa using this)
        clear cC hm5 hk5
        go_wp2_with fail
        go_ret
        exact ⟨by rw [HE.out]; rfl, HM5.out, by rw [HE.out]; exact HK5.out⟩
      | false =>
        have HE : Hid (goF h d a x = (false, h)) := by show _ = _; unfold goF and2; simp only [h5, h3, h2, reduceIte, Bool.false_eq_true, if_false, if_true]
        go_wp2_with fail
        go_ret
        exact ⟨by rw [HE.out]; rfl, HM1.out, by rw [HE.out]; exact HK1.out⟩
  | false =>
    cases h6 : (d.k == 6) with
    | true =>
      obtain ⟨hj0, hj1⟩ : (a : Int) + 1 ≤ d.a ∧ d.a ≤ 4096 := hok.2 (by simp at h6; omega) (by simp at h6; omega)
      have cC := come_int C t h d.a x W1 HK1.out (by omega) (by omega)
      cases hb : comeB h d.a.toNat x with
      | false =>
        rw [hb] at cC
        have HE : Hid (goF h d a x = (false, comeH h d.a.toNat x)) := by show _ = _; unfold goF and2; simp only [h5, h6, hb, reduceIte, Bool.false_eq_true, if_false, if_true]
        go_wp2_with fail
        refine cC.mono ?_
        rintro e w5 ⟨rfl, hm5, hk5⟩
        have HM5 : Hid (Mv w w5 (fun k => k = C)) := HM1.out.trans hm5 (fun _ e => .inl e)
        have HK5 : Hid (CkAt w5 C t (comeH h d.a.toNat x)) := hk5
        clear cC hm5 hk5
        go_wp2_with fail
        go_ret
        exact ⟨by rw [HE.out]; rfl, HM5.out, by rw [HE.out]; exact HK5.out⟩
      | true =>
        rw [hb] at cC
        have HE : Hid (goF h d a x = (comeB (comeH h d.a.toNat x) (a + 1) (x - 1), comeH (comeH h d.a.toNat x) (a + 1) (x - 1))) := by show _ = _; unfold goF and2; simp only [h5, h6, hb, reduceIte, Bool.false_eq_true, if_false, if_true]
        go_wp2_with fail
        refine cC.mono ?_
        rintro e w5 ⟨rfl, hm5, hk5⟩
        have HM5 : Hid (Mv w w5 (fun k => k = C)) := HM1.out.trans hm5 (fun _ e => .inl e)
        have cD := come_int C t (comeH h d.a.toNat x) ((a : Int) + 1) (x - 1) w5 hk5 (by omega) (by omega)
        clear cC hm5 hk5
        go_wp2_with fail
        refine cD.mono ?_
        rintro e w6 ⟨rfl, hm6, hk6⟩
        have HM6 : Hid (Mv w w6 (fun k => k = C)) := HM5.out.trans hm6 (fun _ e => .inl e)
        have HK6 : Hid (CkAt w6 C t (comeH (comeH h d.a.toNat x) (a + 1) (x - 1))) := hk6
        clear cD hm6 hk6
        go_wp2_with fail
        go_ret
        exact ⟨by rw [HE.out]; rfl, HM6.out, by rw [HE.out]; exact HK6.out⟩
    | false =>
      cases h7 : (d.k == 7) with
      | true =>
        obtain ⟨hj0, hj1⟩ : (a : Int) + 1 ≤ d.a ∧ d.a ≤ 4096 := hok.2 (by simp at h7; omega) (by simp at h7; omega)
        have cC := come_int C t h d.a x W1 HK1.out (by omega) (by omega)
        cases hb : comeB h d.a.toNat x with
        | false =>
          rw [hb] at cC
          have HE : Hid (goF h d a x = (false, comeH h d.a.toNat x)) := by show _ = _; unfold goF and2; simp only [h5, h6, h7, hb, reduceIte, Bool.false_eq_true, if_false, if_true]
          go_wp2_with fail
          refine cC.mono ?_
          rintro e w5 ⟨rfl, hm5, hk5⟩
          have HM5 : Hid (Mv w w5 (fun k => k = C)) := HM1.out.trans hm5 (fun _ e => .inl e)
          have HK5 : Hid (CkAt w5 C t (comeH h d.a.toNat x)) := hk5
          clear cC hm5 hk5
          go_wp2_with fail
          go_ret
          exact ⟨by rw [HE.out]; rfl, HM5.out, by rw [HE.out]; exact HK5.out⟩
        | true =>
          rw [hb] at cC
          have HE : Hid (goF h d a x = (comeB (comeH h d.a.toNat x) (a + 1) (x - 1), comeH (comeH h d.a.toNat x) (a + 1) (x - 1))) := by show _ = _; unfold goF and2; simp only [h5, h6, h7, hb, reduceIte, Bool.false_eq_true, if_false, if_true]
          go_wp2_with fail
          refine cC.mono ?_
          rintro e w5 ⟨rfl, hm5, hk5⟩
          have HM5 : Hid (Mv w w5 (fun k => k = C)) := HM1.out.trans hm5 (fun _ e => .inl e)
          have cD := come_int C t (comeH h d.a.toNat x) ((a : Int) + 1) (x - 1) w5 hk5 (by omega) (by omega)
          clear cC hm5 hk5
          go_wp2_with fail
          refine cD.mono ?_
          rintro e w6 ⟨rfl, hm6, hk6⟩
          have HM6 : Hid (Mv w w6 (fun k => k = C)) := HM5.out.trans hm6 (fun _ e => .inl e)
          have HK6 : Hid (CkAt w6 C t (comeH (comeH h d.a.toNat x) (a + 1) (x - 1))) := hk6
          clear cD hm6 hk6
          go_wp2_with fail
          go_ret
          exact ⟨by rw [HE.out]; rfl, HM6.out, by rw [HE.out]; exact HK6.out⟩
      | false =>
        cases h8 : (d.k == 8) with
        | true =>
          obtain ⟨hj0, hj1⟩ : (a : Int) + 1 ≤ d.a ∧ d.a ≤ 4096 := hok.2 (by simp at h8; omega) (by simp at h8; omega)
          have cC := come_int C t h d.a (x - 1) W1 HK1.out (by omega) (by omega)
          cases hb : comeB h d.a.toNat (x - 1) with
          | false =>
            rw [hb] at cC
            have HE : Hid (goF h d a x = (false, comeH h d.a.toNat (x - 1))) := by show _ = _; unfold goF and2; simp only [h5, h6, h7, h8, hb, reduceIte, Bool.false_eq_true, if_false, if_true]
            go_wp2_with fail
            refine cC.mono ?_
            rintro e w5 ⟨rfl, hm5, hk5⟩
            have HM5 : Hid (Mv w w5 (fun k => k = C)) := HM1.out.trans hm5 (fun _ e => .inl e)
            have HK5 : Hid (CkAt w5 C t (comeH h d.a.toNat (x - 1))) := hk5
            clear cC hm5 hk5
            go_wp2_with fail
            go_ret
            exact ⟨by rw [HE.out]; rfl, HM5.out, by rw [HE.out]; exact HK5.out⟩
          | true =>
            rw [hb] at cC
            have HE : Hid (goF h d a x = (comeB (comeH h d.a.toNat (x - 1)) (a + 1) (x - 1), comeH (comeH h d.a.toNat (x - 1)) (a + 1) (x - 1))) := by show _ = _; unfold goF and2; simp only [h5, h6, h7, h8, hb, reduceIte, Bool.false_eq_true, if_false, if_true]
            go_wp2_with fail
            refine cC.mono ?_
            rintro e w5 ⟨rfl, hm5, hk5⟩
            have HM5 : Hid (Mv w w5 (fun k => k = C)) := HM1.out.trans hm5 (fun _ e => .inl e)
            have cD := come_int C t (comeH h d.a.toNat (x - 1)) ((a : Int) + 1) (x - 1) w5 hk5 (by omega) (by omega)
            clear cC hm5 hk5
            go_wp2_with fail
            refine cD.mono ?_
            rintro e w6 ⟨rfl, hm6, hk6⟩
            have HM6 : Hid (Mv w w6 (fun k => k = C)) := HM5.out.trans hm6 (fun _ e => .inl e)
            have HK6 : Hid (CkAt w6 C t (comeH (comeH h d.a.toNat (x - 1)) (a + 1) (x - 1))) := hk6
            clear cD hm6 hk6
            go_wp2_with fail
            go_ret
            exact ⟨by rw [HE.out]; rfl, HM6.out, by rw [HE.out]; exact HK6.out⟩
        | false =>
          cases h9 : (d.k == 9) with
          | true =>
            obtain ⟨hj0, hj1⟩ : (a : Int) + 1 ≤ d.a ∧ d.a ≤ 4096 := hok.2 (by simp at h9; omega) (by simp at h9; omega)
            have HE : Hid (goF h d a x = (comeB h d.a.toNat x, comeH h d.a.toNat x)) := by show _ = _; unfold goF and2; simp only [h5, h6, h7, h8, h9, reduceIte, Bool.false_eq_true, if_false, if_true]
            have cC := come_int C t h d.a x W1 HK1.out (by omega) (by omega)
            go_wp2_with fail
            refine cC.mono ?_
            rintro e w5 ⟨rfl, hm5, hk5⟩
            have HM5 : Hid (Mv w w5 (fun k => k = C)) := HM1.out.trans hm5 (fun _ e => .inl e)
            have HK5 : Hid (CkAt w5 C t (comeH h d.a.toNat x)) := by first | exact hk5 | (have := hk5; simpa using this)
            clear cC hm5 hk5
            go_wp2_with fail
            go_ret
            exact ⟨by rw [HE.out]; rfl, HM5.out, by rw [HE.out]; exact HK5.out⟩
          | false =>
            have HE : Hid (goF h d a x = (comeB h (a + 1) (x + 1), comeH h (a + 1) (x + 1))) := by show _ = _; unfold goF and2; simp only [h5, h6, h7, h8, h9, reduceIte, Bool.false_eq_true, if_false, if_true]
            have cC := come_int C t h ((a : Int) + 1) (x + 1) W1 HK1.out (by omega) (by omega)
            go_wp2_with fail
            refine cC.mono ?_
            rintro e w5 ⟨rfl, hm5, hk5⟩
            have HM5 : Hid (Mv w w5 (fun k => k = C)) := HM1.out.trans hm5 (fun _ e => .inl e)
            have HK5 : Hid (CkAt w5 C t (comeH h (a + 1) (x + 1))) := by first | exact hk5 | (have := hk5; simpa using this)
            clear cC hm5 hk5
            go_wp2_with fail
            go_ret
            exact ⟨by rw [HE.out]; rfl, HM5.out, by rw [HE.out]; exact HK5.out⟩
end Go.Proofs.YteedmmljahgpjabDoor

/-
  Do a span's heights fit; what is wrong with a span?
-/
namespace Go.Proofs.YteedmmljahgpjabDoor
open Go.RowKit
set_option linter.unusedVariables false
set_option linter.unusedSimpArgs false
structure Cx (w0 : World) (C : Nat) (t : TbM) (w : World) (h : Nat → Int) : Prop where
  T : TbL w0 t
  B : Below w0.heap.size w0 w
  G : w0.heap.size ≤ C
  K : CkAt w C t h
  O : HOk h
theorem Cx.below {w0 w w' : World} {C : Nat} {t : TbM} {h : Nat → Int} (c : Cx w0 C t w h) (m : Mv w w' (fun k => k = C)) : Below w0.heap.size w0 w' := c.B.trans (m.below c.B.size (by rintro _ rfl; exact c.G))
theorem Cx.mv {w0 w w' : World} {C : Nat} {t : TbM} {h h' : Nat → Int} (c : Cx w0 C t w h) (m : Mv w w' (fun k => k = C)) (k : CkAt w' C t h') (o : HOk h') : Cx w0 C t w' h' := ⟨c.T, c.below m, c.G, k, o⟩
theorem Cx.on {w0 w w' : World} {C : Nat} {t : TbM} {h : Nat → Int} (c : Cx w0 C t w h) (b : Below w.heap.size w w') : Cx w0 C t w' h := ⟨c.T, below2 c.B b, c.G, c.K.on b, c.O⟩
theorem Cx.tb {w0 w : World} {C : Nat} {t : TbM} {h : Nat → Int} (c : Cx w0 C t w h) : TbL w t := c.T.on c.B
def fitsL (ds : List InM) : Nat → Nat → (Nat → Int) → Bool × (Nat → Int)
  | 0, a, h => (h a == 2, h)
  | n + 1, a, h => if h a == 0 then (false, h) else if (goF h (ds.getD a ⟨0, 0⟩) a (h a - 1)).1 then fitsL ds n (a + 1) (goF h (ds.getD a ⟨0, 0⟩) a (h a - 1)).2 else (false, (goF h (ds.getD a ⟨0, 0⟩) a (h a - 1)).2)
theorem fitsL_ok (ds : List InM) : ∀ (n a : Nat) (h : Nat → Int), HOk h → HOk (fitsL ds n a h).2
  | 0, a, h, k => k
  | n + 1, a, h, k => by
    unfold fitsL
    split
    · exact k
    · split
      · exact fitsL_ok ds n (a + 1) _ (goF_ok k _ _ _)
      · exact goF_ok k _ _ _
theorem upd_ok {h : Nat → Int} (k : HOk h) (a : Nat) : HOk (upd h a 1) := by
  intro j
  unfold upd
  split
  · omega
  · exact k j
theorem stand_ok {t : TbM} {d : InM} {a b : Int} (h : standB t d a b = true) (hb : b ≤ 4096) : (d.k = 5 → 1 ≤ d.a ∧ d.a ≤ 16) ∧ (6 ≤ d.k → d.k ≤ 9 → a + 1 ≤ d.a ∧ d.a ≤ 4096) := by
  unfold standB withinB at h
  constructor
  · intro e
    rw [e] at h
    simpa using h
  · intro h6 h9
    obtain e | e | e | e : d.k = 6 ∨ d.k = 7 ∨ d.k = 8 ∨ d.k = 9 := by omega
    all_goals
      rw [e] at h
      simp at h
      omega
set_option maxRecDepth 100000 in
set_option maxHeartbeats 4000000 in
theorem fits_any (C : Nat) (t : TbM) (h : Nat → Int) (f b : Nat) (w : World) (w0 : World) (hc : Cx w0 C t w h) (hfb : f < b) (hbd : b ≤ t.ds.length) (hd : t.ds.length ≤ 4096) (hst : ∀ a : Nat, f ≤ a → a < b → standB t (t.ds.getD a ⟨0, 0⟩) a b = true) : Calls Tryd.prog 72 #[.pointer (some ⟨C, 0, none⟩), .agg (Sp.vals ⟨f, b⟩)] w fun e w' => e = .returned (.bool (fitsL t.ds (b - f) f (upd h f 1)).1) ∧ Mv w w' (fun k => k = C) ∧ CkAt w' C t (fitsL t.ds (b - f) f (upd h f 1)).2 := by
  have hb1 := below_new w (.cells (Sp.vals ⟨f, b⟩) 48)
  have hn1 := heap_new w (.cells (Sp.vals ⟨f, b⟩) 48)
  obtain ⟨W1, e1⟩ : ∃ W, w.alloc (.cells (Sp.vals ⟨f, b⟩) 48) = W := ⟨_, rfl⟩
  have E1 : Hid (w.alloc (.cells (Sp.vals ⟨f, b⟩) 48) = W1) := e1
  rw [e1] at hb1 hn1
  have HB1 : Hid (Below w.heap.size w W1) := hb1
  have c0 : W1.cell? ⟨w.heap.size, 0, none⟩ = some (.int .i64 f) := cell_of hn1 0
  have c1 : W1.cell? ⟨w.heap.size, 1, none⟩ = some (.int .i64 b) := cell_of hn1 1
  have HN1 : Hid (W1.heap[w.heap.size]? = some (.cells (Sp.vals ⟨f, b⟩) 48 (0, 0))) := hn1
  have HS1 : Hid (W1.heap.size = w.heap.size + 1) := by show _ = _; rw [← e1]; exact size_alloc _ _
  clear hb1 e1 hn1
  obtain ⟨R, eR⟩ : ∃ R, fitsL t.ds (b - f) f (upd h f 1) = R := ⟨_, rfl⟩
  rw [eR]
  have HR : Hid (R = fitsL t.ds (b - f) f (upd h f 1)) := eR.symm
  have HOK : Hid (∀ a : Nat, f ≤ a → a < b → standB t (t.ds.getD a ⟨0, 0⟩) a b = true) := hst
  have HCX : Hid (Cx w0 C t w h) := hc
  have hk := hc.K
  have hh := hc.O
  have HH : Hid (HOk (upd h f 1)) := upd_ok hh f
  have hf1 : (f : Int) < 4097 := by omega
  have hb1 : (b : Int) < 4097 := by omega
  have hk1 := hk.on HB1.out
  have ca := hk1.H f (by omega)
  have fa := hk1.F (6 + f)
  have HCL : Hid (C < w.heap.size) := hk.L
  have HKS : Hid (CkAt (W1.setCell ⟨C, 6 + f, none⟩ (.int .u8 1)).drew C t (upd h f 1)) := (hk1.set f (by omega) 1).on (w' := (W1.setCell ⟨C, 6 + f, none⟩ (.int .u8 1)).drew) ⟨rfl, rfl, rfl, Nat.le_refl _, fun _ _ => rfl⟩
  have HMS : Hid (Mv w (W1.setCell ⟨C, 6 + f, none⟩ (.int .u8 1)).drew (fun k => k = C)) := ((Mv.ofBelow (F := fun k => k = C) HB1.out).setCell (a := ⟨C, 6 + f, none⟩) (.inl rfl) _).drew
  have HNS : Hid ((W1.setCell ⟨C, 6 + f, none⟩ (.int .u8 1)).drew.heap[w.heap.size]? = some (.cells (Sp.vals ⟨f, b⟩) 48 (0, 0))) := (heap_setCell_other _ _ _ _ (by show w.heap.size ≠ C; have := HCL.out; omega)).trans HN1.out
  clear eR hst hk hk1 hh hc
  go_enter Tryd.func72, Tryd.ntmps72
  go_upto_region 1 with fail
  rw [E1.out]
  clear E1
  go_region
  generalize (W1.setCell ⟨C, 6 + f, none⟩ (.int .u8 1)).drew = U at HKS HMS HNS ⊢
  have x0 : U.cell? ⟨w.heap.size, 0, none⟩ = some (.int .i64 f) := cell_of HNS.out 0
  clear c0 c1 ca fa HB1 HN1 HS1
  go_wp2_with fail
  go_loopw [5] (fun q wr => ∃ (a : Nat) (g : Nat → Int), f ≤ a ∧ a ≤ b ∧ q = .int .i64 a ∧ Hid (CkAt wr C t g) ∧ Hid (HOk g) ∧ Hid (Mv w wr (fun k => k = C)) ∧ Hid (wr.heap[w.heap.size]? = some (.cells (Sp.vals ⟨f, b⟩) 48 (0, 0))) ∧ Hid (R = fitsL t.ds (b - a) a g)) (fun q _ => b - (intOf q).toNat)
  case atStart => exact ⟨f, _, by omega, by omega, rfl, HKS, HH, HMS, HNS, HR⟩
  case round =>
    obtain ⟨a, g, hfa, hab, rfl, HKR, HHR, HMR, HNR, HRR⟩ := hrel
    have y1 : wr.cell? ⟨w.heap.size, 1, none⟩ = some (.int .i64 b) := cell_of HNR.out 1
    have ya := HKR.out.H a (by omega)
    have hy := HHR.out a
    have ha1 : (a : Int) < 4097 := by omega
    by_cases hlt : a < b
    · have hlt' : (a : Int) < (b : Int) := by omega
      obtain ⟨n, en⟩ : ∃ n, b - a = n + 1 := ⟨b - a - 1, by omega⟩
      have HD : Hid (R = if g a == 0 then (false, g) else if (goF g (t.ds.getD a ⟨0, 0⟩) a (g a - 1)).1 then fitsL t.ds (b - (a + 1)) (a + 1) (goF g (t.ds.getD a ⟨0, 0⟩) a (g a - 1)).2 else (false, (goF g (t.ds.getD a ⟨0, 0⟩) a (g a - 1)).2)) := by show _ = _; rw [HRR.out, en, show b - (a + 1) = n by omega]; rfl
      have cG := goOn_any C t g a (g a - 1) wr HKR.out (HCX.out.T.on (HCX.out.below HMR.out)) hd (by omega) (by omega) (stand_ok (HOK.out a hfa hlt) (by omega))
      have HGO : Hid (HOk (goF g (t.ds.getD a ⟨0, 0⟩) a (g a - 1)).2) := goF_ok HHR.out _ _ _
      obtain ⟨S, eS⟩ : ∃ S, goF g (t.ds.getD a ⟨0, 0⟩) a (g a - 1) = S := ⟨_, rfl⟩
      rw [eS] at HD cG HGO
      obtain ⟨y, ey⟩ : ∃ y, g a = y := ⟨_, rfl⟩
      rw [ey] at HD cG ya hy
      clear eS en HRR ey
      cases hz : (y == 0) with
      | true =>
        have HX : Hid (R = (false, g)) := by show _ = _; rw [HD.out, if_pos hz]
        go_wp2_with fail
        go_ret
        exact ⟨by rw [HX.out]; rfl, HMR.out, by rw [HX.out]; exact HKR.out⟩
      | false =>
        cases hS : S.1 with
        | false =>
          have HX : Hid (R = (false, S.2)) := by show _ = _; rw [HD.out, if_neg (by simp [hz]), if_neg (by simp [hS])]
          rw [hS] at cG
          go_wp2_with fail
          refine cG.mono ?_
          rintro e w5 ⟨rfl, hm5, hk5⟩
          have HM5 : Hid (Mv w w5 (fun k => k = C)) := HMR.out.trans hm5 (fun _ e => .inl e)
          have HK5 : Hid (CkAt w5 C t S.2) := hk5
          clear cG hm5 hk5
          go_wp2_with fail
          go_ret
          exact ⟨by rw [HX.out]; rfl, HM5.out, by rw [HX.out]; exact HK5.out⟩
        | true =>
          have HX : Hid (R = fitsL t.ds (b - (a + 1)) (a + 1) S.2) := by show _ = _; rw [HD.out, if_neg (by simp [hz]), if_pos hS]
          rw [hS] at cG
          go_wp2_with fail
          refine cG.mono ?_
          rintro e w5 ⟨rfl, hm5, hk5⟩
          have HM5 : Hid (Mv w w5 (fun k => k = C)) := HMR.out.trans hm5 (fun _ e => .inl e)
          have HK5 : Hid (CkAt w5 C t S.2) := hk5
          have HN5 : Hid (w5.heap[w.heap.size]? = some (.cells (Sp.vals ⟨f, b⟩) 48 (0, 0))) := (hm5.block _ (Array.getElem?_eq_some_iff.1 HNR.out).1 (by have := HCL.out; omega)).trans HNR.out
          clear cG hm5 hk5
          go_wp2_with fail
          exact ⟨⟨a + 1, S.2, by omega, hlt, rfl, HK5, HGO, HM5, HN5, HX⟩, by simp only [intOf]; omega⟩
    · obtain rfl : a = b := by omega
      have hnot : ¬ (a : Int) < (a : Int) := by omega
      have HX : Hid (R = (g a == 2, g)) := by show _ = _; rw [HRR.out, Nat.sub_self]; rfl
      have HMD : Hid (∀ n, Mv w (wr.drewN n) (fun k => k = C)) := fun n => HMR.out.trans (show Mv wr (wr.drewN n) (fun _ => False) from Mv.ofBelow ⟨rfl, rfl, rfl, Nat.le_refl _, fun _ _ => rfl⟩) (fun _ e => e.elim)
      have HKD : Hid (∀ n, CkAt (wr.drewN n) C t g) := fun n => HKR.out.on ⟨rfl, rfl, rfl, Nat.le_refl _, fun _ _ => rfl⟩
      go_wp2_with fail
      go_quiet (fail)
      go_wp2_with fail
      go_ret
      exact ⟨by rw [HX.out]; rfl, HMD.out _, by rw [HX.out]; exact HKD.out _⟩
def standsL (t : TbM) (b : Nat) : Nat → Nat → Bool
  | 0, _ => true
  | n + 1, a => standB t (t.ds.getD a ⟨0, 0⟩) a b && standsL t b n (a + 1)
theorem standsL_all {t : TbM} {b : Nat} : ∀ (n a : Nat), standsL t b n a = true → ∀ j, a ≤ j → j < a + n → standB t (t.ds.getD j ⟨0, 0⟩) j b = true
  | 0, a, _, j, h1, h2 => by omega
  | n + 1, a, h, j, h1, h2 => by
    unfold standsL at h
    rw [Bool.and_eq_true] at h
    by_cases e : j = a
    · rw [e]; exact h.1
    · exact standsL_all n (a + 1) h.2 j (by omega) (by omega)
def spanE (t : TbM) (h : Nat → Int) (f b : Nat) : Int × (Nat → Int) := if standsL t b (b - f) f then (if (fitsL t.ds (b - f) f (upd h f 1)).1 then (0, (fitsL t.ds (b - f) f (upd h f 1)).2) else (192, (fitsL t.ds (b - f) f (upd h f 1)).2)) else (191, h)
theorem spanE_ok (t : TbM) {h : Nat → Int} (k : HOk h) (f b : Nat) : HOk (spanE t h f b).2 := by
  unfold spanE
  split
  · split
    · exact fitsL_ok _ _ _ _ (upd_ok k f)
    · exact fitsL_ok _ _ _ _ (upd_ok k f)
  · exact k
set_option maxRecDepth 100000 in
set_option maxHeartbeats 4000000 in
theorem span_any (C : Nat) (t : TbM) (h : Nat → Int) (f b : Nat) (w : World) (w0 : World) (hc : Cx w0 C t w h) (hfb : f < b) (hbd : b ≤ t.ds.length) (hs : t.rs.length ≤ 12 ∧ t.cs.length ≤ 1024 ∧ t.ds.length ≤ 4096) : Calls Tryd.prog 55 #[.pointer (some ⟨C, 0, none⟩), .agg (Sp.vals ⟨f, b⟩)] w fun e w' => e = .returned (.int .i64 (spanE t h f b).1) ∧ Mv w w' (fun k => k = C) ∧ CkAt w' C t (spanE t h f b).2 := by
  have hb1 := below_new w (.cells (Sp.vals ⟨f, b⟩) 48)
  have hn1 := heap_new w (.cells (Sp.vals ⟨f, b⟩) 48)
  obtain ⟨W1, e1⟩ : ∃ W, w.alloc (.cells (Sp.vals ⟨f, b⟩) 48) = W := ⟨_, rfl⟩
  have E1 : Hid (w.alloc (.cells (Sp.vals ⟨f, b⟩) 48) = W1) := e1
  rw [e1] at hb1 hn1
  have HB1 : Hid (Below w.heap.size w W1) := hb1
  have c0 : W1.cell? ⟨w.heap.size, 0, none⟩ = some (.int .i64 f) := cell_of hn1 0
  have c1 : W1.cell? ⟨w.heap.size, 1, none⟩ = some (.int .i64 b) := cell_of hn1 1
  have HN1 : Hid (W1.heap[w.heap.size]? = some (.cells (Sp.vals ⟨f, b⟩) 48 (0, 0))) := hn1
  have HS1 : Hid (W1.heap.size = w.heap.size + 1) := by show _ = _; rw [← e1]; exact size_alloc _ _
  clear hb1 e1 hn1
  obtain ⟨R, eR⟩ : ∃ R, spanE t h f b = R := ⟨_, rfl⟩
  rw [eR]
  have HR : Hid (R = if standsL t b (b - f) f then (if (fitsL t.ds (b - f) f (upd h f 1)).1 then (0, (fitsL t.ds (b - f) f (upd h f 1)).2) else (192, (fitsL t.ds (b - f) f (upd h f 1)).2)) else (191, h)) := eR.symm
  have HCX : Hid (Cx w0 C t W1 h) := hc.on HB1.out
  have HM1 : Hid (Mv w W1 (fun k => k = C)) := Mv.ofBelow HB1.out
  obtain ⟨S, eS⟩ : ∃ S, standsL t b (b - f) f = S := ⟨_, rfl⟩
  have HS : Hid (S = standsL t b (b - f) f) := eS.symm
  have hlen : f < b := hfb
  clear eR eS hc
  go_enter Tryd.func55, Tryd.ntmps55
  go_upto_region 1 with fail
  rw [E1.out]
  clear E1
  go_wp2_with fail
  go_loopw [5] (fun q wr => ∃ (a : Nat), f ≤ a ∧ a ≤ b ∧ q = .int .i64 a ∧ wr = W1 ∧ Hid (S = standsL t b (b - a) a)) (fun q _ => b - (intOf q).toNat)
  case atStart => exact ⟨f, by omega, by omega, rfl, rfl, HS⟩
  case round =>
    obtain ⟨a, hfa, hab, rfl, rfl, HRR⟩ := hrel
    by_cases hlt : a < b
    · have hlt' : (a : Int) < (b : Int) := by omega
      obtain ⟨n, en⟩ : ∃ n, b - a = n + 1 := ⟨b - a - 1, by omega⟩
      have HD : Hid (S = (standB t (t.ds.getD a ⟨0, 0⟩) a b && standsL t b (b - (a + 1)) (a + 1))) := by show _ = _; rw [HRR.out, en, show b - (a + 1) = n by omega]; rfl
      have cS := stands_any C t h a b wr HCX.out.K HCX.out.tb hs (by omega)
      clear en HRR
      cases hz : standB t (t.ds.getD a ⟨0, 0⟩) a b with
      | false =>
        rw [hz] at cS
        have HX : Hid (R = (191, h)) := by show _ = _; rw [HR.out, ← HS.out, HD.out, hz]; rfl
        go_wp2_with fail
        refine cS.mono ?_
        rintro e w5 ⟨rfl, rfl⟩
        go_wp2_with fail
        go_ret
        exact ⟨by rw [HX.out]; rfl, HM1.out, by rw [HX.out]; exact HCX.out.K⟩
      | true =>
        rw [hz] at cS
        have HX : Hid (S = standsL t b (b - (a + 1)) (a + 1)) := by show _ = _; rw [HD.out, hz]; rfl
        go_wp2_with fail
        refine cS.mono ?_
        rintro e w5 ⟨rfl, rfl⟩
        go_wp2_with fail
        exact ⟨⟨a + 1, by omega, hlt, rfl, by first | rfl | trivial, HX⟩, by simp only [intOf]; omega⟩
    · obtain rfl : a = b := by omega
      have hnot : ¬ (a : Int) < (a : Int) := by omega
      have hS1 : S = true := by rw [HRR.out, Nat.sub_self]; rfl
      have hS2 : standsL t a (a - f) f = true := by rw [← HS.out]; exact hS1
      have HD : Hid (R = if (fitsL t.ds (a - f) f (upd h f 1)).1 then (0, (fitsL t.ds (a - f) f (upd h f 1)).2) else (192, (fitsL t.ds (a - f) f (upd h f 1)).2)) := by show _ = _; rw [HR.out, if_pos hS2]
      have cF := fits_any C t h f a wr w0 HCX.out hlen (by omega) hs.2.2 (fun j h1 h2 => standsL_all (a - f) f hS2 j h1 (by omega))
      obtain ⟨Q, eQ⟩ : ∃ Q, fitsL t.ds (a - f) f (upd h f 1) = Q := ⟨_, rfl⟩
      rw [eQ] at cF HD
      clear hS1 hS2 HR HS HRR eQ
      cases hq : Q.1 with
      | true =>
        rw [hq] at cF
        have HX : Hid (R = (0, Q.2)) := by show _ = _; rw [HD.out, if_pos hq]
        go_wp2_with fail
        refine cF.mono ?_
        rintro e w5 ⟨rfl, hm5, hk5⟩
        have HM5 : Hid (Mv w w5 (fun k => k = C)) := HM1.out.trans hm5 (fun _ e => .inl e)
        have HK5 : Hid (CkAt w5 C t Q.2) := hk5
        clear cF hm5 hk5
        go_wp2_with fail
        go_ret
        exact ⟨by rw [HX.out]; rfl, HM5.out, by rw [HX.out]; exact HK5.out⟩
      | false =>
        rw [hq] at cF
        have HX : Hid (R = (192, Q.2)) := by show _ = _; rw [HD.out, if_neg (by simp [hq])]
        go_wp2_with fail
        refine cF.mono ?_
        rintro e w5 ⟨rfl, hm5, hk5⟩
        have HM5 : Hid (Mv w w5 (fun k => k = C)) := HM1.out.trans hm5 (fun _ e => .inl e)
        have HK5 : Hid (CkAt w5 C t Q.2) := hk5
        clear cF hm5 hk5
        go_wp2_with fail
        go_ret
        exact ⟨by rw [HX.out]; rfl, HM5.out, by rw [HX.out]; exact HK5.out⟩
end Go.Proofs.YteedmmljahgpjabDoor
