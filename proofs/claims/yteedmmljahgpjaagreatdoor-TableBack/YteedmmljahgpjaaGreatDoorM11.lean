import Derived.Test.YteedmmljahgpjaaGreatDoorM10
/-
  The checker in memory; a place is come to with a height.
-/
namespace Go.Proofs.YteedmmljahgpjaaGreatDoor
open Go.RowKit
set_option linter.unusedVariables false
set_option linter.unusedSimpArgs false
structure CkAt (w : World) (C : Nat) (t : TbM) (h : Nat → Int) : Prop where
  T : ∀ j, j < 6 → w.cell? ⟨C, j, none⟩ = t.vals[j]?
  H : ∀ j, j < 4097 → w.cell? ⟨C, 6 + j, none⟩ = some (.int .u8 (h j))
  F : ∀ k, w.frozen? ⟨C, k, none⟩ = false
  L : C < w.heap.size
theorem CkAt.blk {w w' : World} {C : Nat} {t : TbM} {h : Nat → Int} (k : CkAt w C t h) (e : w'.heap[C]? = w.heap[C]?) (hs : w.heap.size ≤ w'.heap.size) : CkAt w' C t h :=
  ⟨fun j hj => by rw [World.cell?_of_block e]; exact k.T j hj, fun j hj => by rw [World.cell?_of_block e]; exact k.H j hj, fun j => by rw [← k.F j]; unfold World.frozen?; rw [e], Nat.lt_of_lt_of_le k.L hs⟩
theorem CkAt.on {w w' : World} {C : Nat} {t : TbM} {h : Nat → Int} (k : CkAt w C t h) (b : Below w.heap.size w w') : CkAt w' C t h := k.blk (b.block C k.L) b.size
theorem cs_same {w : World} {a : Addr} {u : Value} (v : Value) (h : w.cell? a = some u) : (w.setCell a v).cell? a = some v := World.cell?_setCell_same (h := h) ..
theorem cs_other {w : World} {G x y : Nat} (v : Value) (h : x ≠ y) : (w.setCell ⟨G, x, none⟩ v).cell? ⟨G, y, none⟩ = w.cell? ⟨G, y, none⟩ := World.cell?_setCell_other (h := fun e => h (by injection e)) ..
def upd (h : Nat → Int) (a : Nat) (x : Int) : Nat → Int := fun j => if j = a then x else h j
theorem CkAt.set {w : World} {C : Nat} {t : TbM} {h : Nat → Int} (k : CkAt w C t h) (a : Nat) (ha : a < 4097) (x : Int) : CkAt (w.setCell ⟨C, 6 + a, none⟩ (.int .u8 x)) C t (upd h a x) := by
  refine ⟨fun j hj => ?_, fun j hj => ?_, fun j => ?_, ?_⟩
  · rw [cs_other _ (by omega)]; exact k.T j hj
  · unfold upd
    by_cases e : j = a
    · subst e; rw [if_pos rfl]; exact cs_same _ (k.H j hj)
    · rw [if_neg e, cs_other _ (by omega)]; exact k.H j hj
  · rw [World.frozen?_setCell]; exact k.F j
  · rw [World.size_setCell]; exact k.L
def comeB (h : Nat → Int) (a : Nat) (x : Int) : Bool := withinB 0 x 64 && (h a == 0 || h a == x + 1)
def comeH (h : Nat → Int) (a : Nat) (x : Int) : Nat → Int := if withinB 0 x 64 then upd h a (x + 1) else h
def HOk (h : Nat → Int) : Prop := ∀ j, 0 ≤ h j ∧ h j ≤ 65
theorem comeH_ok {h : Nat → Int} (k : HOk h) (a : Nat) (x : Int) : HOk (comeH h a x) := by
  unfold comeH
  cases hw : withinB 0 x 64 with
  | false => simpa using k
  | true =>
    obtain ⟨h0, h1⟩ : 0 ≤ x ∧ x ≤ 64 := by simpa [withinB] using hw
    intro j
    simp only [if_true, upd]
    split
    · omega
    · exact k j
set_option maxRecDepth 100000 in
set_option maxHeartbeats 4000000 in
theorem come_any (C : Nat) (t : TbM) (h : Nat → Int) (a : Nat) (x : Int) (w : World) (hk : CkAt w C t h) (ha : a < 4097) : Calls Tryz.prog 154 #[.pointer (some ⟨C, 0, none⟩), .int .i64 a, .int .i64 x] w fun e w' => e = .returned (.bool (comeB h a x)) ∧ Mv w w' (fun k => k = C) ∧ CkAt w' C t (comeH h a x) := by
  have cW := within_any 0 x 64 w
  unfold comeB comeH
  cases hw : withinB 0 x 64 with
  | false =>
    rw [hw] at cW
    have HK : Hid (CkAt w C t h) := hk
    clear hk ha
    go_enter Tryz.func154, Tryz.ntmps154
    go_wp2_with fail
    refine cW.mono ?_
    rintro e w5 ⟨rfl, rfl⟩
    go_wp2_with fail
    go_ret
    exact ⟨rfl, Mv.refl _ _, HK.out⟩
  | true =>
    rw [hw] at cW
    obtain ⟨h0, h1⟩ : 0 ≤ x ∧ x ≤ 64 := by simpa [withinB] using hw
    have ca := hk.H a ha
    have fa := hk.F (6 + a)
    have hx : x % 256 = x := by omega
    have hx1 : (x + 1) % 256 = x + 1 := by omega
    have ha1 : (a : Int) < 4097 := by omega
    have HK : Hid (CkAt (w.setCell ⟨C, 6 + a, none⟩ (.int .u8 (x + 1))) C t (upd h a (x + 1))) := hk.set a ha _
    have HM : Hid (Mv w (w.setCell ⟨C, 6 + a, none⟩ (.int .u8 (x + 1))) (fun k => k = C)) := (Mv.refl w (fun k => k = C)).setCell (a := ⟨C, 6 + a, none⟩) (.inl rfl) _
    clear hk
    cases hz : (h a == 0) with
    | true =>
      go_enter Tryz.func154, Tryz.ntmps154
      go_wp2_with fail
      refine cW.mono ?_
      rintro e w5 ⟨rfl, rfl⟩
      go_wp2_with fail
      go_ret
      exact ⟨rfl, HM.out, HK.out⟩
    | false =>
      go_enter Tryz.func154, Tryz.ntmps154
      go_wp2_with fail
      refine cW.mono ?_
      rintro e w5 ⟨rfl, rfl⟩
      go_wp2_with fail
      go_ret
      exact ⟨rfl, HM.out, HK.out⟩
end Go.Proofs.YteedmmljahgpjaaGreatDoor

/-
  May an instruction stand at its place; where one goes on from it.
-/
namespace Go.Proofs.YteedmmljahgpjaaGreatDoor
open Go.RowKit
set_option linter.unusedVariables false
set_option linter.unusedSimpArgs false
def standB (t : TbM) (d : InM) (a b : Int) : Bool :=
  if d.k == 1 then withinB 0 d.a ((t.cs.length : Int) - 1) else if d.k == 2 then withinB 1 d.a 6 else if d.k == 3 then withinB 1 d.a 3 else if d.k == 4 then withinB 0 d.a ((t.rs.length : Int) - 1) else if d.k == 5 then withinB 1 d.a 16 else if d.k == 6 then withinB (a + 1) d.a b else if d.k == 7 then withinB (a + 1) d.a b else if d.k == 8 then withinB (a + 1) d.a b else if d.k == 9 then withinB (a + 1) d.a b else false
theorem CkAt.c1 {w : World} {C : Nat} {t : TbM} {h : Nat → Int} (k : CkAt w C t h) : w.cell? ⟨C, 1, none⟩ = some (.slice t.ra t.rs.length t.rc) := k.T 1 (by omega)
theorem CkAt.c3 {w : World} {C : Nat} {t : TbM} {h : Nat → Int} (k : CkAt w C t h) : w.cell? ⟨C, 3, none⟩ = some (.slice t.ca t.cs.length t.cc) := k.T 3 (by omega)
theorem CkAt.c4 {w : World} {C : Nat} {t : TbM} {h : Nat → Int} (k : CkAt w C t h) : w.cell? ⟨C, 4, none⟩ = some (.slice t.da t.ds.length t.dc) := k.T 4 (by omega)
theorem CkAt.c5 {w : World} {C : Nat} {t : TbM} {h : Nat → Int} (k : CkAt w C t h) : w.cell? ⟨C, 5, none⟩ = some (.slice t.ta t.ts.length t.tc) := k.T 5 (by omega)
set_option maxRecDepth 100000 in
set_option maxHeartbeats 4000000 in
theorem stands_any (C : Nat) (t : TbM) (h : Nat → Int) (a : Nat) (b : Int) (w : World) (hk : CkAt w C t h) (hl : TbL w t) (hs : t.rs.length ≤ 12 ∧ t.cs.length ≤ 1024 ∧ t.ds.length ≤ 4096) (ha : a < t.ds.length) : Calls Tryz.prog 127 #[.pointer (some ⟨C, 0, none⟩), .int .i64 a, .int .i64 b] w fun e w' => e = .returned (.bool (standB t (t.ds.getD a ⟨0, 0⟩) a b)) ∧ w' = w := by
  obtain ⟨bb, o, ea, hat⟩ := hl.D.2.2 a (by rw [List.length_map]; exact ha)
  simp only [List.getElem_map] at hat
  have hI := hl.Di t.ds[a] (List.getElem_mem ha)
  obtain ⟨d, ed⟩ : ∃ d, t.ds[a] = d := ⟨_, rfl⟩
  rw [ed] at hat hI
  have k0 : w.cell? ⟨bb, o + a * 2, none⟩ = some (.int .u8 d.k) := by have := hat 0 (by omega); rw [Nat.add_zero] at this; exact this
  have k1 : w.cell? ⟨bb, o + a * 2 + 1, none⟩ = some (.int .i64 d.a) := hat 1 (by omega)
  have c4 := hk.c4
  rw [ea] at c4
  have ha1 : (a : Int) < (t.ds.length : Int) := by omega
  have hr1 : t.rs.length ≤ 12 := hs.1
  have hc1 : t.cs.length ≤ 1024 := hs.2.1
  have hd1 : t.ds.length ≤ 4096 := hs.2.2
  rw [show t.ds.getD a ⟨0, 0⟩ = d by rw [List.getD_eq_getElem?_getD, List.getElem?_eq_getElem ha, ed]; rfl]
  have c1 := hk.c1
  have c3 := hk.c3
  clear hat hk hl ed ea hs hI
  unfold standB
  cases h1 : (d.k == 1) with
  | true =>
    have cW := within_any 0 d.a ((t.cs.length : Int) - 1) w
    go_enter Tryz.func127, Tryz.ntmps127
    go_wp2_with fail
    refine cW.mono ?_
    rintro e w5 ⟨rfl, rfl⟩
    go_wp2_with fail
    go_ret
    exact ⟨by simp [*], rfl⟩
  | false =>
    cases h2 : (d.k == 2) with
    | true =>
      have cW := within_any 1 d.a 6 w
      go_enter Tryz.func127, Tryz.ntmps127
      go_wp2_with fail
      refine cW.mono ?_
      rintro e w5 ⟨rfl, rfl⟩
      go_wp2_with fail
      go_ret
      exact ⟨by simp [*], rfl⟩
    | false =>
      cases h3 : (d.k == 3) with
      | true =>
        have cW := within_any 1 d.a 3 w
        go_enter Tryz.func127, Tryz.ntmps127
        go_wp2_with fail
        refine cW.mono ?_
        rintro e w5 ⟨rfl, rfl⟩
        go_wp2_with fail
        go_ret
        exact ⟨by simp [*], rfl⟩
      | false =>
        cases h4 : (d.k == 4) with
        | true =>
          have cW := within_any 0 d.a ((t.rs.length : Int) - 1) w
          go_enter Tryz.func127, Tryz.ntmps127
          go_wp2_with fail
          refine cW.mono ?_
          rintro e w5 ⟨rfl, rfl⟩
          go_wp2_with fail
          go_ret
          exact ⟨by simp [*], rfl⟩
        | false =>
          cases h5 : (d.k == 5) with
          | true =>
            have cW := within_any 1 d.a 16 w
            go_enter Tryz.func127, Tryz.ntmps127
            go_wp2_with fail
            refine cW.mono ?_
            rintro e w5 ⟨rfl, rfl⟩
            go_wp2_with fail
            go_ret
            exact ⟨by simp [*], rfl⟩
          | false =>
            cases h6 : (d.k == 6) with
            | true =>
              have cW := within_any ((a : Int) + 1) d.a b w
              go_enter Tryz.func127, Tryz.ntmps127
              go_wp2_with fail
              refine cW.mono ?_
              rintro e w5 ⟨rfl, rfl⟩
              go_wp2_with fail
              go_ret
              exact ⟨by simp [*], rfl⟩
            | false =>
              cases h7 : (d.k == 7) with
              | true =>
                have cW := within_any ((a : Int) + 1) d.a b w
                go_enter Tryz.func127, Tryz.ntmps127
                go_wp2_with fail
                refine cW.mono ?_
                rintro e w5 ⟨rfl, rfl⟩
                go_wp2_with fail
                go_ret
                exact ⟨by simp [*], rfl⟩
              | false =>
                cases h8 : (d.k == 8) with
                | true =>
                  have cW := within_any ((a : Int) + 1) d.a b w
                  go_enter Tryz.func127, Tryz.ntmps127
                  go_wp2_with fail
                  refine cW.mono ?_
                  rintro e w5 ⟨rfl, rfl⟩
                  go_wp2_with fail
                  go_ret
                  exact ⟨by simp [*], rfl⟩
                | false =>
                  cases h9 : (d.k == 9) with
                  | true =>
                    have cW := within_any ((a : Int) + 1) d.a b w
                    go_enter Tryz.func127, Tryz.ntmps127
                    go_wp2_with fail
                    refine cW.mono ?_
                    rintro e w5 ⟨rfl, rfl⟩
                    go_wp2_with fail
                    go_ret
                    exact ⟨by simp [*], rfl⟩
                  | false =>
                    go_enter Tryz.func127, Tryz.ntmps127
                    go_wp2_with fail
                    go_ret
                    exact ⟨by simp [*], rfl⟩
end Go.Proofs.YteedmmljahgpjaaGreatDoor

/-
  Where one goes on from a place, with which heights.
-/
namespace Go.Proofs.YteedmmljahgpjaaGreatDoor
open Go.RowKit
set_option linter.unusedVariables false
set_option linter.unusedSimpArgs false
def and2 (h : Nat → Int) (p : Nat) (x : Int) (q : Nat) (y : Int) : Bool × (Nat → Int) := if comeB h p x then (comeB (comeH h p x) q y, comeH (comeH h p x) q y) else (false, comeH h p x)
def goF (h : Nat → Int) (d : InM) (a : Nat) (x : Int) : Bool × (Nat → Int) :=
  if d.k == 5 then (if decide (d.a ≤ 3) then (if decide (x ≥ 1) then (comeB h (a + 1) x, comeH h (a + 1) x) else (false, h)) else (if decide (x ≥ 2) then (comeB h (a + 1) (x - 1), comeH h (a + 1) (x - 1)) else (false, h)))
  else if d.k == 6 then and2 h d.a.toNat x (a + 1) (x - 1) else if d.k == 7 then and2 h d.a.toNat x (a + 1) (x - 1) else if d.k == 8 then and2 h d.a.toNat (x - 1) (a + 1) (x - 1)
  else if d.k == 9 then (comeB h d.a.toNat x, comeH h d.a.toNat x) else (comeB h (a + 1) (x + 1), comeH h (a + 1) (x + 1))
theorem goF_ok {h : Nat → Int} (k : HOk h) (d : InM) (a : Nat) (x : Int) : HOk (goF h d a x).2 := by
  unfold goF and2
  repeat' split
  all_goals first | exact k | exact comeH_ok k _ _ | exact comeH_ok (comeH_ok k _ _) _ _
theorem come_int (C : Nat) (t : TbM) (h : Nat → Int) (y : Int) (x : Int) (w : World) (hk : CkAt w C t h) (h0 : 0 ≤ y) (h1 : y < 4097) : Calls Tryz.prog 154 #[.pointer (some ⟨C, 0, none⟩), .int .i64 y, .int .i64 x] w fun e w' => e = .returned (.bool (comeB h y.toNat x)) ∧ Mv w w' (fun k => k = C) ∧ CkAt w' C t (comeH h y.toNat x) := by
  obtain ⟨n, rfl⟩ := Int.eq_ofNat_of_zero_le h0
  exact come_any C t h n x w hk (by omega)
set_option maxRecDepth 100000 in
set_option maxHeartbeats 4000000 in
theorem goOn_any (C : Nat) (t : TbM) (h : Nat → Int) (a : Nat) (x : Int) (w : World) (hk : CkAt w C t h) (hl : TbL w t) (hd1 : t.ds.length ≤ 4096) (ha : a < t.ds.length) (hx : -1 ≤ x ∧ x ≤ 64) (hok : ((t.ds.getD a ⟨0, 0⟩).k = 5 → 1 ≤ (t.ds.getD a ⟨0, 0⟩).a ∧ (t.ds.getD a ⟨0, 0⟩).a ≤ 16) ∧ (6 ≤ (t.ds.getD a ⟨0, 0⟩).k → (t.ds.getD a ⟨0, 0⟩).k ≤ 9 → (a : Int) + 1 ≤ (t.ds.getD a ⟨0, 0⟩).a ∧ (t.ds.getD a ⟨0, 0⟩).a ≤ 4096)) : Calls Tryz.prog 147 #[.pointer (some ⟨C, 0, none⟩), .int .i64 a, .int .i64 x] w fun e w' => e = .returned (.bool (goF h (t.ds.getD a ⟨0, 0⟩) a x).1) ∧ Mv w w' (fun k => k = C) ∧ CkAt w' C t (goF h (t.ds.getD a ⟨0, 0⟩) a x).2 := by
  obtain ⟨bb, o, ea, hat⟩ := hl.D.2.2 a (by rw [List.length_map]; exact ha)
  simp only [List.getElem_map] at hat
  have hI := hl.Di t.ds[a] (List.getElem_mem ha)
  obtain ⟨d, ed⟩ : ∃ d, t.ds[a] = d := ⟨_, rfl⟩
  rw [ed] at hat hI
  have k0 : w.cell? ⟨bb, o + a * 2, none⟩ = some (.int .u8 d.k) := by have := hat 0 (by omega); rw [Nat.add_zero] at this; exact this
  have k1 : w.cell? ⟨bb, o + a * 2 + 1, none⟩ = some (.int .i64 d.a) := hat 1 (by omega)
  have c4 := hk.c4
  rw [ea] at c4
  have ha1 : (a : Int) < (t.ds.length : Int) := by omega
  rw [show t.ds.getD a ⟨0, 0⟩ = d by rw [List.getD_eq_getElem?_getD, List.getElem?_eq_getElem ha, ed]; rfl]
  rw [show t.ds.getD a ⟨0, 0⟩ = d by rw [List.getD_eq_getElem?_getD, List.getElem?_eq_getElem ha, ed]; rfl] at hok
  have HK : Hid (CkAt w C t h) := hk
  have HRG : Hid (w.rangeAt bb (o + a * 2) d.vals.toList) := fun j v hv => by
    have hj : j < 2 := (List.getElem?_eq_some_iff.1 hv).1
    rw [hat j hj, ← hv]; simp
  have HZ : Hid ((w.alloc (.cells #[.int .u8 0, .int .i64 0] 61)).heap[w.heap.size]? = some (.cells #[.int .u8 0, .int .i64 0] 61 (0, 0))) := heap_new _ _
  have HB1 : Hid (Below w.heap.size w ((w.alloc (.cells #[.int .u8 0, .int .i64 0] 61)).setRow w.heap.size d.vals)) := below_row (below_new _ _) (Nat.le_refl _) _
  have HN1 : Hid (((w.alloc (.cells #[.int .u8 0, .int .i64 0] 61)).setRow w.heap.size d.vals).heap[w.heap.size]? = some (.cells d.vals 61 (0, 0))) := setRow_heap _ _ _ _ _ _ HZ.out
  clear hat hk hl ed ea hI
  obtain ⟨R, eR⟩ : ∃ R, goF h d a x = R := ⟨_, rfl⟩
  have HR : Hid (goF h d a x = R) := eR
  rw [eR]
  clear eR
  go_enter Tryz.func147, Tryz.ntmps147
  go_upto_region 2 with (first | (refine wpList_load_mid rfl 61 (.tmp 14) rfl bb (o + a * 2) rfl d.vals.toList _ HRG.out Tryz.underlying61 rfl (by show _ = some 2; exact size61') ?_; rw [Array.toArray_toList]) | (refine wpList_store_row rfl 61 (.tmp 7) (.tmp 15) rfl w.heap.size d.vals rfl rfl 61 #[.int .u8 0, .int .i64 0] HZ.out size61' rfl (allIn d) ?_))
  generalize World.setRow _ _ _ = W1 at HB1 HN1 ⊢
  have HK1 : Hid (CkAt W1 C t h) := HK.out.on HB1.out
  have HM1 : Hid (Mv w W1 (fun k => k = C)) := Mv.ofBelow HB1.out
  have x0 : W1.cell? ⟨w.heap.size, 0, none⟩ = some (.int .u8 d.k) := cell_of HN1.out 0
  have x1 : W1.cell? ⟨w.heap.size, 1, none⟩ = some (.int .i64 d.a) := cell_of HN1.out 1
  clear HZ HRG k0 k1 c4
  obtain rfl := HR.out
  clear HR
  cases h5 : (d.k == 5) with
  | true =>
    have hda : 1 ≤ d.a ∧ d.a ≤ 16 := hok.1 (by simpa using h5)
    have hdm : d.a % 256 = d.a := by omega
    cases h3 : decide (d.a ≤ 3) with
    | true =>
      cases h1 : decide (x ≥ 1) with
      | true =>
        have HE : Hid (goF h d a x = (comeB h (a + 1) x, comeH h (a + 1) x)) := by show _ = _; unfold goF and2; simp only [h5, h3, h1, reduceIte, Bool.false_eq_true, if_false, if_true]
        have cC := come_int C t h ((a : Int) + 1) x W1 HK1.out (by omega) (by omega)
        go_wp2_with fail
        refine cC.mono ?_
        rintro e w5 ⟨rfl, hm5, hk5⟩
        have HM5 : Hid (Mv w w5 (fun k => k = C)) := HM1.out.trans hm5 (fun _ e => .inl e)
        have HK5 : Hid (CkAt w5 C t (comeH h (a + 1) x)) := by first | exact hk5 | (have := hk5; simpa using this)
        clear cC hm5 hk5
        go_wp2_with fail
        go_ret
        exact ⟨by rw [HE.out]; rfl, HM5.out, by rw [HE.out]; exact HK5.out⟩
      | false =>
        have HE : Hid (goF h d a x = (false, h)) := by show _ = _; unfold goF and2; simp only [h5, h3, h1, reduceIte, Bool.false_eq_true, if_false, if_true]
        go_wp2_with fail
        go_ret
        exact ⟨by rw [HE.out]; rfl, HM1.out, by rw [HE.out]; exact HK1.out⟩
    | false =>
      cases h2 : decide (x ≥ 2) with
      | true =>
        have HE : Hid (goF h d a x = (comeB h (a + 1) (x - 1), comeH h (a + 1) (x - 1))) := by show _ = _; unfold goF and2; simp only [h5, h3, h2, reduceIte, Bool.false_eq_true, if_false, if_true]
        have cC := come_int C t h ((a : Int) + 1) (x - 1) W1 HK1.out (by omega) (by omega)
        go_wp2_with fail
        refine cC.mono ?_
        rintro e w5 ⟨rfl, hm5, hk5⟩
        have HM5 : Hid (Mv w w5 (fun k => k = C)) := HM1.out.trans hm5 (fun _ e => .inl e)
        have HK5 : Hid (CkAt w5 C t (comeH h (a + 1) (x - 1))) := by first | exact hk5 | (have := hk5; simpa using this)
        clear cC hm5 hk5
        go_wp2_with fail
        go_ret
        exact ⟨by rw [HE.out]; rfl, HM5.out, by rw [HE.out]; exact HK5.out⟩
      | false =>
        have HE : Hid (goF h d a x = (false, h)) := by show _ = _; unfold goF and2; simp only [h5, h3, h2, reduceIte, Bool.false_eq_true, if_false, if_true]
        go_wp2_with fail
        go_ret
        exact ⟨by rw [HE.out]; rfl, HM1.out, by rw [HE.out]; exact HK1.out⟩
  | false =>
    cases h6 : (d.k == 6) with
    | true =>
      obtain ⟨hj0, hj1⟩ : (a : Int) + 1 ≤ d.a ∧ d.a ≤ 4096 := hok.2 (by simp at h6; omega) (by simp at h6; omega)
      have cC := come_int C t h d.a x W1 HK1.out (by omega) (by omega)
      cases hb : comeB h d.a.toNat x with
      | false =>
        rw [hb] at cC
        have HE : Hid (goF h d a x = (false, comeH h d.a.toNat x)) := by show _ = _; unfold goF and2; simp only [h5, h6, hb, reduceIte, Bool.false_eq_true, if_false, if_true]
        go_wp2_with fail
        refine cC.mono ?_
        rintro e w5 ⟨rfl, hm5, hk5⟩
        have HM5 : Hid (Mv w w5 (fun k => k = C)) := HM1.out.trans hm5 (fun _ e => .inl e)
        have HK5 : Hid (CkAt w5 C t (comeH h d.a.toNat x)) := hk5
        clear cC hm5 hk5
        go_wp2_with fail
        go_ret
        exact ⟨by rw [HE.out]; rfl, HM5.out, by rw [HE.out]; exact HK5.out⟩
      | true =>
        rw [hb] at cC
        have HE : Hid (goF h d a x = (comeB (comeH h d.a.toNat x) (a + 1) (x - 1), comeH (comeH h d.a.toNat x) (a + 1) (x - 1))) := by show _ = _; unfold goF and2; simp only [h5, h6, hb, reduceIte, Bool.false_eq_true, if_false, if_true]
        go_wp2_with fail
        refine cC.mono ?_
        rintro e w5 ⟨rfl, hm5, hk5⟩
        have HM5 : Hid (Mv w w5 (fun k => k = C)) := HM1.out.trans hm5 (fun _ e => .inl e)
        have cD := come_int C t (comeH h d.a.toNat x) ((a : Int) + 1) (x - 1) w5 hk5 (by omega) (by omega)
        clear cC hm5 hk5
        go_wp2_with fail
        refine cD.mono ?_
        rintro e w6 ⟨rfl, hm6, hk6⟩
        have HM6 : Hid (Mv w w6 (fun k => k = C)) := HM5.out.trans hm6 (fun _ e => .inl e)
        have HK6 : Hid (CkAt w6 C t (comeH (comeH h d.a.toNat x) (a + 1) (x - 1))) := hk6
        clear cD hm6 hk6
        go_wp2_with fail
        go_ret
        exact ⟨by rw [HE.out]; rfl, HM6.out, by rw [HE.out]; exact HK6.out⟩
    | false =>
      cases h7 : (d.k == 7) with
      | true =>
        obtain ⟨hj0, hj1⟩ : (a : Int) + 1 ≤ d.a ∧ d.a ≤ 4096 := hok.2 (by simp at h7; omega) (by simp at h7; omega)
        have cC := come_int C t h d.a x W1 HK1.out (by omega) (by omega)
        cases hb : comeB h d.a.toNat x with
        | false =>
          rw [hb] at cC
          have HE : Hid (goF h d a x = (false, comeH h d.a.toNat x)) := by show _ = _; unfold goF and2; simp only [h5, h6, h7, hb, reduceIte, Bool.false_eq_true, if_false, if_true]
          go_wp2_with fail
          refine cC.mono ?_
          rintro e w5 ⟨rfl, hm5, hk5⟩
          have HM5 : Hid (Mv w w5 (fun k => k = C)) := HM1.out.trans hm5 (fun _ e => .inl e)
          have HK5 : Hid (CkAt w5 C t (comeH h d.a.toNat x)) := hk5
          clear cC hm5 hk5
          go_wp2_with fail
          go_ret
          exact ⟨by rw [HE.out]; rfl, HM5.out, by rw [HE.out]; exact HK5.out⟩
        | true =>
          rw [hb] at cC
          have HE : Hid (goF h d a x = (comeB (comeH h d.a.toNat x) (a + 1) (x - 1), comeH (comeH h d.a.toNat x) (a + 1) (x - 1))) := by show _ = _; unfold goF and2; simp only [h5, h6, h7, hb, reduceIte, Bool.false_eq_true, if_false, if_true]
          go_wp2_with fail
          refine cC.mono ?_
          rintro e w5 ⟨rfl, hm5, hk5⟩
          have HM5 : Hid (Mv w w5 (fun k => k = C)) := HM1.out.trans hm5 (fun _ e => .inl e)
          have cD := come_int C t (comeH h d.a.toNat x) ((a : Int) + 1) (x - 1) w5 hk5 (by omega) (by omega)
          clear cC hm5 hk5
          go_wp2_with fail
          refine cD.mono ?_
          rintro e w6 ⟨rfl, hm6, hk6⟩
          have HM6 : Hid (Mv w w6 (fun k => k = C)) := HM5.out.trans hm6 (fun _ e => .inl e)
          have HK6 : Hid (CkAt w6 C t (comeH (comeH h d.a.toNat x) (a + 1) (x - 1))) := hk6
          clear cD hm6 hk6
          go_wp2_with fail
          go_ret
          exact ⟨by rw [HE.out]; rfl, HM6.out, by rw [HE.out]; exact HK6.out⟩
      | false =>
        cases h8 : (d.k == 8) with
        | true =>
          obtain ⟨hj0, hj1⟩ : (a : Int) + 1 ≤ d.a ∧ d.a ≤ 4096 := hok.2 (by simp at h8; omega) (by simp at h8; omega)
          have cC := come_int C t h d.a (x - 1) W1 HK1.out (by omega) (by omega)
          cases hb : comeB h d.a.toNat (x - 1) with
          | false =>
            rw [hb] at cC
            have HE : Hid (goF h d a x = (false, comeH h d.a.toNat (x - 1))) := by show _ = _; unfold goF and2; simp only [h5, h6, h7, h8, hb, reduceIte, Bool.false_eq_true, if_false, if_true]
            go_wp2_with fail
            refine cC.mono ?_
            rintro e w5 ⟨rfl, hm5, hk5⟩
            have HM5 : Hid (Mv w w5 (fun k => k = C)) := HM1.out.trans hm5 (fun _ e => .inl e)
            have HK5 : Hid (CkAt w5 C t (comeH h d.a.toNat (x - 1))) := hk5
            clear cC hm5 hk5
            go_wp2_with fail
            go_ret
            exact ⟨by rw [HE.out]; rfl, HM5.out, by rw [HE.out]; exact HK5.out⟩
          | true =>
            rw [hb] at cC
            have HE : Hid (goF h d a x = (comeB (comeH h d.a.toNat (x - 1)) (a + 1) (x - 1), comeH (comeH h d.a.toNat (x - 1)) (a + 1) (x - 1))) := by show _ = _; unfold goF and2; simp only [h5, h6, h7, h8, hb, reduceIte, Bool.false_eq_true, if_false, if_true]
            go_wp2_with fail
            refine cC.mono ?_
            rintro e w5 ⟨rfl, hm5, hk5⟩
            have HM5 : Hid (Mv w w5 (fun k => k = C)) := HM1.out.trans hm5 (fun _ e => .inl e)
            have cD := come_int C t (comeH h d.a.toNat (x - 1)) ((a : Int) + 1) (x - 1) w5 hk5 (by omega) (by omega)
            clear cC hm5 hk5
            go_wp2_with fail
            refine cD.mono ?_
            rintro e w6 ⟨rfl, hm6, hk6⟩
            have HM6 : Hid (Mv w w6 (fun k => k = C)) := HM5.out.trans hm6 (fun _ e => .inl e)
            have HK6 : Hid (CkAt w6 C t (comeH (comeH h d.a.toNat (x - 1)) (a + 1) (x - 1))) := hk6
            clear cD hm6 hk6
            go_wp2_with fail
            go_ret
            exact ⟨by rw [HE.out]; rfl, HM6.out, by rw [HE.out]; exact HK6.out⟩
        | false =>
          cases h9 : (d.k == 9) with
          | true =>
            obtain ⟨hj0, hj1⟩ : (a : Int) + 1 ≤ d.a ∧ d.a ≤ 4096 := hok.2 (by simp at h9; omega) (by simp at h9; omega)
            have HE : Hid (goF h d a x = (comeB h d.a.toNat x, comeH h d.a.toNat x)) := by show _ = _; unfold goF and2; simp only [h5, h6, h7, h8, h9, reduceIte, Bool.false_eq_true, if_false, if_true]
            have cC := come_int C t h d.a x W1 HK1.out (by omega) (by omega)
            go_wp2_with fail
            refine cC.mono ?_
            rintro e w5 ⟨rfl, hm5, hk5⟩
            have HM5 : Hid (Mv w w5 (fun k => k = C)) := HM1.out.trans hm5 (fun _ e => .inl e)
            have HK5 : Hid (CkAt w5 C t (comeH h d.a.toNat x)) := by first | exact hk5 | (have := hk5; simpa using this)
            clear cC hm5 hk5
            go_wp2_with fail
            go_ret
            exact ⟨by rw [HE.out]; rfl, HM5.out, by rw [HE.out]; exact HK5.out⟩
          | false =>
            have HE : Hid (goF h d a x = (comeB h (a + 1) (x + 1), comeH h (a + 1) (x + 1))) := by show _ = _; unfold goF and2; simp only [h5, h6, h7, h8, h9, reduceIte, Bool.false_eq_true, if_false, if_true]
            have cC := come_int C t h ((a : Int) + 1) (x + 1) W1 HK1.out (by omega) (by omega)
            go_wp2_with fail
            refine cC.mono ?_
            rintro e w5 ⟨rfl, hm5, hk5⟩
            have HM5 : Hid (Mv w w5 (fun k => k = C)) := HM1.out.trans hm5 (fun _ e => .inl e)
            have HK5 : Hid (CkAt w5 C t (comeH h (a + 1) (x + 1))) := by first | exact hk5 | (have := hk5; simpa using this)
            clear cC hm5 hk5
            go_wp2_with fail
            go_ret
            exact ⟨by rw [HE.out]; rfl, HM5.out, by rw [HE.out]; exact HK5.out⟩
end Go.Proofs.YteedmmljahgpjaaGreatDoor
