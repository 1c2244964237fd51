import Derived.Test.YteedmmljahgpjabDoorM9
import Derived.Deep.RegionHeld3
/-
  What instructions read.
-/
namespace Go.Proofs.YteedmmljahgpjabDoor
open Go.RowKit
set_option linter.unusedVariables false
set_option linter.unusedSimpArgs false
theorem run_max (x y : Int) : Builtin.max_ #[3, 3] 3 #[.int .i64 x, .int .i64 y] = pure (.int .i64 (if y > x then y else x)) := by
  show (Builtin.max2 (.int .i64 x) (.int .i64 y) >>= fun v => pure v) = _
  show (pure (Value.int .i64 (if y > x then y else x)) >>= fun v => (pure v : Sem Value)) = _
  rfl
theorem run_min (x y : Int) : Builtin.min_ #[3, 3] 3 #[.int .i64 x, .int .i64 y] = pure (.int .i64 (if y < x then y else x)) := by
  show (Builtin.min2 (.int .i64 x) (.int .i64 y) >>= fun v => pure v) = _
  show (pure (Value.int .i64 (if y < x then y else x)) >>= fun v => (pure v : Sem Value)) = _
  rfl
def mx0 (f : Int) : Int := if 0 > f then 0 else f
def mnL (t : Int) (n : Nat) : Int := if (n : Int) < t then n else t
def orM (m : Int) (a : Int) : Int := bits .or .u16 m (IntKind.u16.wrap (2 ^ a.toNat))
def rd1 (d : InM) (q : Int × Int) : Int × Int :=
  if decide (d.a < 0) then q else if decide (d.a ≥ 16) then q else if d.k == 2 then (orM q.1 d.a, q.2) else if d.k == 3 then (orM q.1 d.a, q.2) else if d.k == 4 then (q.1, orM q.2 d.a) else q
def rdL (ds : List InM) : Nat → Nat → Int × Int → Int × Int
  | 0, _, q => q
  | n + 1, a, q => rdL ds n (a + 1) (rd1 (ds.getD a ⟨0, 0⟩) q)
def readsN (ds : List InM) (x : Sp) : Int × Int := rdL ds ((mnL x.t ds.length).toNat - (mx0 x.f).toNat) (mx0 x.f).toNat (0, 0)
set_option maxRecDepth 100000 in
set_option maxHeartbeats 4000000 in
theorem reads_any (t : TbM) (x : Sp) (w : World) (hl : TbL w t) : Calls Tryd.prog 11 #[.agg t.vals, .agg x.vals] w fun e w' => e = .returned (.tuple #[.int .u16 (readsN t.ds x).1, .int .u16 (readsN t.ds x).2]) ∧ Below w.heap.size w w' := by
  have hb1 := below_new w (.cells t.vals 26)
  have hn1 := heap_new w (.cells t.vals 26)
  have hs1 := size_alloc w (.cells t.vals 26)
  obtain ⟨W1, e1⟩ : ∃ W, w.alloc (.cells t.vals 26) = W := ⟨_, rfl⟩
  have E1 : Hid (w.alloc (.cells t.vals 26) = W1) := e1
  rw [e1] at hb1 hn1 hs1
  have hb2 := below_new W1 (.cells x.vals 48)
  have hn2 := heap_new W1 (.cells x.vals 48)
  obtain ⟨W2, e2⟩ : ∃ W, W1.alloc (.cells x.vals 48) = W := ⟨_, rfl⟩
  have E2 : Hid (W1.alloc (.cells x.vals 48) = W2) := e2
  rw [e2] at hb2 hn2
  rw [hs1] at hn2
  have hk : W2.heap[w.heap.size]? = some (.cells t.vals 26 (0, 0)) := (hb2.block _ (by omega)).trans hn1
  have HT2 : Hid (W2.heap[w.heap.size]? = some (.cells t.vals 26 (0, 0))) := hk
  have HB2 : Hid (Below w.heap.size w W2) := below2 hb1 hb2
  obtain ⟨g3, e3⟩ : ∃ g, w.heap.size + 1 = g := ⟨_, rfl⟩
  rw [e3] at hn2
  have HN2 : Hid (W2.heap[g3]? = some (.cells x.vals 48 (0, 0))) := hn2
  have HG3 : Hid (w.heap.size + 1 = g3) := e3
  have c0 : W2.cell? ⟨g3, 0, none⟩ = some (.int .i64 x.f) := cell_of hn2 0
  have HSL : Hid (SlAt w 2 t.da t.dc (t.ds.map InM.vals)) := hl.D
  have HDI : Hid (∀ d ∈ t.ds, B8 d.k ∧ I64 d.a) := hl.Di
  obtain ⟨R, eR⟩ : ∃ R, readsN t.ds x = R := ⟨_, rfl⟩
  have HR : Hid (R = rdL t.ds ((mnL x.t t.ds.length).toNat - (mx0 x.f).toNat) (mx0 x.f).toNat (0, 0)) := eR.symm
  rw [eR]
  obtain ⟨ds, eds⟩ : ∃ q, t.ds = q := ⟨_, rfl⟩
  obtain ⟨da, eda⟩ : ∃ q, t.da = q := ⟨_, rfl⟩
  have HT4 : Hid (∀ V : World, V.heap[w.heap.size]? = some (.cells t.vals 26 (0, 0)) → V.cell? ⟨w.heap.size, 4, none⟩ = some (.slice da ds.length t.dc)) := fun V hV => by rw [← eds, ← eda]; exact cell_of hV 4
  rw [eds] at HR HSL HDI
  rw [eda] at HSL
  have hlen : ds.length ≤ 9223372036854775807 := by have h1 := HSL.out.1; have h2 := HSL.out.2.1; rw [List.length_map] at h1; omega
  obtain ⟨A, eA⟩ : ∃ A : Nat, (mx0 x.f).toNat = A := ⟨_, rfl⟩
  obtain ⟨Bd, eB⟩ : ∃ B : Int, mnL x.t ds.length = B := ⟨_, rfl⟩
  have hmx0 : (if 0 > x.f then 0 else x.f) = (A : Int) := by show mx0 x.f = _; rw [← eA]; unfold mx0; split <;> omega
  have hBl : Bd ≤ ds.length := by rw [← eB]; unfold mnL; split <;> omega
  have hBe : (if (ds.length : Int) < x.t then (ds.length : Int) else x.t) = Bd := eB
  rw [eA, eB] at HR
  clear hb1 hn1 hs1 e1 hb2 hn2 e2 hk e3 hl eR eds eda eA
  go_enter Tryd.func11, Tryd.ntmps11
  go_upto_region 3 with fail
  rw [E1.out, E2.out, HG3.out]
  clear E1 E2
  have hm := run_max
  have hn := run_min
  go_wp2_with fail
  try rw [hmx0]
  clear hm
  go_loopw [6, 7, 8] (fun q6 q7 q8 wr => ∃ (a : Nat) (fm rm : Int), A ≤ a ∧ q8 = .int .i64 a ∧ q6 = .int .u16 fm ∧ q7 = .int .u16 rm ∧ Hid (Below w.heap.size w wr) ∧ Hid (wr.heap[w.heap.size]? = some (.cells t.vals 26 (0, 0))) ∧ Hid (wr.heap[g3]? = some (.cells x.vals 48 (0, 0))) ∧ Hid (R = rdL ds (Bd.toNat - a) a (fm, rm))) (fun _ _ q8 _ => Bd.toNat - (intOf q8).toNat)
  case atStart => exact ⟨A, 0, 0, by omega, rfl, rfl, rfl, HB2, HT2, HN2, HR⟩
  case round =>
    obtain ⟨a, fm, rm, hAa, rfl, rfl, rfl, HBR, HTR, HNR, HRR⟩ := hrel
    have y1 : wr.cell? ⟨g3, 1, none⟩ = some (.int .i64 x.t) := cell_of HNR.out 1
    have y4 := HT4.out wr HTR.out
    by_cases hlt : (a : Int) < Bd
    · have hal : a < ds.length := by omega
      have hal' : (a : Int) < (ds.length : Int) := by omega
      obtain ⟨n, en⟩ : ∃ n, Bd.toNat - a = n + 1 := ⟨Bd.toNat - a - 1, by omega⟩
      have HD : Hid (R = rdL ds (Bd.toNat - (a + 1)) (a + 1) (rd1 ds[a] (fm, rm))) := by show _ = _; rw [HRR.out, en, show Bd.toNat - (a + 1) = n by omega]; show rdL ds n (a + 1) (rd1 (ds.getD a ⟨0, 0⟩) (fm, rm)) = _; rw [List.getD_eq_getElem?_getD, List.getElem?_eq_getElem hal]; rfl
      obtain ⟨bb, o, ea, hat⟩ := (HSL.out.on (mapz InM.sz _) HBR.out).2.2 a (by rw [List.length_map]; exact hal)
      simp only [List.getElem_map] at hat
      have hdi := (HDI.out ds[a] (List.getElem_mem hal)).2
      obtain ⟨d, ed⟩ : ∃ d, ds[a] = d := ⟨_, rfl⟩
      rw [ed] at hat HD hdi
      have HRG : Hid (wr.rangeAt bb (o + a * 2) d.vals.toList) := fun j v hv => by
        have hj : j < 2 := (List.getElem?_eq_some_iff.1 hv).1
        rw [hat j hj, ← hv]; simp
      have HZ : Hid ((wr.alloc (.cells #[.int .u8 0, .int .i64 0] 44)).heap[wr.heap.size]? = some (.cells #[.int .u8 0, .int .i64 0] 44 (0, 0))) := heap_new _ _
      have HWX : Hid (Below wr.heap.size wr ((wr.alloc (.cells #[.int .u8 0, .int .i64 0] 44)).setRow wr.heap.size d.vals)) := below_row (below_new _ _) (Nat.le_refl _) _
      have HNX : Hid (((wr.alloc (.cells #[.int .u8 0, .int .i64 0] 44)).setRow wr.heap.size d.vals).heap[wr.heap.size]? = some (.cells d.vals 44 (0, 0))) := setRow_heap _ _ _ _ _ _ HZ.out
      subst ea
      clear hat ed en HRR
      go_upto_region 7 with (first | (refine wpList_load_mid rfl 44 (.tmp 26) rfl bb (o + a * 2) rfl d.vals.toList _ HRG.out Tryd.underlying44 rfl (by show _ = some 2; exact size61') ?_; rw [Array.toArray_toList]) | (refine wpList_store_row rfl 44 (.tmp 9) (.tmp 27) rfl wr.heap.size d.vals rfl rfl 44 #[.int .u8 0, .int .i64 0] HZ.out size61' rfl (allIn d) ?_))
      generalize World.setRow _ _ _ = WX at HWX HNX ⊢
      have HBX : Hid (Below w.heap.size w WX) := below2 HBR.out HWX.out
      have HTX : Hid (WX.heap[w.heap.size]? = some (.cells t.vals 26 (0, 0))) := (HWX.out.block _ (Array.getElem?_eq_some_iff.1 HTR.out).1).trans HTR.out
      have HSX : Hid (WX.heap[g3]? = some (.cells x.vals 48 (0, 0))) := (HWX.out.block _ (Array.getElem?_eq_some_iff.1 HNR.out).1).trans HNR.out
      have z0 : WX.cell? ⟨wr.heap.size, 0, none⟩ = some (.int .u8 d.k) := cell_of HNX.out 0
      have z1 : WX.cell? ⟨wr.heap.size, 1, none⟩ = some (.int .i64 d.a) := cell_of HNX.out 1
      clear HZ HRG HBR HTR HNR HWX HNX y1 y4 hn
      have hai : (a : Int) + 1 ≤ 9223372036854775807 := by omega
      cases h0 : decide (d.a < 0) with
      | true =>
        have HX : Hid (R = rdL ds (Bd.toNat - (a + 1)) (a + 1) (fm, rm)) := by show _ = _; rw [HD.out]; unfold rd1; simp only [h0, reduceIte, Bool.false_eq_true, if_false, if_true]
        go_wp2_with fail
        exact ⟨⟨a + 1, fm, rm, by omega, rfl, by first | (unfold orM; rfl) | rfl | trivial, by first | (unfold orM; rfl) | rfl | trivial, HBX, HTX, HSX, HX⟩, by simp only [intOf]; omega⟩
      | false =>
        cases h16 : decide (d.a ≥ 16) with
        | true =>
          have HX : Hid (R = rdL ds (Bd.toNat - (a + 1)) (a + 1) (fm, rm)) := by show _ = _; rw [HD.out]; unfold rd1; simp only [h0, h16, reduceIte, Bool.false_eq_true, if_false, if_true]
          go_wp2_with fail
          exact ⟨⟨a + 1, fm, rm, by omega, rfl, by first | (unfold orM; rfl) | rfl | trivial, by first | (unfold orM; rfl) | rfl | trivial, HBX, HTX, HSX, HX⟩, by simp only [intOf]; omega⟩
        | false =>
          have ha0 : 0 ≤ d.a := by simpa using h0
          have ha16 : d.a < 16 := by simpa using h16
          cases h2 : (d.k == 2) with
          | true =>
            have HX : Hid (R = rdL ds (Bd.toNat - (a + 1)) (a + 1) (orM fm d.a, rm)) := by show _ = _; rw [HD.out]; unfold rd1; simp only [h0, h16, h2, reduceIte, Bool.false_eq_true, if_false, if_true]
            go_wp2_with fail
            exact ⟨⟨a + 1, (orM fm d.a), rm, by omega, rfl, by first | (unfold orM; rfl) | rfl | trivial, by first | (unfold orM; rfl) | rfl | trivial, HBX, HTX, HSX, HX⟩, by simp only [intOf]; omega⟩
          | false =>
            cases h3 : (d.k == 3) with
            | true =>
              have HX : Hid (R = rdL ds (Bd.toNat - (a + 1)) (a + 1) (orM fm d.a, rm)) := by show _ = _; rw [HD.out]; unfold rd1; simp only [h0, h16, h2, h3, reduceIte, Bool.false_eq_true, if_false, if_true]
              go_wp2_with fail
              exact ⟨⟨a + 1, (orM fm d.a), rm, by omega, rfl, by first | (unfold orM; rfl) | rfl | trivial, by first | (unfold orM; rfl) | rfl | trivial, HBX, HTX, HSX, HX⟩, by simp only [intOf]; omega⟩
            | false =>
              cases h4 : (d.k == 4) with
              | true =>
                have HX : Hid (R = rdL ds (Bd.toNat - (a + 1)) (a + 1) (fm, orM rm d.a)) := by show _ = _; rw [HD.out]; unfold rd1; simp only [h0, h16, h2, h3, h4, reduceIte, Bool.false_eq_true, if_false, if_true]
                go_wp2_with fail
                exact ⟨⟨a + 1, fm, (orM rm d.a), by omega, rfl, by first | (unfold orM; rfl) | rfl | trivial, by first | (unfold orM; rfl) | rfl | trivial, HBX, HTX, HSX, HX⟩, by simp only [intOf]; omega⟩
              | false =>
                have HX : Hid (R = rdL ds (Bd.toNat - (a + 1)) (a + 1) (fm, rm)) := by show _ = _; rw [HD.out]; unfold rd1; simp only [h0, h16, h2, h3, h4, reduceIte, Bool.false_eq_true, if_false, if_true]
                go_wp2_with fail
                exact ⟨⟨a + 1, fm, rm, by omega, rfl, by first | (unfold orM; rfl) | rfl | trivial, by first | (unfold orM; rfl) | rfl | trivial, HBX, HTX, HSX, HX⟩, by simp only [intOf]; omega⟩
    · have HX : Hid (R = (fm, rm)) := by show _ = _; rw [HRR.out, show Bd.toNat - a = 0 by omega]; rfl
      go_wp2_with fail
      go_ret2
      exact ⟨by rw [HX.out]; rfl, HBR.out⟩
end Go.Proofs.YteedmmljahgpjabDoor

/-
  What is wrong with a guard; with a table: Check.
-/
namespace Go.Proofs.YteedmmljahgpjabDoor
open Go.RowKit
set_option linter.unusedVariables false
set_option linter.unusedSimpArgs false
def spansE (t : TbM) : (Nat → Int) → List Sp → Int × (Nat → Int)
  | h, [] => (0, h)
  | h, x :: l => if (spanE t h x.f.toNat x.t.toNat).1 == 0 then spansE t (spanE t h x.f.toNat x.t.toNat).2 l else spanE t h x.f.toNat x.t.toNat
def rowsE (t : TbM) : (Nat → Int) → List RowM → Int × (Nat → Int)
  | h, [] => (0, h)
  | h, r :: l => if (spansE t h (hasL r)).1 == 0 then rowsE t (spansE t h (hasL r)).2 l else spansE t h (hasL r)
def gdE (t : TbM) (h : Nat → Int) (g : GdM) : Int × (Nat → Int) :=
  if (spanE t h g.wh.f.toNat g.wh.t.toNat).1 == 0 then (if (readsN t.ds g.wh).1 == g.fd then (if (readsN t.ds g.wh).2 == g.rg then rowsE t (spanE t h g.wh.f.toNat g.wh.t.toNat).2 g.rs else (193, (spanE t h g.wh.f.toNat g.wh.t.toNat).2)) else (193, (spanE t h g.wh.f.toNat g.wh.t.toNat).2)) else spanE t h g.wh.f.toNat g.wh.t.toNat
theorem spansE_ok (t : TbM) : ∀ (l : List Sp) (h : Nat → Int), HOk h → HOk (spansE t h l).2
  | [], h, k => k
  | x :: l, h, k => by
    unfold spansE
    split
    · exact spansE_ok t l _ (spanE_ok t k _ _)
    · exact spanE_ok t k _ _
theorem rowsE_ok (t : TbM) : ∀ (l : List RowM) (h : Nat → Int), HOk h → HOk (rowsE t h l).2
  | [], h, k => k
  | x :: l, h, k => by
    unfold rowsE
    split
    · exact rowsE_ok t l _ (spansE_ok t _ _ k)
    · exact spansE_ok t _ _ k
theorem gdE_ok (t : TbM) (g : GdM) {h : Nat → Int} (k : HOk h) : HOk (gdE t h g).2 := by
  unfold gdE
  repeat' split
  all_goals first | exact rowsE_ok t _ _ (spanE_ok t k _ _) | exact spanE_ok t k _ _
/-- A span that lies within the code. -/
def SpW (t : TbM) (x : Sp) : Prop := 0 ≤ x.f ∧ x.f < x.t ∧ x.t ≤ t.ds.length
def GdW (t : TbM) (g : GdM) : Prop := ∀ x ∈ gSp g, SpW t x
theorem span_sp (C : Nat) (t : TbM) (h : Nat → Int) (x : Sp) (w : World) (w0 : World) (hc : Cx w0 C t w h) (hx : SpW t x) (hs : t.rs.length ≤ 12 ∧ t.cs.length ≤ 1024 ∧ t.ds.length ≤ 4096) : Calls Tryd.prog 55 #[.pointer (some ⟨C, 0, none⟩), .agg x.vals] w fun e w' => e = .returned (.int .i64 (spanE t h x.f.toNat x.t.toNat).1) ∧ Mv w w' (fun k => k = C) ∧ CkAt w' C t (spanE t h x.f.toNat x.t.toNat).2 := by
  obtain ⟨f, b⟩ := x
  obtain ⟨h0, h1, h2⟩ := hx
  simp only at h0 h1 h2
  obtain ⟨n, rfl⟩ := Int.eq_ofNat_of_zero_le h0
  obtain ⟨m, rfl⟩ := Int.eq_ofNat_of_zero_le (show 0 ≤ b by omega)
  exact span_any C t h n m w w0 hc (by omega) (by omega) hs
theorem SlAt.mv {w w' : World} {n : Nat} {a : Option Addr} {c : Nat} {vs : List (Array Value)} (h : SlAt w n a c vs) (hz : ∀ x ∈ vs, n ≤ x.size) (h0 : 0 < n) {C : Nat} (m : Mv w w' (fun k => k = C)) (hC : ∀ b o, a = some ⟨b, o, none⟩ → b ≠ C) : SlAt w' n a c vs := by
  refine ⟨h.1, h.2.1, fun i hi => ?_⟩
  obtain ⟨b, o, h1, h2⟩ := h.2.2 i hi
  refine ⟨b, o, h1, fun j hj => ?_⟩
  have hs := hz _ (List.getElem_mem hi)
  have h3 := h2 j hj
  rw [Array.getElem?_eq_getElem (by omega)] at h3
  rw [World.cell?_of_block (m.block b (World.block_lt_of_cell? w _ h3) (hC b o h1)), h3, Array.getElem?_eq_getElem (by omega)]
set_option maxRecDepth 100000 in
set_option maxHeartbeats 4000000 in
theorem guard_any (C : Nat) (t : TbM) (h : Nat → Int) (x : GdM) (w : World) (w0 : World) (hc : Cx w0 C t w h) (hg : GdL w0 x) (hw : GdW t x) (hs : t.rs.length ≤ 12 ∧ t.cs.length ≤ 1024 ∧ t.ds.length ≤ 4096) : Calls Tryd.prog 35 #[.pointer (some ⟨C, 0, none⟩), .agg x.vals] w fun e w' => e = .returned (.int .i64 (gdE t h x).1) ∧ Mv w w' (fun k => k = C) ∧ CkAt w' C t (gdE t h x).2 := by
  have hb1 := below_new w (.cells x.vals 51)
  have hn1 := heap_new w (.cells x.vals 51)
  obtain ⟨W1, e1⟩ : ∃ W, w.alloc (.cells x.vals 51) = W := ⟨_, rfl⟩
  have E1 : Hid (w.alloc (.cells x.vals 51) = W1) := e1
  rw [e1] at hb1 hn1
  have HB1 : Hid (Below w.heap.size w W1) := hb1
  have c0 : W1.cell? ⟨w.heap.size, 0, none⟩ = some (.int .i64 x.wh.f) := cell_of hn1 0
  have c1 : W1.cell? ⟨w.heap.size, 1, none⟩ = some (.int .i64 x.wh.t) := cell_of hn1 1
  have HN1 : Hid (W1.heap[w.heap.size]? = some (.cells x.vals 51 (0, 0))) := hn1
  have HS1 : Hid (W1.heap.size = w.heap.size + 1) := by show _ = _; rw [← e1]; exact size_alloc _ _
  clear hb1 e1 hn1
  obtain ⟨R, eR⟩ : ∃ R, gdE t h x = R := ⟨_, rfl⟩
  rw [eR]
  have HR : Hid (R = if (spanE t h x.wh.f.toNat x.wh.t.toNat).1 == 0 then (if (readsN t.ds x.wh).1 == x.fd then (if (readsN t.ds x.wh).2 == x.rg then rowsE t (spanE t h x.wh.f.toNat x.wh.t.toNat).2 x.rs else (193, (spanE t h x.wh.f.toNat x.wh.t.toNat).2)) else (193, (spanE t h x.wh.f.toNat x.wh.t.toNat).2)) else spanE t h x.wh.f.toNat x.wh.t.toNat) := eR.symm
  have HCX : Hid (Cx w0 C t W1 h) := hc.on HB1.out
  have HM1 : Hid (Mv w W1 (fun k => k = C)) := Mv.ofBelow HB1.out
  have HCL : Hid (C < w.heap.size) := hc.K.L
  have HSL : Hid (SlAt w0 11 x.a x.c (x.rs.map RowM.vals)) := hg.2.2.2.1
  have HGW : Hid (∀ y ∈ gSp x, SpW t y) := hw
  have HWX0 : Hid (SpW t x.wh) := hw x.wh (List.mem_cons_self ..)
  have HSZ : Hid (t.rs.length ≤ 12 ∧ t.cs.length ≤ 1024 ∧ t.ds.length ≤ 4096) := hs
  have HOE : Hid (HOk (spanE t h x.wh.f.toNat x.wh.t.toNat).2) := spanE_ok t hc.O _ _
  have cS := span_sp C t h x.wh W1 w0 HCX.out HWX0.out hs
  obtain ⟨S, eS⟩ : ∃ S, spanE t h x.wh.f.toNat x.wh.t.toNat = S := ⟨_, rfl⟩
  rw [eS] at cS HR HOE
  unfold Sp.vals at cS
  clear eR eS hc hg hw hs
  go_enter Tryd.func35, Tryd.ntmps35
  go_upto_region 1 with fail
  rw [E1.out]
  clear E1
  go_wp2_with fail
  refine cS.mono ?_
  rintro e w2 ⟨rfl, hm2, hk2⟩
  have HM2 : Hid (Mv w w2 (fun k => k = C)) := HM1.out.trans hm2 (fun _ e => .inl e)
  have HK2 : Hid (CkAt w2 C t S.2) := hk2
  have HN2 : Hid (w2.heap[w.heap.size]? = some (.cells x.vals 51 (0, 0))) := (hm2.block _ (by rw [HS1.out]; omega) (by have := HCL.out; omega)).trans HN1.out
  have HC2 : Hid (Cx w0 C t w2 S.2) := HCX.out.mv hm2 hk2 HOE.out
  clear cS hm2 hk2 c0 c1 HN1 HB1 HCX HS1 HM1
  cases hz : (S.1 == 0) with
  | false =>
    have HX : Hid (R = S) := by show _ = _; rw [HR.out, if_neg (by simp [hz])]
    go_wp2_with fail
    go_ret
    exact ⟨by rw [HX.out]; rfl, HM2.out, by rw [HX.out]; exact HK2.out⟩
  | true =>
    have HD1 : Hid (R = (if (readsN t.ds x.wh).1 == x.fd then (if (readsN t.ds x.wh).2 == x.rg then rowsE t S.2 x.rs else (193, S.2)) else (193, S.2))) := by show _ = _; rw [HR.out, if_pos hz]
    have cR := reads_any t x.wh
    have HFA : Hid (∀ v : World, Below w2.heap.size w2 v → v.cell? ⟨C, 0, none⟩ = some (.string t.x) ∧ v.cell? ⟨C, 1, none⟩ = some (.slice t.ra t.rs.length t.rc) ∧ v.cell? ⟨C, 2, none⟩ = some (.int .i64 t.sl) ∧ v.cell? ⟨C, 3, none⟩ = some (.slice t.ca t.cs.length t.cc) ∧ v.cell? ⟨C, 4, none⟩ = some (.slice t.da t.ds.length t.dc) ∧ v.cell? ⟨C, 5, none⟩ = some (.slice t.ta t.ts.length t.tc) ∧ v.cell? ⟨w.heap.size, 0, none⟩ = some (.int .i64 x.wh.f) ∧ v.cell? ⟨w.heap.size, 1, none⟩ = some (.int .i64 x.wh.t)) := fun v hv => by
      have k := HK2.out.on hv
      have g := (hv.block _ (Array.getElem?_eq_some_iff.1 HN2.out).1).trans HN2.out
      exact ⟨k.T 0 (by omega), k.T 1 (by omega), k.T 2 (by omega), k.T 3 (by omega), k.T 4 (by omega), k.T 5 (by omega), cell_of g 0, cell_of g 1⟩
    have cR := reads_any t x.wh w2.drew (HC2.out.tb.on ⟨rfl, rfl, rfl, Nat.le_refl _, fun _ _ => rfl⟩)
    obtain ⟨M, eM⟩ : ∃ M, readsN t.ds x.wh = M := ⟨_, rfl⟩
    rw [eM] at cR HD1
    unfold TbM.vals Sp.vals at cR
    clear HR eM
    go_upto_region 4 with fail
    refine wp_region_held_drew (S := fun v => Below w2.heap.size w2 v) (by kernel_rfl) ⟨rfl, rfl, rfl, Nat.le_refl _, fun _ _ => rfl⟩ (fun hHeld => ?_)
    refine wpAnyH_take (i := 0) (v := ?_) rfl (by kernel_rfl) (by kernel_rfl) (by kernel_rfl) (fun _ _ _ h => h) (Or.inl ⟨by rfl, ?_⟩) (by assumption) ?_
    rotate_left
    · (intro v hv; go_simp; try (with_reducible rfl))
    try simp [Act.put]
    refine wpAnyH_take (i := 1) (v := ?_) rfl (by kernel_rfl) (by kernel_rfl) (by kernel_rfl) (fun _ _ _ h => h) (Or.inl ⟨by rfl, ?_⟩) (by assumption) ?_
    rotate_left
    · (intro v hv; go_simp; try (with_reducible rfl))
    try simp [Act.put]
    refine wpAnyH_take (i := 2) (v := ?_) rfl (by kernel_rfl) (by kernel_rfl) (by kernel_rfl) (fun _ _ _ h => h) (Or.inl ⟨by rfl, ?_⟩) (by assumption) ?_
    rotate_left
    · (intro v hv; go_simp; try (with_reducible rfl))
    try simp [Act.put]
    refine wpAnyH_take (i := 3) (v := ?_) rfl (by kernel_rfl) (by kernel_rfl) (by kernel_rfl) (fun _ _ _ h => h) (Or.inl ⟨by rfl, ?_⟩) (by assumption) ?_
    rotate_left
    · (intro v hv; obtain ⟨a0, a1, a2, a3, a4, a5, b0, b1⟩ := HFA.out v hv; go_simp; try (with_reducible rfl))
    try simp [Act.put]
    refine wpAnyH_take (i := 4) (v := ?_) rfl (by kernel_rfl) (by kernel_rfl) (by kernel_rfl) (fun _ _ _ h => h) (Or.inl ⟨by rfl, ?_⟩) (by assumption) ?_
    rotate_left
    · (intro v hv; go_simp; try (with_reducible rfl))
    try simp [Act.put]
    refine wpAnyH_take (i := 5) (v := ?_) rfl (by kernel_rfl) (by kernel_rfl) (by kernel_rfl) (fun _ _ _ h => h) (Or.inl ⟨by rfl, ?_⟩) (by assumption) ?_
    rotate_left
    · (intro v hv; obtain ⟨a0, a1, a2, a3, a4, a5, b0, b1⟩ := HFA.out v hv; go_simp; try (with_reducible rfl))
    try simp [Act.put]
    refine wpAnyH_ready (rs := [6]) (by kernel_rfl) (by simp) ?_
    refine AllReadyH.cons rfl (fun K hK => ?_) AllReadyH.nil
    go_simp
    refine cR.mono ?_
    rintro e w5 ⟨rfl, hb5⟩
    have hB5 : Below w2.heap.size w2 w5 := ⟨hb5.os, hb5.tape, hb5.output, hb5.size, hb5.block⟩
    refine hK.out _ _ hB5 (fun hHeld => ?_)
    clear hK K cR hb5
    try simp [Act.put]
    refine wpAnyH_take (i := 7) (v := ?_) rfl (by kernel_rfl) (by kernel_rfl) (by kernel_rfl) (fun _ _ _ h => h) (Or.inl ⟨by rfl, ?_⟩) (by assumption) ?_
    rotate_left
    · (intro v hv; go_simp; try (with_reducible rfl))
    try simp [Act.put]
    refine wpAnyH_take (i := 8) (v := ?_) rfl (by kernel_rfl) (by kernel_rfl) (by kernel_rfl) (fun _ _ _ h => h) (Or.inl ⟨by rfl, ?_⟩) (by assumption) ?_
    rotate_left
    · (intro v hv; go_simp; try (with_reducible rfl))
    try simp [Act.put]
    refine wpAnyH_take (i := 9) (v := ?_) rfl (by kernel_rfl) (by kernel_rfl) (by kernel_rfl) (fun _ _ _ h => h) (Or.inl ⟨by rfl, ?_⟩) (by assumption) ?_
    rotate_left
    · (intro v hv; go_simp; try (with_reducible rfl))
    try simp [Act.put]
    refine wpAnyH_take (i := 10) (v := ?_) rfl (by kernel_rfl) (by kernel_rfl) (by kernel_rfl) (fun _ _ _ h => h) (Or.inl ⟨by rfl, ?_⟩) (by assumption) ?_
    rotate_left
    · (intro v hv; go_simp; try (with_reducible rfl))
    try simp [Act.put]
    refine wpAnyH_take (i := 11) (v := ?_) rfl (by kernel_rfl) (by kernel_rfl) (by kernel_rfl) (fun _ _ _ h => h) (Or.inl ⟨by rfl, ?_⟩) (by assumption) ?_
    rotate_left
    · (intro v hv; go_simp; try (with_reducible rfl))
    try simp [Act.put]
    refine wpAnyH_done (by kernel_rfl) ?_ _
    have HC5 : Hid (Cx w0 C t w5 S.2) := HC2.out.on hB5
    have HM5 : Hid (Mv w w5 (fun k => k = C)) := HM2.out.trans (Mv.ofBelow (F := fun _ => False) hB5) (fun _ e => e.elim)
    have HN5 : Hid (w5.heap[w.heap.size]? = some (.cells x.vals 51 (0, 0))) := (hB5.block _ (Array.getElem?_eq_some_iff.1 HN2.out).1).trans HN2.out
    have d2 : w5.cell? ⟨w.heap.size, 2, none⟩ = some (.int .u16 x.fd) := cell_of HN5.out 2
    have d3 : w5.cell? ⟨w.heap.size, 3, none⟩ = some (.int .u16 x.rg) := cell_of HN5.out 3
    have d4 : w5.cell? ⟨w.heap.size, 4, none⟩ = some (.slice x.a x.rs.length x.c) := cell_of HN5.out 4
    obtain ⟨rs, ers⟩ : ∃ q, x.rs = q := ⟨_, rfl⟩
    obtain ⟨xa, exa⟩ : ∃ q, x.a = q := ⟨_, rfl⟩
    have HGR : Hid (∀ r ∈ rs, ∀ y ∈ hasL r, SpW t y) := fun r hr y hy => HGW.out y (by unfold gSp; rw [ers]; exact List.mem_cons_of_mem _ (List.mem_flatten.2 ⟨hasL r, List.mem_map.2 ⟨r, hr, rfl⟩, hy⟩))
    rw [ers, exa] at HSL d4
    rw [ers] at HD1
    clear HC2 HM2 HN2 HK2 HFA hB5 hHeld ers exa
    cases hf : (M.1 == x.fd) with
    | false =>
      have hfn : (M.1 != x.fd) = true := by simp [bne, hf]
      have HX : Hid (R = (193, S.2)) := by show _ = _; rw [HD1.out, if_neg (by simp [hf])]
      go_wp2_with fail
      go_ret
      exact ⟨by rw [HX.out]; rfl, HM5.out, by rw [HX.out]; exact HC5.out.K⟩
    | true =>
      have hfn : (M.1 != x.fd) = false := by simp [bne, hf]
      cases hr : (M.2 == x.rg) with
      | false =>
        have hrn : (M.2 != x.rg) = true := by simp [bne, hr]
        have HX : Hid (R = (193, S.2)) := by show _ = _; rw [HD1.out, if_pos hf, if_neg (by simp [hr])]
        go_wp2_with fail
        go_ret
        exact ⟨by rw [HX.out]; rfl, HM5.out, by rw [HX.out]; exact HC5.out.K⟩
      | true =>
        have hrn : (M.2 != x.rg) = false := by simp [bne, hr]
        have HX : Hid (R = rowsE t S.2 (rs.drop 0)) := by show _ = _; rw [HD1.out, if_pos hf, if_pos hr]; rfl
        clear HD1
        go_wp2_with fail
        clear hf hr hfn hrn d2 d3 d4 hz
        go_loopw [43] (fun q wr => ∃ (i : Nat) (g : Nat → Int), i ≤ rs.length ∧ q = .int .i64 i ∧ Hid (Cx w0 C t wr g) ∧ Hid (Mv w wr (fun k => k = C)) ∧ Hid (R = rowsE t g (rs.drop i))) (fun q _ => rs.length - (intOf q).toNat)
        case atStart => exact ⟨0, S.2, by omega, rfl, HC5, HM5, HX⟩
        case round =>
          obtain ⟨i, g, hi, rfl, HCR, HMR, HRR⟩ := hrel
          have HBR : Hid (Below w0.heap.size w0 wr) := HCR.out.B
          by_cases hlt : i < rs.length
          · have hlt' : (i : Int) < (rs.length : Int) := by omega
            have hmx : (i : Int) + 1 ≤ 9223372036854775807 := by have h1 := HSL.out.1; have h2 := HSL.out.2.1; rw [List.length_map] at h1; omega
            obtain ⟨bb, o, ea, hat⟩ := (HSL.out.on (mapz RowM.sz _) HBR.out).2.2 i (by rw [List.length_map]; exact hlt)
            simp only [List.getElem_map] at hat
            have HMEM : Hid (rs[i] ∈ rs) := List.getElem_mem hlt
            have HD : Hid (R = if (spansE t g (hasL rs[i])).1 == 0 then rowsE t (spansE t g (hasL rs[i])).2 (rs.drop (i + 1)) else spansE t g (hasL rs[i])) := by show _ = _; rw [HRR.out, List.drop_eq_getElem_cons hlt]; rfl
            obtain ⟨d, ed⟩ : ∃ d, rs[i] = d := ⟨_, rfl⟩
            rw [ed] at hat HMEM HD
            have HRG : Hid (wr.rangeAt bb (o + i * 11) d.vals.toList) := fun j v hv => by
              have hj : j < 11 := (List.getElem?_eq_some_iff.1 hv).1
              rw [hat j hj, ← hv]; simp
            have HZ : Hid ((wr.alloc (.cells #[.int .u8 0, .int .u8 0, .int .i64 0, .int .i64 0, .int .i64 0, .int .i64 0, .int .i64 0, .int .i64 0, .int .i64 0, .int .i64 0, .int .i64 0] 72)).heap[wr.heap.size]? = some (.cells #[.int .u8 0, .int .u8 0, .int .i64 0, .int .i64 0, .int .i64 0, .int .i64 0, .int .i64 0, .int .i64 0, .int .i64 0, .int .i64 0, .int .i64 0] 72 (0, 0))) := heap_new _ _
            have HWX : Hid (Below wr.heap.size wr ((wr.alloc (.cells #[.int .u8 0, .int .u8 0, .int .i64 0, .int .i64 0, .int .i64 0, .int .i64 0, .int .i64 0, .int .i64 0, .int .i64 0, .int .i64 0, .int .i64 0] 72)).setRow wr.heap.size d.vals)) := below_row (below_new _ _) (Nat.le_refl _) _
            have HNX : Hid (((wr.alloc (.cells #[.int .u8 0, .int .u8 0, .int .i64 0, .int .i64 0, .int .i64 0, .int .i64 0, .int .i64 0, .int .i64 0, .int .i64 0, .int .i64 0, .int .i64 0] 72)).setRow wr.heap.size d.vals).heap[wr.heap.size]? = some (.cells d.vals 72 (0, 0))) := setRow_heap _ _ _ _ _ _ HZ.out
            subst ea
            clear hat ed
            go_upto_region 10 with (first | (refine wpList_load_mid rfl 72 (.tmp 45) rfl bb (o + i * 11) rfl d.vals.toList _ HRG.out Tryd.underlying72 rfl (by show _ = some 11; exact size85') ?_; rw [Array.toArray_toList]) | (refine wpList_store_row rfl 72 (.tmp 9) (.tmp 46) rfl wr.heap.size d.vals rfl rfl 72 #[.int .u8 0, .int .u8 0, .int .i64 0, .int .i64 0, .int .i64 0, .int .i64 0, .int .i64 0, .int .i64 0, .int .i64 0, .int .i64 0, .int .i64 0] HZ.out size85' rfl (allRow d) ?_))
            generalize World.setRow _ _ _ = WX at HWX HNX ⊢
            clear HZ HRG
            have HCX2 : Hid (Cx w0 C t WX g) := HCR.out.on HWX.out
            have HMX2 : Hid (Mv w WX (fun k => k = C)) := HMR.out.trans (Mv.ofBelow (F := fun _ => False) HWX.out) (fun _ e => e.elim)
            have HGD : Hid (∀ y ∈ hasL d, SpW t y) := HGR.out d HMEM.out
            have cH := has_any d WX
            have hl4 := hasI_le d 4 (by omega)
            obtain ⟨sp, esp⟩ : ∃ q, hasL d = q := ⟨_, rfl⟩
            rw [esp] at cH HGD HD
            have HL4 : Hid (sp.length ≤ 4) := by rw [← esp]; exact hl4
            obtain ⟨RR2, eRR⟩ : ∃ q, spansE t g sp = q := ⟨_, rfl⟩
            have HR0 : Hid (RR2 = spansE t g (sp.drop 0)) := by show _ = _; rw [← eRR]; rfl
            have HO2 : Hid (HOk RR2.2) := by rw [← eRR]; exact spansE_ok t _ _ HCR.out.O
            rw [eRR] at HD
            clear HRR HCR HMR HBR HMEM esp hl4 eRR
            go_wp2_with (refine wpList_load_row rfl 72 (.tmp 9) rfl wr.heap.size rfl 72 d.vals (0, 0) _ HNX.out Tryd.underlying72 rfl size85' ?_)
            refine cH.mono ?_
            rintro e w7 ⟨ua, uc, rfl, hU, hnil, hfr, hb7⟩
            have HU : Hid (SlAt w7 2 ua uc (sp.map Sp.vals)) := hU
            have HC7 : Hid (Cx w0 C t w7 g) := HCX2.out.on hb7
            have HM7 : Hid (Mv w w7 (fun k => k = C)) := HMX2.out.trans (Mv.ofBelow (F := fun _ => False) hb7) (fun _ e => e.elim)
            have HUC : Hid (∀ b o, ua = some ⟨b, o, none⟩ → b ≠ C) := fun b o e => by have h1 := (hfr b o e).1; have h2 := HCX2.out.K.L; omega
            clear cH hU hnil hfr hb7 HCX2 HMX2 HWX HNX
            go_wp2_with fail
            go_loopw [50] (fun q wr => ∃ (j : Nat) (g2 : Nat → Int), j ≤ sp.length ∧ q = .int .i64 j ∧ Hid (Cx w0 C t wr g2) ∧ Hid (Mv w7 wr (fun k => k = C)) ∧ Hid (RR2 = spansE t g2 (sp.drop j))) (fun q _ => sp.length - (intOf q).toNat)
            case atStart => exact ⟨0, g, by omega, rfl, HC7, Mv.refl _ _, HR0⟩
            case round =>
              obtain ⟨j, g2, hj, rfl, HCR, HMR, HR2⟩ := hrel
              by_cases hltj : j < sp.length
              · have HU2 : Hid (SlAt wr 2 ua uc (sp.map Sp.vals)) := HU.out.mv (mapz Sp.sz _) (by omega) HMR.out HUC.out
                have hltj' : (j : Int) < (sp.length : Int) := by omega
                have hmxj : (j : Int) + 1 ≤ 9223372036854775807 := by have h1 := HU2.out.1; have h2 := HU2.out.2.1; rw [List.length_map] at h1; omega
                obtain ⟨b2, o2, ea, hat⟩ := (HU2.out.on (mapz Sp.sz _) (Below.refl _ _)).2.2 j (by rw [List.length_map]; exact hltj)
                simp only [List.getElem_map] at hat
                have HMEM : Hid (sp[j] ∈ sp) := List.getElem_mem hltj
                have HD2 : Hid (RR2 = if (spanE t g2 sp[j].f.toNat sp[j].t.toNat).1 == 0 then spansE t (spanE t g2 sp[j].f.toNat sp[j].t.toNat).2 (sp.drop (j + 1)) else spanE t g2 sp[j].f.toNat sp[j].t.toNat) := by show _ = _; rw [HR2.out, List.drop_eq_getElem_cons hltj]; rfl
                obtain ⟨y, ed⟩ : ∃ y, sp[j] = y := ⟨_, rfl⟩
                rw [ed] at hat HMEM HD2
                have HRG : Hid (wr.rangeAt b2 (o2 + j * 2) y.vals.toList) := fun j9 v hv => by
                  have hj9 : j9 < 2 := (List.getElem?_eq_some_iff.1 hv).1
                  rw [hat j9 hj9, ← hv]; simp
                have HZ : Hid ((wr.alloc (.cells #[.int .i64 0, .int .i64 0] 48)).heap[wr.heap.size]? = some (.cells #[.int .i64 0, .int .i64 0] 48 (0, 0))) := heap_new _ _
                have HWX : Hid (Below wr.heap.size wr ((wr.alloc (.cells #[.int .i64 0, .int .i64 0] 48)).setRow wr.heap.size y.vals)) := below_row (below_new _ _) (Nat.le_refl _) _
                have HNX : Hid (((wr.alloc (.cells #[.int .i64 0, .int .i64 0] 48)).setRow wr.heap.size y.vals).heap[wr.heap.size]? = some (.cells y.vals 48 (0, 0))) := setRow_heap _ _ _ _ _ _ HZ.out
                subst ea
                clear hat ed
                go_upto_region 13 with (first | (refine wpList_load_mid rfl 48 (.tmp 52) rfl b2 (o2 + j * 2) rfl y.vals.toList _ HRG.out Tryd.underlying48 rfl (by show _ = some 2; exact size65') ?_; rw [Array.toArray_toList]) | (refine wpList_store_row rfl 48 (.tmp 11) (.tmp 53) rfl wr.heap.size y.vals rfl rfl 48 #[.int .i64 0, .int .i64 0] HZ.out size65' rfl (allSp y) ?_))
                generalize World.setRow _ _ _ = WX at HWX HNX ⊢
                clear HZ HRG
                have HCX2 : Hid (Cx w0 C t WX g2) := HCR.out.on HWX.out
                have HMX2 : Hid (Mv w7 WX (fun k => k = C)) := HMR.out.trans (Mv.ofBelow (F := fun _ => False) HWX.out) (fun _ e => e.elim)
                have cS := span_sp C t g2 y WX w0 HCX2.out (HGD.out y HMEM.out) HSZ.out
                have HOS : Hid (HOk (spanE t g2 y.f.toNat y.t.toNat).2) := spanE_ok t HCX2.out.O _ _
                obtain ⟨T, eT⟩ : ∃ T, spanE t g2 y.f.toNat y.t.toNat = T := ⟨_, rfl⟩
                rw [eT] at cS HD2 HOS
                clear HCR HMR HR2 HMEM eT
                go_wp2_with (refine wpList_load_row rfl 48 (.tmp 11) rfl wr.heap.size rfl 48 y.vals (0, 0) _ HNX.out Tryd.underlying48 rfl size65' ?_)
                refine cS.mono ?_
                rintro e w8 ⟨rfl, hm8, hk8⟩
                have HC8 : Hid (Cx w0 C t w8 T.2) := HCX2.out.mv hm8 hk8 HOS.out
                have HM8 : Hid (Mv w7 w8 (fun k => k = C)) := HMX2.out.trans hm8 (fun _ e => .inl e)
                clear cS hm8 hk8 HNX HWX HCX2 HMX2
                obtain ⟨T1, T2⟩ := T
                simp only at HC8 HD2 HOS ⊢
                cases hz2 : (T1 == 0) with
                | false =>
                  have HE2 : Hid (RR2 = (T1, T2)) := by show _ = _; rw [HD2.out, if_neg (by simp [hz2])]
                  have HE3 : Hid (R = (T1, T2)) := by show _ = _; rw [HD.out, HE2.out, if_neg (by simp [hz2])]
                  have HM9 : Hid (Mv w w8 (fun k => k = C)) := HM7.out.trans HM8.out (fun _ e => .inl e)
                  have hq : (T1 != 0) = true := by simp [bne, hz2]
                  clear HD2 HD HR0 HX HGR HGW HSL HU HUC HL4 HO2 HGD HCL HM7 HC7 HSZ
                  go_wp2_with fail
                  go_ret
                  exact ⟨by rw [HE3.out]; rfl, HM9.out, by rw [HE3.out]; exact HC8.out.K⟩
                | true =>
                  have HE2 : Hid (RR2 = spansE t T2 (sp.drop (j + 1))) := by show _ = _; rw [HD2.out, if_pos hz2]
                  have hq : (T1 != 0) = false := by simp [bne, hz2]
                  clear HD2 HD HR0 HX HGR HGW HSL HU HUC HL4 HO2 HGD HCL HM7 HC7 HSZ
                  go_wp2_with fail
                  exact ⟨⟨j + 1, T2, hltj, rfl, HC8, HM8, HE2⟩, by simp only [intOf]; omega⟩
              · obtain rfl : j = sp.length := by omega
                have hnot : ¬ (sp.length : Int) < (sp.length : Int) := by omega
                have HE2 : Hid (RR2 = (0, g2)) := by show _ = _; rw [HR2.out, List.drop_length]; rfl
                have HE3 : Hid (R = rowsE t g2 (rs.drop (i + 1))) := by show _ = _; rw [HD.out, HE2.out]; rfl
                have HM9 : Hid (Mv w wr (fun k => k = C)) := HM7.out.trans HMR.out (fun _ e => .inl e)
                go_wp2_with fail
                exact ⟨⟨i + 1, g2, hlt, rfl, HCR, HM9, HE3⟩, by simp only [intOf]; omega⟩
          · obtain rfl : i = rs.length := by omega
            have hnot : ¬ (rs.length : Int) < (rs.length : Int) := by omega
            have HE3 : Hid (R = (0, g)) := by show _ = _; rw [HRR.out, List.drop_length]; rfl
            go_wp2_with fail
            go_ret
            exact ⟨by rw [HE3.out]; rfl, HMR.out, by rw [HE3.out]; exact HCR.out.K⟩
end Go.Proofs.YteedmmljahgpjabDoor
