import Derived.Test.YteedmmljahgpjabDoorM6
/-
  The spans of a row.
-/
namespace Go.Proofs.YteedmmljahgpjabDoor
open Go.RowKit
set_option linter.unusedVariables false
set_option linter.unusedSimpArgs false
theorem OwnK.sl2 {w V : World} {bs : List (Nat × Nat × Array Value)} {e sz : Nat} {v : Value} {vs : List (Array Value)} (h : OwnK w V bs e sz v vs) : ∃ a c, v = .slice a vs.length c ∧ SlAt V sz a c vs ∧ ∀ b o, a = some ⟨b, o, none⟩ → w.heap.size ≤ b ∧ b < V.heap.size := by
  obtain ⟨a, c, h1, h2⟩ := h.sl
  refine ⟨a, c, h1, h2, fun b o e => h.lt b ?_⟩
  rw [h1, e]; rfl
theorem OwnK.blk' {w V : World} {bs : List (Nat × Nat × Array Value)} {e sz : Nat} {v : Value} {vs : List (Array Value)} (h : OwnK w V bs e sz v vs) {g : Nat} (hg : v.ownBlock = some g) : ∃ cur, V.heap[g]? = some (.cells cur e (0, 0)) := by
  rcases h.R.2 with ⟨h1, h2⟩ | ⟨g', cap, cur, h1, h2, h3, h4⟩
  · rw [h1] at hg; cases hg
  · rw [h1] at hg
    have : g' = g := by simpa [Value.ownBlock] using hg
    subst this
    exact ⟨cur, h3⟩
def prts (p : P4) : List Bool := [p.a, p.b, p.c, p.d]
def spL (r : RowM) : List Sp := [r.sd, r.qt, r.pr, r.vl]
def hasI (r : RowM) (i : Nat) : List Sp := (((prts (partsN r.k r.o)).zip (spL r)).take i).filterMap (fun q => if q.1 then some q.2 else none)
def hasL (r : RowM) : List Sp := hasI r 4
def Z2 : Array Value := #[.int .i64 0, .int .i64 0]
theorem spV_ix (r : RowM) (i : Nat) (hi : i < 4) (w : World) : Sem.run Tryd.prog (Instr.index 130 (.agg (spV r)) (.int .i64 i)) w = .ok (.agg (((spL r).getD i ⟨0, 0⟩).vals)) w := by
  obtain rfl | rfl | rfl | rfl : i = 0 ∨ i = 1 ∨ i = 2 ∨ i = 3 := by omega
  · kernel_rfl
  · kernel_rfl
  · kernel_rfl
  · kernel_rfl
theorem p4_cell {w : World} {b : Nat} {p : P4} (h : w.heap[b]? = some (.cells p.vals 127 (0, 0))) (i : Nat) (hi : i < 4) : w.cell? ⟨b, i, none⟩ = some (.bool ((prts p).getD i false)) := by
  match i, hi with
  | 0, _ => exact cell_of h 0
  | 1, _ => exact cell_of h 1
  | 2, _ => exact cell_of h 2
  | 3, _ => exact cell_of h 3
theorem hasI_s (r : RowM) (i : Nat) (hi : i < 4) : hasI r (i + 1) = hasI r i ++ (if (prts (partsN r.k r.o)).getD i false then [(spL r).getD i ⟨0, 0⟩] else []) := by
  obtain ⟨p, ep⟩ : ∃ p, partsN r.k r.o = p := ⟨_, rfl⟩
  unfold hasI
  rw [ep]
  match i, hi with
  | 0, _ => cases h : p.a <;> simp [prts, spL, h]
  | 1, _ => cases h : p.a <;> cases h2 : p.b <;> simp [prts, spL, h, h2]
  | 2, _ => cases h : p.a <;> cases h2 : p.b <;> cases h3 : p.c <;> simp [prts, spL, h, h2, h3]
  | 3, _ => cases h : p.a <;> cases h2 : p.b <;> cases h3 : p.c <;> cases h4 : p.d <;> simp [prts, spL, h, h2, h3, h4]
theorem hasI_le (r : RowM) : ∀ i, i ≤ 4 → (hasI r i).length ≤ i := by
  intro i hi
  unfold hasI
  refine Nat.le_trans (List.length_filterMap_le _ _) ?_
  rw [List.length_take]; omega
set_option maxRecDepth 100000 in
set_option maxHeartbeats 4000000 in
theorem has_any (r : RowM) (w : World) : Calls Tryd.prog 41 #[.agg r.vals] w fun e w' => ∃ a c, e = .returned (.slice a (hasL r).length c) ∧ SlAt w' 2 a c ((hasL r).map Sp.vals) ∧ (hasL r = [] → a = none ∧ c = 0) ∧ (∀ b o, a = some ⟨b, o, none⟩ → w.heap.size ≤ b ∧ ∃ cur, w'.heap[b]? = some (.cells cur 48 (0, 0))) ∧ Below w.heap.size w w' := by
  have hb1 := below_new w (.cells r.vals 72)
  have hn1 := heap_new w (.cells r.vals 72)
  obtain ⟨W1, e1⟩ : ∃ W, w.alloc (.cells r.vals 72) = W := ⟨_, rfl⟩
  have E1 : Hid (w.alloc (.cells r.vals 72) = W1) := e1
  rw [e1] at hb1 hn1
  have HB1 : Hid (Below w.heap.size w W1) := hb1
  have c0 : W1.cell? ⟨w.heap.size, 0, none⟩ = some (.int .u8 r.k) := cell_of hn1 0
  have c1 : W1.cell? ⟨w.heap.size, 1, none⟩ = some (.int .u8 r.o) := cell_of hn1 1
  have HN1 : Hid (W1.heap[w.heap.size]? = some (.cells r.vals 72 (0, 0))) := hn1
  have HS1 : Hid (W1.heap.size = w.heap.size + 1) := by show _ = _; rw [← e1]; exact size_alloc _ _
  have cP := partsOf_any r.k r.o W1
  have hI := hasI_s r
  clear hb1 e1 hn1

  obtain ⟨p, ep⟩ : ∃ p, partsN r.k r.o = p := ⟨_, rfl⟩
  rw [ep] at cP hI
  have HI : Hid (∀ i (hi : i < 4), hasI r (i + 1) = hasI r i ++ (if (prts p).getD i false then [(spL r).getD i ⟨0, 0⟩] else [])) := hI
  clear hI ep
  go_enter Tryd.func41, Tryd.ntmps41
  go_upto_region 1 with fail
  rw [E1.out]
  clear E1
  go_wp2_with fail
  refine cP.mono ?_
  rintro e w2 ⟨rfl, hb2⟩
  have HZ : Hid ((w2.alloc (.cells #[.bool false, .bool false, .bool false, .bool false] 127)).heap[w2.heap.size]? = some (.cells #[.bool false, .bool false, .bool false, .bool false] 127 (0, 0))) := heap_new _ _
  have hbx : Below w2.heap.size w2 ((w2.alloc (.cells #[.bool false, .bool false, .bool false, .bool false] 127)).setRow w2.heap.size p.vals) := below_row (below_new _ _) (Nat.le_refl _) _
  have hnx : ((w2.alloc (.cells #[.bool false, .bool false, .bool false, .bool false] 127)).setRow w2.heap.size p.vals).heap[w2.heap.size]? = some (.cells p.vals 127 (0, 0)) := setRow_heap _ _ _ _ _ _ HZ.out
  have hsz : w.heap.size ≤ w2.heap.size := by have := hb2.size; rw [HS1.out] at this; omega
  have hlt : w.heap.size < w2.heap.size := by have := hb2.size; rw [HS1.out] at this; omega
  have HN2 : Hid (((w2.alloc (.cells #[.bool false, .bool false, .bool false, .bool false] 127)).setRow w2.heap.size p.vals).heap[w.heap.size]? = some (.cells r.vals 72 (0, 0))) := (hbx.block _ hlt).trans ((hb2.block _ (by rw [HS1.out]; omega)).trans HN1.out)
  have hO := ((OwnK.nil (below2 (below2 HB1.out hb2) hbx) 48 2).add _ _ _ hnx hsz (by simp [Value.ownBlock]))
  obtain ⟨b4, e4⟩ : ∃ b, w2.heap.size = b := ⟨_, rfl⟩
  have HO : Hid (OwnK w ((w2.alloc (.cells #[.bool false, .bool false, .bool false, .bool false] 127)).setRow w2.heap.size p.vals) [(b4, 127, p.vals)] 48 2 (.slice none 0 0) []) := by rw [← e4]; exact hO
  have H4 : Hid (w2.heap.size = b4) := e4
  clear hbx hnx hsz hlt hO hb2 cP c0 c1 HN1 HS1 HB1 e4
  go_upto_region 3 with (refine wpList_store_row rfl 127 (.tmp 4) (.tmp 11) rfl w2.heap.size p.vals rfl rfl 127 #[.bool false, .bool false, .bool false, .bool false] HZ.out size216' rfl (all4 _) ?_)
  rw [H4.out] at HO HN2 ⊢
  generalize World.setRow _ _ _ = W3 at HO HN2 ⊢
  clear HZ H4
  have cS := spansOf_any r W3
  go_wp2_with (refine wpList_load_row rfl 72 (.tmp 1) rfl w.heap.size rfl 72 r.vals (0, 0) _ HN2.out Tryd.underlying72 rfl size85' ?_)
  refine cS.mono ?_
  rintro e w5 ⟨rfl, hb5⟩
  have HO5 : Hid (OwnK w w5 [(b4, 127, p.vals)] 48 2 (.slice none 0 0) []) := HO.out.on hb5
  clear cS hb5 HO HN2
  go_wp2_with fail
  go_loopw [3, 14] (fun fv t wr => ∃ (v : Value) (i : Nat), i ≤ 4 ∧ fv = v ∧ t = .int .i64 i ∧ Hid (OwnK w wr [(b4, 127, p.vals)] 48 2 v ((hasI r i).map Sp.vals)) ∧ Hid (hasI r i = [] → v = .slice none 0 0)) (fun _ t _ => 4 - (intOf t).toNat)
  case atStart => exact ⟨_, 0, by omega, rfl, rfl, HO5, fun _ => rfl⟩
  case round =>
    obtain ⟨v, i, hi, rfl, rfl, HOR, HNR⟩ := hrel
    by_cases hlt : i < 4
    · have hlt' : (i : Int) < 4 := by omega
      have hmx : (i : Int) + 1 ≤ 9223372036854775807 := by omega
      have HIX : Hid (∀ w, Sem.run Tryd.prog (Instr.index 130 (.agg (spV r)) (.int .i64 i)) w = .ok (.agg (((spL r).getD i ⟨0, 0⟩).vals)) w) := spV_ix r i hlt
      have HII : Hid (hasI r (i + 1) = hasI r i ++ (if (prts p).getD i false then [(spL r).getD i ⟨0, 0⟩] else [])) := HI.out i hlt
      have HLE : Hid ((hasI r i).length ≤ i) := hasI_le r i hi
      obtain ⟨d, ed⟩ : ∃ d, (spL r).getD i ⟨0, 0⟩ = d := ⟨_, rfl⟩
      rw [ed] at HIX HII
      have HZ : Hid ((wr.alloc (.cells #[.int .i64 0, .int .i64 0] 48)).heap[wr.heap.size]? = some (.cells #[.int .i64 0, .int .i64 0] 48 (0, 0))) := heap_new _ _
      have HWX : Hid (Below wr.heap.size wr ((wr.alloc (.cells #[.int .i64 0, .int .i64 0] 48)).setRow wr.heap.size d.vals)) := below_row (below_new _ _) (Nat.le_refl _) _
      have HNX : Hid (((wr.alloc (.cells #[.int .i64 0, .int .i64 0] 48)).setRow wr.heap.size d.vals).heap[wr.heap.size]? = some (.cells d.vals 48 (0, 0))) := setRow_heap _ _ _ _ _ _ HZ.out
      clear ed
      go_upto_region 6 with (first | (refine wpList_index rfl 130 (.tmp 13) (.tmp 14) rfl _ (.int .i64 i) _ rfl rfl HIX.out ?_) | (refine wpList_store_row rfl 48 (.tmp 6) (.tmp 17) rfl wr.heap.size d.vals rfl rfl 48 #[.int .i64 0, .int .i64 0] HZ.out size65' rfl (allSp d) ?_))
      have HOX : Hid (OwnK w ((wr.alloc (.cells #[.int .i64 0, .int .i64 0] 48)).setRow wr.heap.size d.vals) [(b4, 127, p.vals)] 48 2 _ ((hasI r i).map Sp.vals)) := HOR.out.on HWX.out
      generalize World.setRow _ _ _ = WX at HOX HNX HWX ⊢
      clear HZ HOR HWX HIX
      have cb := p4_cell HOX.out.box i hlt
      cases hp : (prts p).getD i false with
      | true =>
        rw [hp] at cb HII
        have HIJ : Hid (hasI r (i + 1) = hasI r i ++ [d]) := by rw [HII.out]; rfl
        clear HII
        go_wp2_with (first | (refine wpList_load_row rfl 48 (.tmp 6) rfl wr.heap.size rfl 48 d.vals (0, 0) _ HNX.out Tryd.underlying48 rfl size65' ?_) | (refine wpList_slice1 rfl 105 48 (.tmp 22) rfl d.vals rfl 2 _ Tryd.underlying105 16 inf65 rfl rfl (by decide) (by decide) ?_) | (refine app_one HOX.out 105 d.vals rfl (allSp d) _ 16 Tryd.underlying105 inf65 rfl (by decide) (by rw [List.length_map]; have := HLE.out; omega) (by decide) rfl (.tmp 21) (.tmp 23) rfl rfl rfl ?_; intro g cap w8 HO8))
        exact ⟨⟨_, i + 1, hlt, rfl, rfl, by show OwnK _ _ _ _ _ _ _; rw [HIJ.out, List.map_append]; simpa using HO8, fun e => by rw [HIJ.out] at e; simp at e⟩, by simp only [intOf]; omega⟩
      | false =>
        rw [hp] at cb HII
        have HIJ : Hid (hasI r (i + 1) = hasI r i) := by show _ = _; rw [HII.out]; simp
        clear HII
        go_wp2_with fail
        exact ⟨⟨_, i + 1, hlt, rfl, rfl, by rw [HIJ.out]; exact HOX, by rw [HIJ.out]; exact HNR⟩, by simp only [intOf]; omega⟩
    · obtain rfl : i = 4 := by omega
      have hnot : ¬ ((4 : Nat) : Int) < 4 := by omega
      go_wp2_with fail
      go_ret
      obtain ⟨a, c, h1, h2, h3⟩ := HOR.out.sl2
      refine ⟨a, c, by rw [h1, List.length_map]; rfl, h2, fun e => ?_, fun b o e => ⟨(h3 b o e).1, (HOR.out.blk' (by rw [h1, e]; rfl))⟩, HOR.out.B⟩
      have := HNR.out e
      rw [h1] at this
      simp at this
      exact ⟨this.1, this.2.2⟩
end Go.Proofs.YteedmmljahgpjabDoor

/-
  Is a row one that may be; are a guard's rows?
-/
namespace Go.Proofs.YteedmmljahgpjabDoor
open Go.RowKit
set_option linter.unusedVariables false
set_option linter.unusedSimpArgs false
def noneB (x : Sp) : Bool := x.f == 0 && x.t == 0
def partB (b : Bool) (x : Sp) : Bool := b || noneB x
def rowPB (r : RowM) (i : Nat) : Bool := ((((prts (partsN r.k r.o)).zip (spL r)).take i)).all (fun q => partB q.1 q.2)
def rowB (sl : Int) (nr ns : Nat) (r : RowM) : Bool := orderB r && withinB (idxN sl nr ns r.k).1 r.i (idxN sl nr ns r.k).2 && rowPB r 4
theorem rowPB_s (r : RowM) (i : Nat) (hi : i < 4) : rowPB r (i + 1) = (rowPB r i && partB ((prts (partsN r.k r.o)).getD i false) ((spL r).getD i ⟨0, 0⟩)) := by
  unfold rowPB
  obtain rfl | rfl | rfl | rfl : i = 0 ∨ i = 1 ∨ i = 2 ∨ i = 3 := by omega
  · simp [prts, spL]
  · simp [prts, spL]
  · simp [prts, spL, Bool.and_assoc]
  · simp [prts, spL, Bool.and_assoc]
theorem rowPB_f (r : RowM) (i : Nat) (hi : i < 4) (h : partB ((prts (partsN r.k r.o)).getD i false) ((spL r).getD i ⟨0, 0⟩) = false) : rowPB r 4 = false := by
  have h0 := rowPB_s r 0 (by omega)
  have h1 := rowPB_s r 1 (by omega)
  have h2 := rowPB_s r 2 (by omega)
  have h3 := rowPB_s r 3 (by omega)
  obtain rfl | rfl | rfl | rfl : i = 0 ∨ i = 1 ∨ i = 2 ∨ i = 3 := by omega
  all_goals simp_all
set_option maxRecDepth 100000 in
set_option maxHeartbeats 4000000 in
theorem rowFits_any (t : TbM) (r : RowM) (w : World) (hl : TbL w t) : Calls Tryd.prog 53 #[.agg t.vals, .agg r.vals] w fun e w' => e = .returned (.bool (rowB t.sl t.rs.length t.ts.length r)) ∧ Below w.heap.size w w' := by
  have hb1 := below_new w (.cells t.vals 26)
  have hn1 := heap_new w (.cells t.vals 26)
  have hs1 := size_alloc w (.cells t.vals 26)
  obtain ⟨W1, e1⟩ : ∃ W, w.alloc (.cells t.vals 26) = W := ⟨_, rfl⟩
  have E1 : Hid (w.alloc (.cells t.vals 26) = W1) := e1
  rw [e1] at hb1 hn1 hs1
  have hb2 := below_new W1 (.cells r.vals 72)
  have hn2 := heap_new W1 (.cells r.vals 72)
  obtain ⟨W2, e2⟩ : ∃ W, W1.alloc (.cells r.vals 72) = W := ⟨_, rfl⟩
  have E2 : Hid (W1.alloc (.cells r.vals 72) = W2) := e2
  rw [e2] at hb2 hn2
  rw [hs1] at hn2
  have hk : W2.heap[w.heap.size]? = some (.cells t.vals 26 (0, 0)) := (hb2.block _ (by omega)).trans hn1
  have HT2 : Hid (W2.heap[w.heap.size]? = some (.cells t.vals 26 (0, 0))) := hk
  have HB2 : Hid (Below w.heap.size w W2) := below2 hb1 hb2
  obtain ⟨g3, e3⟩ : ∃ g, w.heap.size + 1 = g := ⟨_, rfl⟩
  rw [e3] at hn2
  have HN2 : Hid (W2.heap[g3]? = some (.cells r.vals 72 (0, 0))) := hn2
  have HG3 : Hid (w.heap.size + 1 = g3) := e3
  have c0 : W2.cell? ⟨g3, 0, none⟩ = some (.int .u8 r.k) := cell_of hn2 0
  have cI := indexes_any t r.k W2 (hl.on HB2.out)
  obtain ⟨LO, eLO⟩ : ∃ q, (idxN t.sl t.rs.length t.ts.length r.k).1 = q := ⟨_, rfl⟩
  obtain ⟨HI, eHI⟩ : ∃ q, (idxN t.sl t.rs.length t.ts.length r.k).2 = q := ⟨_, rfl⟩
  obtain ⟨ANS, eA⟩ : ∃ q, rowB t.sl t.rs.length t.ts.length r = q := ⟨_, rfl⟩
  have HA : Hid (ANS = (orderB r && withinB LO r.i HI && rowPB r 4)) := by show _ = _; rw [← eA, ← eLO, ← eHI]; rfl
  rw [eLO, eHI] at cI
  rw [eA]
  clear hb1 hn1 hs1 e1 hb2 hn2 e2 hk e3 hl eLO eHI eA
  go_enter Tryd.func53, Tryd.ntmps53
  go_upto_region 1 with fail
  rw [E1.out, E2.out, HG3.out]
  clear E1 E2
  go_wp2_with (refine wpList_load_row rfl 26 (.tmp 2) rfl w.heap.size rfl 26 t.vals (0, 0) _ HT2.out Tryd.underlying26 rfl size26' ?_)
  refine cI.mono ?_
  rintro e w3 ⟨rfl, hb3⟩
  have HB3 : Hid (Below w.heap.size w w3) := below2 HB2.out hb3
  have HN3 : Hid (w3.heap[g3]? = some (.cells r.vals 72 (0, 0))) := (hb3.block _ (Array.getElem?_eq_some_iff.1 HN2.out).1).trans HN2.out
  have cO := orderFits_any r w3
  clear cI hb3 HB2 HN2 HT2 c0
  go_wp2_with (refine wpList_load_row rfl 72 (.tmp 3) rfl g3 rfl 72 r.vals (0, 0) _ HN3.out Tryd.underlying72 rfl size85' ?_)
  refine cO.mono ?_
  rintro e w4 ⟨rfl, hb4⟩
  have HB4 : Hid (Below w.heap.size w w4) := below2 HB3.out hb4
  have HN4 : Hid (w4.heap[g3]? = some (.cells r.vals 72 (0, 0))) := (hb4.block _ (Array.getElem?_eq_some_iff.1 HN3.out).1).trans HN3.out
  have d0 : w4.cell? ⟨g3, 0, none⟩ = some (.int .u8 r.k) := cell_of HN4.out 0
  have d1 : w4.cell? ⟨g3, 1, none⟩ = some (.int .u8 r.o) := cell_of HN4.out 1
  have d2 : w4.cell? ⟨g3, 2, none⟩ = some (.int .i64 r.i) := cell_of HN4.out 2
  clear cO hb4 HB3 HN3
  cases ho : orderB r with
  | false =>
    have HF : Hid (ANS = false) := by show _ = _; rw [HA.out, ho]; rfl
    go_wp2_with fail
    go_ret
    exact ⟨by rw [HF.out]; rfl, HB4.out⟩
  | true =>
    have cW := within_any LO r.i HI w4
    cases hw : withinB LO r.i HI with
    | false =>
      rw [hw] at cW
      have HF : Hid (ANS = false) := by show _ = _; rw [HA.out, ho, hw]; rfl
      go_wp2_with fail
      refine cW.mono ?_
      rintro e w5 ⟨rfl, rfl⟩
      go_wp2_with fail
      go_ret
      exact ⟨by rw [HF.out]; rfl, HB4.out⟩
    | true =>
      rw [hw] at cW
      have HF : Hid (ANS = rowPB r 4) := by show _ = _; rw [HA.out, ho, hw]; rfl
      have cP := partsOf_any r.k r.o w4
      have hI := rowPB_s r
      have hf := rowPB_f r
      obtain ⟨p, ep⟩ : ∃ p, partsN r.k r.o = p := ⟨_, rfl⟩
      rw [ep] at cP hI hf
      have HII : Hid (∀ i (hi : i < 4), rowPB r (i + 1) = (rowPB r i && partB ((prts p).getD i false) ((spL r).getD i ⟨0, 0⟩))) := hI
      have HFF : Hid (∀ i (hi : i < 4), partB ((prts p).getD i false) ((spL r).getD i ⟨0, 0⟩) = false → rowPB r 4 = false) := hf
      clear hI hf ep HA ho hw
      go_wp2_with fail
      refine cW.mono ?_
      rintro e w5 ⟨rfl, rfl⟩
      clear cW
      go_wp2_with fail
      refine cP.mono ?_
      rintro e w2 ⟨rfl, hb2⟩
      have HZ : Hid ((w2.alloc (.cells #[.bool false, .bool false, .bool false, .bool false] 127)).heap[w2.heap.size]? = some (.cells #[.bool false, .bool false, .bool false, .bool false] 127 (0, 0))) := heap_new _ _
      have hbx : Below w2.heap.size w2 ((w2.alloc (.cells #[.bool false, .bool false, .bool false, .bool false] 127)).setRow w2.heap.size p.vals) := below_row (below_new _ _) (Nat.le_refl _) _
      have HNX : Hid (((w2.alloc (.cells #[.bool false, .bool false, .bool false, .bool false] 127)).setRow w2.heap.size p.vals).heap[w2.heap.size]? = some (.cells p.vals 127 (0, 0))) := setRow_heap _ _ _ _ _ _ HZ.out
      have HBX : Hid (Below w.heap.size w ((w2.alloc (.cells #[.bool false, .bool false, .bool false, .bool false] 127)).setRow w2.heap.size p.vals)) := below2 (below2 HB4.out hb2) hbx
      have hg4 := (Array.getElem?_eq_some_iff.1 HN4.out).1
      have HRX : Hid (((w2.alloc (.cells #[.bool false, .bool false, .bool false, .bool false] 127)).setRow w2.heap.size p.vals).heap[g3]? = some (.cells r.vals 72 (0, 0))) := (hbx.block _ (by have := hb2.size; omega)).trans ((hb2.block _ hg4).trans HN4.out)
      clear hbx hb2 cP d0 d1 d2 HB4 HN4 hg4
      go_upto_region 5 with (refine wpList_store_row rfl 127 (.tmp 7) (.tmp 32) rfl w2.heap.size p.vals rfl rfl 127 #[.bool false, .bool false, .bool false, .bool false] HZ.out size216' rfl (all4 _) ?_)
      obtain ⟨b4, e4⟩ : ∃ b, w2.heap.size = b := ⟨_, rfl⟩
      rw [e4] at HNX HBX HRX ⊢
      generalize World.setRow _ _ _ = W3 at HNX HBX HRX ⊢
      clear HZ e4
      have cS := spansOf_any r W3
      go_wp2_with (refine wpList_load_row rfl 72 (.tmp 3) rfl g3 rfl 72 r.vals (0, 0) _ HRX.out Tryd.underlying72 rfl size85' ?_)
      refine cS.mono ?_
      rintro e w5 ⟨rfl, hb5⟩
      have HB5 : Hid (Below w.heap.size w w5) := below2 HBX.out hb5
      have HP5 : Hid (w5.heap[b4]? = some (.cells p.vals 127 (0, 0))) := (hb5.block _ (Array.getElem?_eq_some_iff.1 HNX.out).1).trans HNX.out
      clear cS hb5 HBX HNX HRX
      go_wp2_with fail
      go_loopw [35] (fun t wr => ∃ (i : Nat), i ≤ 4 ∧ t = .int .i64 i ∧ Hid (Below w.heap.size w wr) ∧ Hid (wr.heap[b4]? = some (.cells p.vals 127 (0, 0))) ∧ Hid (rowPB r i = true)) (fun t _ => 4 - (intOf t).toNat)
      case atStart => exact ⟨0, by omega, rfl, HB5, HP5, rfl⟩
      case round =>
        obtain ⟨i, hi, rfl, HBR, HPR, HTR⟩ := hrel
        by_cases hlt : i < 4
        · have hlt' : (i : Int) < 4 := by omega
          have hmx : (i : Int) + 1 ≤ 9223372036854775807 := by omega
          have HIX : Hid (∀ w, Sem.run Tryd.prog (Instr.index 130 (.agg (spV r)) (.int .i64 i)) w = .ok (.agg (((spL r).getD i ⟨0, 0⟩).vals)) w) := spV_ix r i hlt
          have HI1 := HII.out i hlt
          have HI2 := HFF.out i hlt
          obtain ⟨d, ed⟩ : ∃ d, (spL r).getD i ⟨0, 0⟩ = d := ⟨_, rfl⟩
          rw [ed] at HIX HI1 HI2
          have HJ1 : Hid (rowPB r (i + 1) = partB ((prts p).getD i false) d) := by show _ = _; rw [HI1, HTR.out]; rfl
          have HJ2 : Hid (partB ((prts p).getD i false) d = false → rowPB r 4 = false) := HI2
          have HZ : Hid ((wr.alloc (.cells #[.int .i64 0, .int .i64 0] 48)).heap[wr.heap.size]? = some (.cells #[.int .i64 0, .int .i64 0] 48 (0, 0))) := heap_new _ _
          have HWX : Hid (Below wr.heap.size wr ((wr.alloc (.cells #[.int .i64 0, .int .i64 0] 48)).setRow wr.heap.size d.vals)) := below_row (below_new _ _) (Nat.le_refl _) _
          have HNX : Hid (((wr.alloc (.cells #[.int .i64 0, .int .i64 0] 48)).setRow wr.heap.size d.vals).heap[wr.heap.size]? = some (.cells d.vals 48 (0, 0))) := setRow_heap _ _ _ _ _ _ HZ.out
          clear ed HI1 HI2
          go_upto_region 8 with (first | (refine wpList_index rfl 130 (.tmp 34) (.tmp 35) rfl _ (.int .i64 i) _ rfl rfl HIX.out ?_) | (refine wpList_store_row rfl 48 (.tmp 9) (.tmp 38) rfl wr.heap.size d.vals rfl rfl 48 #[.int .i64 0, .int .i64 0] HZ.out size65' rfl (allSp d) ?_))
          generalize World.setRow _ _ _ = WX at HNX HWX ⊢
          have HBX : Hid (Below w.heap.size w WX) := below2 HBR.out HWX.out
          have HPX : Hid (WX.heap[b4]? = some (.cells p.vals 127 (0, 0))) := (HWX.out.block _ (Array.getElem?_eq_some_iff.1 HPR.out).1).trans HPR.out
          have cb := p4_cell HPX.out i hlt
          have x0 : WX.cell? ⟨wr.heap.size, 0, none⟩ = some (.int .i64 d.f) := cell_of HNX.out 0
          have x1 : WX.cell? ⟨wr.heap.size, 1, none⟩ = some (.int .i64 d.t) := cell_of HNX.out 1
          clear HZ HIX HBR HPR HNX
          cases hp : (prts p).getD i false with
          | true =>
            rw [hp] at cb HJ1
            have HT : Hid (rowPB r (i + 1) = true) := by show _ = _; rw [HJ1.out]; rfl
            go_wp2_with fail
            exact ⟨⟨i + 1, hlt, rfl, HBX, HPX, HT⟩, by simp only [intOf]; omega⟩
          | false =>
            rw [hp] at cb HJ1 HJ2
            cases h0 : (d.f == 0) with
            | false =>
              have HF2 : Hid (ANS = false) := by show _ = _; rw [HF.out]; exact HJ2.out (by simp [partB, noneB, h0])
              go_wp2_with fail
              go_ret
              exact ⟨by rw [HF2.out]; rfl, HBX.out⟩
            | true =>
              cases h1 : (d.t == 0) with
              | false =>
                have HF2 : Hid (ANS = false) := by show _ = _; rw [HF.out]; exact HJ2.out (by simp [partB, noneB, h0, h1])
                go_wp2_with fail
                go_ret
                exact ⟨by rw [HF2.out]; rfl, HBX.out⟩
              | true =>
                have HT : Hid (rowPB r (i + 1) = true) := by show _ = _; rw [HJ1.out]; simp [partB, noneB, h0, h1]
                go_wp2_with fail
                exact ⟨⟨i + 1, hlt, rfl, HBX, HPX, HT⟩, by simp only [intOf]; omega⟩
        · obtain rfl : i = 4 := by omega
          have hnot : ¬ ((4 : Nat) : Int) < 4 := by omega
          have HT : Hid (ANS = true) := by show _ = _; rw [HF.out]; exact HTR.out
          go_wp2_with fail
          go_ret
          exact ⟨by rw [HT.out]; rfl, HBR.out⟩
end Go.Proofs.YteedmmljahgpjabDoor

/-
  Do a guard's rows fit; do its spans lie one behind the other; the sizes.
-/
namespace Go.Proofs.YteedmmljahgpjabDoor
open Go.RowKit
set_option linter.unusedVariables false
set_option linter.unusedSimpArgs false
def rowsR (sl : Int) (nr ns : Nat) : List RowM → Bool
  | [] => true
  | r :: rs => rowB sl nr ns r && !(!rs.isEmpty && endsB r.k) && rowsR sl nr ns rs
def rowsB (sl : Int) (nr ns : Nat) (rs : List RowM) : Bool := withinB 1 rs.length 8 && rowsR sl nr ns rs
def liesN : Int → List Sp → Option Int
  | a, [] => some a
  | a, x :: l => if x.f != a || decide (x.t ≤ x.f) then none else liesN x.t l
def gSp (g : GdM) : List Sp := g.wh :: (g.rs.map hasL).flatten
theorem SlAt.blk {w w' : World} {n : Nat} {a : Option Addr} {c : Nat} {vs : List (Array Value)} (h : SlAt w n a c vs) (k : ∀ b o, a = some ⟨b, o, none⟩ → w'.heap[b]? = w.heap[b]?) : SlAt w' n a c vs := by
  refine ⟨h.1, h.2.1, fun i hi => ?_⟩
  obtain ⟨b, o, h1, h2⟩ := h.2.2 i hi
  exact ⟨b, o, h1, fun j hj => by rw [World.cell?_of_block (k b o h1)]; exact h2 j hj⟩
set_option maxRecDepth 100000 in
set_option maxHeartbeats 4000000 in
theorem sizesFit_any (t : TbM) (w : World) : Calls Tryd.prog 32 #[.agg t.vals] w fun e w' => e = .returned (.bool (sizesB t)) ∧ Below w.heap.size w w' := by
  have hb1 := below_new w (.cells t.vals 26)
  have hn1 := heap_new w (.cells t.vals 26)
  obtain ⟨W1, e1⟩ : ∃ W, w.alloc (.cells t.vals 26) = W := ⟨_, rfl⟩
  have E1 : Hid (w.alloc (.cells t.vals 26) = W1) := e1
  rw [e1] at hb1 hn1
  have HB1 : Hid (Below w.heap.size w W1) := hb1
  have c1 : W1.cell? ⟨w.heap.size, 1, none⟩ = some (.slice t.ra t.rs.length t.rc) := cell_of hn1 1
  have c2 : W1.cell? ⟨w.heap.size, 2, none⟩ = some (.int .i64 t.sl) := cell_of hn1 2
  have c3 : W1.cell? ⟨w.heap.size, 3, none⟩ = some (.slice t.ca t.cs.length t.cc) := cell_of hn1 3
  have c4 : W1.cell? ⟨w.heap.size, 4, none⟩ = some (.slice t.da t.ds.length t.dc) := cell_of hn1 4
  have c5 : W1.cell? ⟨w.heap.size, 5, none⟩ = some (.slice t.ta t.ts.length t.tc) := cell_of hn1 5
  clear hb1 e1 hn1
  have cW := within_any 0 t.sl 4 W1
  have cV := within_any 1 t.ts.length 12 W1
  unfold sizesB
  cases h1 : decide ((t.rs.length : Int) ≤ 12) with
  | false =>
    go_enter Tryd.func32, Tryd.ntmps32
    go_upto_region 1 with fail
    rw [E1.out]
    clear E1
    go_wp2_with fail
    go_ret
    exact ⟨rfl, HB1.out⟩
  | true =>
    cases h2 : withinB 0 t.sl 4 with
    | false =>
      rw [h2] at cW
      go_enter Tryd.func32, Tryd.ntmps32
      go_upto_region 1 with fail
      rw [E1.out]
      clear E1
      go_wp2_with fail
      refine cW.mono ?_
      rintro e w5 ⟨rfl, rfl⟩
      go_wp2_with fail
      go_ret
      exact ⟨rfl, HB1.out⟩
    | true =>
      rw [h2] at cW
      cases h3 : decide ((t.cs.length : Int) ≤ 1024) with
      | false =>
        go_enter Tryd.func32, Tryd.ntmps32
        go_upto_region 1 with fail
        rw [E1.out]
        clear E1
        go_wp2_with fail
        refine cW.mono ?_
        rintro e w5 ⟨rfl, rfl⟩
        go_wp2_with fail
        go_ret
        exact ⟨rfl, HB1.out⟩
      | true =>
        cases h4 : decide ((t.ds.length : Int) ≤ 4096) with
        | false =>
          go_enter Tryd.func32, Tryd.ntmps32
          go_upto_region 1 with fail
          rw [E1.out]
          clear E1
          go_wp2_with fail
          refine cW.mono ?_
          rintro e w5 ⟨rfl, rfl⟩
          go_wp2_with fail
          go_ret
          exact ⟨rfl, HB1.out⟩
        | true =>
          go_enter Tryd.func32, Tryd.ntmps32
          go_upto_region 1 with fail
          rw [E1.out]
          clear E1
          go_wp2_with fail
          refine cW.mono ?_
          rintro e w5 ⟨rfl, rfl⟩
          go_wp2_with fail
          refine cV.mono ?_
          rintro e w5 ⟨rfl, rfl⟩
          go_wp2_with fail
          go_ret
          exact ⟨rfl, HB1.out⟩
set_option maxRecDepth 100000 in
set_option maxHeartbeats 4000000 in
theorem rowsFit_any (t : TbM) (rs : List RowM) (a : Option Addr) (c : Nat) (w : World) (hl : TbL w t) (hk : SlAt w 11 a c (rs.map RowM.vals)) : Calls Tryd.prog 33 #[.agg t.vals, .slice a rs.length c] w fun e w' => e = .returned (.bool (rowsB t.sl t.rs.length t.ts.length rs)) ∧ Below w.heap.size w w' := by
  have hb1 := below_new w (.cells t.vals 26)
  have hn1 := heap_new w (.cells t.vals 26)
  obtain ⟨W1, e1⟩ : ∃ W, w.alloc (.cells t.vals 26) = W := ⟨_, rfl⟩
  have E1 : Hid (w.alloc (.cells t.vals 26) = W1) := e1
  rw [e1] at hb1 hn1
  have HB1 : Hid (Below w.heap.size w W1) := hb1
  have HN1 : Hid (W1.heap[w.heap.size]? = some (.cells t.vals 26 (0, 0))) := hn1
  have HS1 : Hid (W1.heap.size = w.heap.size + 1) := by show _ = _; rw [← e1]; exact size_alloc _ _
  clear hb1 e1 hn1
  have HSL : Hid (SlAt w 11 a c (rs.map RowM.vals)) := hk
  have HTL : Hid (TbL w t) := hl
  have cW := within_any 1 rs.length 8 W1
  unfold rowsB
  clear hk hl
  cases hw : withinB 1 rs.length 8 with
  | false =>
    rw [hw] at cW
    go_enter Tryd.func33, Tryd.ntmps33
    go_upto_region 1 with fail
    rw [E1.out]
    clear E1
    go_wp2_with fail
    refine cW.mono ?_
    rintro e w5 ⟨rfl, rfl⟩
    go_wp2_with fail
    go_ret
    exact ⟨rfl, HB1.out⟩
  | true =>
    rw [hw] at cW
    obtain ⟨hn0, hn8⟩ : (1 : Int) ≤ rs.length ∧ (rs.length : Int) ≤ 8 := by simpa [withinB] using hw
    obtain ⟨R, eR⟩ : ∃ R, rowsR t.sl t.rs.length t.ts.length rs = R := ⟨_, rfl⟩
    rw [eR]
    have HR0 : Hid (R = rowsR t.sl t.rs.length t.ts.length (rs.drop 0)) := by show _ = _; rw [← eR]; rfl
    clear eR hw
    go_enter Tryd.func33, Tryd.ntmps33
    go_upto_region 1 with fail
    rw [E1.out]
    clear E1
    go_wp2_with fail
    refine cW.mono ?_
    rintro e w5 ⟨rfl, rfl⟩
    clear cW
    go_wp2_with fail
    go_loopw [13] (fun q wr => ∃ (i : Nat), i ≤ rs.length ∧ q = .int .i64 i ∧ Hid (Below w.heap.size w wr) ∧ Hid (wr.heap[w.heap.size]? = some (.cells t.vals 26 (0, 0))) ∧ Hid (R = rowsR t.sl t.rs.length t.ts.length (rs.drop i))) (fun q _ => rs.length - (intOf q).toNat)
    case atStart => exact ⟨0, by omega, rfl, HB1, HN1, HR0⟩
    case round =>
      obtain ⟨i, hi, rfl, HBR, HPR, HRR⟩ := hrel
      by_cases hlt : i < rs.length
      · have hlt' : (i : Int) < (rs.length : Int) := by omega
        have hmx : (i : Int) + 1 ≤ 9223372036854775807 := by have h1 := HSL.out.1; have h2 := HSL.out.2.1; rw [List.length_map] at h1; omega
        obtain ⟨bb, o, ea, hat⟩ := (HSL.out.on (mapz RowM.sz _) HBR.out).2.2 i (by rw [List.length_map]; exact hlt)
        simp only [List.getElem_map] at hat
        have HMEM : Hid (rs[i] ∈ rs) := List.getElem_mem hlt
        have HD : Hid (R = (rowB t.sl t.rs.length t.ts.length rs[i] && !(!(rs.drop (i + 1)).isEmpty && endsB rs[i].k) && rowsR t.sl t.rs.length t.ts.length (rs.drop (i + 1)))) := by show _ = _; rw [HRR.out, List.drop_eq_getElem_cons hlt]; rfl
        obtain ⟨d, ed⟩ : ∃ d, rs[i] = d := ⟨_, rfl⟩
        rw [ed] at hat HMEM HD
        have HRG : Hid (wr.rangeAt bb (o + i * 11) d.vals.toList) := fun j v hv => by
          have hj : j < 11 := (List.getElem?_eq_some_iff.1 hv).1
          rw [hat j hj, ← hv]; simp
        have HZ : Hid ((wr.alloc (.cells #[.int .u8 0, .int .u8 0, .int .i64 0, .int .i64 0, .int .i64 0, .int .i64 0, .int .i64 0, .int .i64 0, .int .i64 0, .int .i64 0, .int .i64 0] 72)).heap[wr.heap.size]? = some (.cells #[.int .u8 0, .int .u8 0, .int .i64 0, .int .i64 0, .int .i64 0, .int .i64 0, .int .i64 0, .int .i64 0, .int .i64 0, .int .i64 0, .int .i64 0] 72 (0, 0))) := heap_new _ _
        have HWX : Hid (Below wr.heap.size wr ((wr.alloc (.cells #[.int .u8 0, .int .u8 0, .int .i64 0, .int .i64 0, .int .i64 0, .int .i64 0, .int .i64 0, .int .i64 0, .int .i64 0, .int .i64 0, .int .i64 0] 72)).setRow wr.heap.size d.vals)) := below_row (below_new _ _) (Nat.le_refl _) _
        have HNX : Hid (((wr.alloc (.cells #[.int .u8 0, .int .u8 0, .int .i64 0, .int .i64 0, .int .i64 0, .int .i64 0, .int .i64 0, .int .i64 0, .int .i64 0, .int .i64 0, .int .i64 0] 72)).setRow wr.heap.size d.vals).heap[wr.heap.size]? = some (.cells d.vals 72 (0, 0))) := setRow_heap _ _ _ _ _ _ HZ.out
        subst ea
        clear hat ed
        go_upto_region 6 with (first | (refine wpList_load_mid rfl 72 (.tmp 16) rfl bb (o + i * 11) rfl d.vals.toList _ HRG.out Tryd.underlying72 rfl (by show _ = some 11; exact size85') ?_; rw [Array.toArray_toList]) | (refine wpList_store_row rfl 72 (.tmp 6) (.tmp 17) rfl wr.heap.size d.vals rfl rfl 72 #[.int .u8 0, .int .u8 0, .int .i64 0, .int .i64 0, .int .i64 0, .int .i64 0, .int .i64 0, .int .i64 0, .int .i64 0, .int .i64 0, .int .i64 0] HZ.out size85' rfl (allRow d) ?_))
        generalize World.setRow _ _ _ = WX at HWX HNX ⊢
        clear HZ HRG
        have HBX : Hid (Below w.heap.size w WX) := below2 HBR.out HWX.out
        have HPX : Hid (WX.heap[w.heap.size]? = some (.cells t.vals 26 (0, 0))) := (HWX.out.block _ (Array.getElem?_eq_some_iff.1 HPR.out).1).trans HPR.out
        have cR := rowFits_any t d WX (HTL.out.on HBX.out)
        have hem : (rs.drop (i + 1)).isEmpty = !decide ((i : Int) < (rs.length : Int) - 1) := by
          by_cases hq : (i : Int) < (rs.length : Int) - 1
          · rw [decide_eq_true hq]
            have : (rs.drop (i + 1)).length ≠ 0 := by rw [List.length_drop]; omega
            cases hx : rs.drop (i + 1) with
            | nil => rw [hx] at this; simp at this
            | cons _ _ => rfl
          · rw [decide_eq_false hq, List.drop_of_length_le (by omega)]; rfl
        rw [hem] at HD
        have HNX2 : Hid (WX.heap[wr.heap.size]? = some (.cells d.vals 72 (0, 0))) := HNX.out
        clear hem HRR HBR HPR HMEM
        go_wp2_with (first | (refine wpList_load_row rfl 26 (.tmp 2) rfl w.heap.size rfl 26 t.vals (0, 0) _ HPX.out Tryd.underlying26 rfl size26' ?_) | (refine wpList_load_row rfl 72 (.tmp 6) rfl wr.heap.size rfl 72 d.vals (0, 0) _ HNX2.out Tryd.underlying72 rfl size85' ?_))
        refine cR.mono ?_
        rintro e w5 ⟨rfl, hb5⟩
        have HB5 : Hid (Below w.heap.size w w5) := below2 HBX.out hb5
        have HP5 : Hid (w5.heap[w.heap.size]? = some (.cells t.vals 26 (0, 0))) := (hb5.block _ (Array.getElem?_eq_some_iff.1 HPX.out).1).trans HPX.out
        have c0 : w5.cell? ⟨wr.heap.size, 0, none⟩ = some (.int .u8 d.k) := by rw [World.cell?_of_block (hb5.block _ (Array.getElem?_eq_some_iff.1 HNX2.out).1)]; exact cell_of HNX2.out 0
        clear cR hb5 HBX HPX HNX HNX2 HWX
        cases hr : rowB t.sl t.rs.length t.ts.length d with
        | false =>
          have HF : Hid (R = false) := by show _ = _; rw [HD.out, hr]; rfl
          go_wp2_with fail
          go_ret
          exact ⟨by rw [HF.out]; rfl, HB5.out⟩
        | true =>
          cases hj : decide ((i : Int) < (rs.length : Int) - 1) with
          | false =>
            have HF : Hid (R = rowsR t.sl t.rs.length t.ts.length (rs.drop (i + 1))) := by show _ = _; rw [HD.out, hr, hj]; rfl
            go_wp2_with fail
            exact ⟨⟨i + 1, hlt, rfl, HB5, HP5, HF⟩, by simp only [intOf]; omega⟩
          | true =>
            have cE := ends_any d.k w5
            cases hd : endsB d.k with
            | true =>
              rw [hd] at cE
              have HF : Hid (R = false) := by show _ = _; rw [HD.out, hr, hj, hd]; rfl
              go_wp2_with fail
              refine cE.mono ?_
              rintro e w6 ⟨rfl, rfl⟩
              go_wp2_with fail
              go_ret
              exact ⟨by rw [HF.out]; rfl, HB5.out⟩
            | false =>
              rw [hd] at cE
              have HF : Hid (R = rowsR t.sl t.rs.length t.ts.length (rs.drop (i + 1))) := by show _ = _; rw [HD.out, hr, hj, hd]; rfl
              go_wp2_with fail
              refine cE.mono ?_
              rintro e w6 ⟨rfl, rfl⟩
              go_wp2_with fail
              exact ⟨⟨i + 1, hlt, rfl, HB5, HP5, HF⟩, by simp only [intOf]; omega⟩
      · obtain rfl : i = rs.length := by omega
        have hnot : ¬ (rs.length : Int) < (rs.length : Int) := by omega
        have HF : Hid (R = true) := by show _ = _; rw [HRR.out, List.drop_length]; rfl
        go_wp2_with fail
        go_ret
        exact ⟨by rw [HF.out]; rfl, HBR.out⟩
end Go.Proofs.YteedmmljahgpjabDoor
