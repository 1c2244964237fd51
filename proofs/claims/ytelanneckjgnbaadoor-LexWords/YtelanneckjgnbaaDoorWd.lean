/-
  The walk of LexWords.
-/
import Derived.Test.YtelanneckjgnbaaDoorBx
import Derived.Test.YtelanneckjgnbaaDoorLxu
import Derived.Test.YtelanneckjgnbaaDoorLxy
namespace Go.Proofs.YtelanneckjgnbaaDoor
open Go.RowKit

theorem below_D {w v : World} {n : Nat} (e : v = w.drewN n) : Below w.heap.size w v := by rw [e]; exact below_drew (Below.refl _ _) n
theorem wordsV_at (j : Nat) (h : j < 41) : wordsV[j]? = some (.string (wd j)) := by
  unfold wordsV wd
  have hl : j < wordsL.length := h
  simp [List.getElem?_map, List.getElem?_eq_getElem hl, List.getD]
set_option maxRecDepth 100000 in
set_option maxHeartbeats 8000000 in
theorem words_law (s : ByteArray) (w : World) (ht : Tab w) :
    Calls Tryd.prog 6 #[.string s] w fun e w' => e = .returned (.bool true) ∧ Below w.heap.size w w' := by
  have cW := works_any w ht
  by_cases h : s.size > 4194304
  · have h' : (s.size : Int) > 4194304 := by omega
    go_enter Tryd.func6, Tryd.ntmps6
    go_wp2_with fail
    refine cW.mono ?_
    rintro _ w1 ⟨rfl, b1⟩
    go_wp2_with fail
    go_ret
    exact ⟨rfl, b1⟩
  have h' : ¬ (s.size : Int) > 4194304 := by omega
  have cWp := wordP_any s
  have cNp := namep_any s (by omega)
  have cWr := word_any s
  have cNr := name_any s (by omega)
  obtain ⟨bw, ebw⟩ : ∃ bw, isW s = bw := ⟨_, rfl⟩
  obtain ⟨bn, ebn⟩ : ∃ bn, nameB s = bn := ⟨_, rfl⟩
  rw [ebw] at cWp cWr
  rw [ebn] at cNp cNr
  clear ebw ebn
  go_enter Tryd.func6, Tryd.ntmps6
  go_wp2_with fail
  refine cW.mono ?_
  rintro _ w0 ⟨rfl, b0⟩
  have t0 := ht.on b0
  go_wp2_with fail
  refine (cWp _ t0).mono ?_
  rintro _ v ⟨rfl, q⟩
  obtain rfl := q.symm
  go_wp2_with fail
  refine (cNp _ t0).mono ?_
  rintro _ w1 ⟨rfl, b1⟩
  have HT1 := (t0.on b1).hid
  have HB1 : Hid (Below w.heap.size w w1) := below2 b0 b1
  clear cW ht t0 b0 b1 cWp cNp
  go_wp2_with fail
  refine (words_any _).mono ?_
  rintro _ w2 ⟨rfl, e2⟩
  have hw2 : w2.heap.size = w1.heap.size + 1 := by rw [e2]; exact size_alloc _ _
  have hWb0 : w2.heap[w1.heap.size]? = some (.cells wordsV 9 (0, 0)) := by rw [e2]; exact heap_new _ _
  have hB2 : Below w1.heap.size w1 w2 := by rw [e2]; exact below_new _ _
  obtain ⟨W, eW⟩ : ∃ W, w2.alloc (.cells #[.slice none 0 0, .slice none 0 0, .slice none 0 0, .slice none 0 0, .slice none 0 0, .slice none 0 0, .slice none 0 0, .slice none 0 0, .slice none 0 0, .slice none 0 0, .slice none 0 0] 71) = W := ⟨_, rfl⟩
  have hK : BxH W w2.heap.size (.slice none 0 0) := by rw [← eW]; exact heap_new _ _
  have hX : W.heap[w1.heap.size]? = some (.cells wordsV 9 (0, 0)) := by rw [← eW]; exact heap_old hWb0 (by omega)
  have hBW : Below w1.heap.size w1 W := by rw [← eW]; exact below2 hB2 (below_new _ _)
  have BG0 : Bag 9 38 1 w1 W 0 (.slice none 0 0) (fun _ => .slice none 0 0) (fun _ => 0) (fun _ _ => .slice none 0 0) :=
    ⟨fun j hj => by omega, Row.nil _ _ _ _, fun j j' hj => by omega, fun j hj => by omega, fun b hb => by simp [Value.ownBlock] at hb, hBW⟩
  obtain ⟨bk, ebk⟩ : ∃ bk, w2.heap.size = bk := ⟨_, rfl⟩
  obtain ⟨wb, ewb⟩ : ∃ wb, w1.heap.size = wb := ⟨_, rfl⟩
  have hbt : wb ≠ bk := by omega
  have HBK : Hid (w1.heap.size ≤ bk) := by show _ ≤ _; omega
  rw [ebk] at hK
  rw [ewb] at hX
  have HK : Hid (BxH W bk (.slice none 0 0)) := hK
  have HX : Hid (W.heap[wb]? = some (.cells wordsV 9 (0, 0))) := hX
  have HG0 := BG0.hid
  clear BG0 hK hX hBW hB2 hWb0 e2 hw2
  go_wp2_with fail
  clear eW ebk ewb
  go_loopw [8] (fun x wr => ∃ (i : Nat) (lv : Value) (V : Nat → Value) (n : Nat → Nat) (C : Nat → Nat → Value), i ≤ 3 ∧ x = .int .i64 i ∧ Bag 9 38 1 w1 wr i lv V n C ∧ BxH wr bk lv ∧ wr.heap[wb]? = some (.cells wordsV 9 (0, 0)) ∧ Hid (∀ j, j < i → n j ≤ 1000 ∧ ∀ q, q < n j → ∃ p, C j q = .string p)) (fun x _ => 3 - (intOf x).toNat)
  case atStart => exact ⟨0, _, _, _, _, by omega, rfl, HG0.out, HK.out, HX.out, fun j hj => by omega⟩
  case round =>
    obtain ⟨i, lv, V, n, C, hi3, rfl, hbag, hK, hX, HC⟩ := hrel
    clear HG0 HK HX
    by_cases hi : i < 3
    · have hi' : (i : Int) < 3 := by omega
      have cP := wordsP_any wr (HT1.out.on hbag.B)
      have htl : wb < wr.heap.size := (Array.getElem?_eq_some_iff.1 hX).1
      have HG := hbag.hid
      have HK := hK.hid
      have HX : Hid (wr.heap[wb]? = some (.cells wordsV 9 (0, 0))) := hX
      clear hbag hK hX
      go_wp2_with fail
      refine cP.mono ?_
      rintro _ w2 ⟨rfl, r2, b2⟩
      have hX2 : w2.heap[wb]? = some (.cells wordsV 9 (0, 0)) := (b2.block wb htl).trans HX.out
      have cS := sameX_any wr.heap.size 0 41 wb 0 41 41 wd w2 (by omega) (fun j hj => by rw [Nat.zero_add, r2.cell (by omega)]) (fun j hj => by rw [Nat.zero_add, cell_of hX2 j]; exact wordsV_at j hj)
      have HR2 := Row.hid r2
      have Hb2 : Hid (Below wr.heap.size wr w2) := b2
      clear r2 b2 hX2 cP
      go_wp2_with fail
      refine cS.mono ?_
      rintro _ w4 ⟨rfl, nq, e4⟩
      have b24 := below_D e4
      have hR4 : Row w4 9 1 (.slice (some ⟨wr.heap.size, 0, none⟩) 41 41) 41 (fun j => .string (wd j)) := HR2.out.of_block (fun b hb => b24.block b (HR2.out.lt b hb))
      have hb4 := below2 Hb2.out b24
      have hG4 := HG.out.call hb4
      have hK4 : BxH w4 bk lv := (hb4.block bk HK.out.lt).trans HK.out
      have hX4 : w4.heap[wb]? = some (.cells wordsV 9 (0, 0)) := (hb4.block wb htl).trans HX.out
      have cA := bookAdd_any w4 bk i lv V (some ⟨wr.heap.size, 0, none⟩) 41 41 hK4 hG4.long (by omega)
      have hd : ∀ j, j < i → ∀ b, (V j).ownBlock = some b → (Value.slice (some ⟨wr.heap.size, 0, none⟩) 41 41).ownBlock ≠ some b := fun j hj b hb hb' => by
        have h1 := (HG.out.row j hj).lt b hb
        simp [Value.ownBlock] at hb'
        omega
      have HG4 := hG4.hid
      have HK4 := hK4.hid
      have HX4 : Hid (w4.heap[wb]? = some (.cells wordsV 9 (0, 0))) := hX4
      have HR4 := Row.hid hR4
      have HD : Hid (∀ j, j < i → ∀ b, (V j).ownBlock = some b → (Value.slice (some ⟨wr.heap.size, 0, none⟩) 41 41).ownBlock ≠ some b) := hd
      have HWR : Hid (w1.heap.size ≤ wr.heap.size) := HG.out.B.size
      clear b24 hb4 hG4 hK4 hX4 hR4 hd e4 cS HG HK HX Hb2 HR2 htl
      go_wp2_with fail
      refine cA.mono ?_
      rintro _ w5 ⟨⟨rr, rfl⟩, lv', hk5, hr5, ho5, hm5⟩
      have hG5 := HG4.out.add (by decide) HR4.out (fun b hb => by simp [Value.ownBlock] at hb; have := HWR.out; omega) HD.out HBK.out (fun x m f hx => HK4.out.ne hx (by decide)) hr5 ho5 hm5
      have hX5 : w5.heap[wb]? = some (.cells wordsV 9 (0, 0)) := by
        refine (hm5.block wb (Array.getElem?_eq_some_iff.1 HX4.out).1 (fun hh => ?_)).trans HX4.out
        rcases hh with h1 | h1
        · exact hbt h1
        · obtain ⟨cc, fz, hk⟩ := HG4.out.long.kind wb h1
          rw [HX4.out] at hk
          simp at hk
      have HC5 : Hid (∀ j, j < i + 1 → (if j = i then 41 else n j) ≤ 1000 ∧ ∀ q, q < (if j = i then 41 else n j) → ∃ p, (if j = i then (fun j => Value.string (wd j)) else C j) q = .string p) := fun j hj => by
        by_cases e1 : j = i
        · simp only [e1, if_true]
          exact ⟨by omega, fun q _ => ⟨_, rfl⟩⟩
        · simp only [e1, if_false]
          exact HC.out j (by omega)
      have HG5 := hG5.hid
      have HK5 := hk5.hid
      have HX5 : Hid (w5.heap[wb]? = some (.cells wordsV 9 (0, 0))) := hX5
      clear hG5 hX5 hk5 hr5 ho5 hm5 HG4 HK4 HX4 HR4 HD cA
      go_wp2_with fail
      exact ⟨⟨i + 1, lv', _, _, _, by omega, by go_num, HG5.out, HK5.out, HX5.out, HC5⟩, by simp only [intOf]; omega⟩
    · obtain rfl : i = 3 := by omega
      obtain ⟨al, cl, el, hal, _⟩ := hbag.long.form
      obtain ⟨g, eg⟩ := hal (by omega)
      subst eg
      subst el
      obtain ⟨ap, hp⟩ := hbag.own (by decide)
      have cO := bookOwn_any wr bk g 3 cl V n C (fun j q hj hq => (HC.out j hj).2 q hq) (by omega) (fun j hj => (HC.out j hj).1) ap hp hK
      have HG := hbag.hid
      clear hbag hK hX HC ap hp
      go_wp2_with fail
      refine cO.mono ?_
      rintro _ w2 ⟨rfl, hm⟩
      have hb2 : Below w1.heap.size w1 w2 := HG.out.B.trans (hm.below HG.out.B.size (fun b ⟨j, hj, hb⟩ => HG.out.new j hj b hb))
      have Hb2 : Hid (Below w.heap.size w w2) := below2 HB1.out hb2
      clear hb2 hm HG cO
      go_wp2_with fail
      refine (cWr _).mono ?_
      rintro _ w3 ⟨rfl, b3⟩
      have Hb3 : Hid (Below w.heap.size w w3) := below2 Hb2.out b3
      clear b3
      go_wp2_with fail
      refine (cNr _).mono ?_
      rintro _ w4 ⟨rfl, b4⟩
      have Hb4 : Hid (Below w.heap.size w w4) := below2 Hb3.out b4
      clear b4
      go_wp2_with fail
      go_ret
      exact ⟨rfl, Hb4.out⟩
end Go.Proofs.YtelanneckjgnbaaDoor
