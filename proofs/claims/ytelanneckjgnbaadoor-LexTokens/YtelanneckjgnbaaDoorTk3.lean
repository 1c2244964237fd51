/-
  The walk of LexTokens.
-/
import Derived.Test.YtelanneckjgnbaaDoorTb
import Derived.Test.YtelanneckjgnbaaDoorLxt
import Derived.Test.YtelanneckjgnbaaDoorJp
namespace Go.Proofs.YtelanneckjgnbaaDoor
open Go.RowKit

def txs (s o : ByteArray) (i : Nat) : ByteArray := if i = 1 then o else s
theorem tksL_len (s : ByteArray) : (tksL s).length ≤ 5000 := by
  by_cases h : tksE s = 0
  · have := tks_len h; omega
  · unfold tksL; rw [if_neg h]; simp
theorem below_D {w v : World} {n : Nat} (e : v = w.drewN n) : Below w.heap.size w v := by rw [e]; exact below_drew (Below.refl _ _) n
set_option maxRecDepth 100000 in
set_option maxHeartbeats 8000000 in
theorem tokens_law (s o : ByteArray) (w : World) (ht : Tab w) :
    Calls Tryd.prog 3 #[.string s, .string o] w fun e w' => e = .returned (.bool true) ∧ Below w.heap.size w w' := by
  have cW := works_any w ht
  by_cases h : s.size > 4194304
  · have h' : (s.size : Int) > 4194304 := by omega
    go_enter Tryd.func3, Tryd.ntmps3
    go_wp2_with fail
    refine cW.mono ?_
    rintro _ w1 ⟨rfl, b1⟩
    go_wp2_with fail
    go_ret
    exact ⟨rfl, b1⟩
  have h' : ¬ (s.size : Int) > 4194304 := by omega
  by_cases h2 : o.size > 4194304
  · have h2' : (o.size : Int) > 4194304 := by omega
    go_enter Tryd.func3, Tryd.ntmps3
    go_wp2_with fail
    refine cW.mono ?_
    rintro _ w1 ⟨rfl, b1⟩
    go_wp2_with fail
    go_ret
    exact ⟨rfl, b1⟩
  have h2' : ¬ (o.size : Int) > 4194304 := by omega
  go_enter Tryd.func3, Tryd.ntmps3
  go_wp2_with fail
  refine cW.mono ?_
  rintro _ w1 ⟨rfl, b1⟩
  have HT1 := (ht.on b1).hid
  obtain ⟨W, eW⟩ : ∃ W, (w1.alloc (.cells #[.slice none 0 0, .slice none 0 0, .slice none 0 0, .slice none 0 0, .slice none 0 0, .slice none 0 0, .slice none 0 0, .slice none 0 0, .slice none 0 0, .slice none 0 0, .slice none 0 0, .slice none 0 0] 37)).alloc (.cells #[.string s, .string o, .string s] 9) = W := ⟨_, rfl⟩
  have hK : TrH W w1.heap.size (.slice none 0 0) := by rw [← eW]; exact heap_fst w1 _ _
  have hX : W.heap[w1.heap.size + 1]? = some (.cells #[.string s, .string o, .string s] 9 (0, 0)) := by
    rw [← eW, ← size_alloc w1 (.cells #[.slice none 0 0, .slice none 0 0, .slice none 0 0, .slice none 0 0, .slice none 0 0, .slice none 0 0, .slice none 0 0, .slice none 0 0, .slice none 0 0, .slice none 0 0, .slice none 0 0, .slice none 0 0] 37)]
    exact heap_new _ _
  have hBW : Below w1.heap.size w1 W := by rw [← eW]; exact below_two _ _ _
  have HB1 : Hid (Below w.heap.size w w1) := b1
  clear b1 cW ht
  have BG0 : Bag 49 39 5 w1 W 0 (.slice none 0 0) (fun _ => .slice none 0 0) (fun _ => 0) (fun _ _ => .slice none 0 0) :=
    ⟨fun j hj => by omega, Row.nil _ _ _ _, fun j j' hj => by omega, fun j hj => by omega, fun b hb => by simp [Value.ownBlock] at hb, hBW⟩
  obtain ⟨bk, ebk⟩ : ∃ bk, w1.heap.size = bk := ⟨_, rfl⟩
  obtain ⟨tb, etb⟩ : ∃ tb, w1.heap.size + 1 = tb := ⟨_, rfl⟩
  rw [etb] at hX
  have hbt : tb ≠ bk := by omega
  rw [ebk] at hK etb
  have HBK : Hid (w1.heap.size = bk) := ebk
  have HK := hK.hid
  have HX : Hid (W.heap[tb]? = some (.cells #[.string s, .string o, .string s] 9 (0, 0))) := hX
  have HG0 := BG0.hid
  clear BG0 hK hX hBW
  go_wp2_with fail
  clear eW ebk etb
  go_loopw [8] (fun x wr => ∃ (i : Nat) (lv : Value) (V : Nat → Value) (n : Nat → Nat) (C : Nat → Nat → Value), i ≤ 3 ∧ x = .int .i64 i ∧ Bag 49 39 5 w1 wr i lv V n C ∧ TrH wr bk lv ∧ wr.heap[tb]? = some (.cells #[.string s, .string o, .string s] 9 (0, 0)) ∧ Hid (∀ j, j < i → n j ≤ 5000 ∧ ∀ k, k < n j → ∃ p, C j (k * 5 + 4) = .int .i64 p)) (fun x _ => 3 - (intOf x).toNat)
  case atStart => exact ⟨0, _, _, _, _, by omega, rfl, HG0.out, HK.out, HX.out, fun j hj => by omega⟩
  case round =>
    obtain ⟨i, lv, V, n, C, hi3, rfl, hbag, hK, hX, HC⟩ := hrel
    clear HG0 HK HX
    by_cases hi : i < 3
    · have hi' : (i : Int) < 3 := by omega
      obtain ⟨t, et⟩ : ∃ t, txs s o i = t := ⟨_, rfl⟩
      have hxi : wr.cell? ⟨tb, i, none⟩ = some (.string t) := by
        rw [cell_of hX i, ← et]
        unfold txs
        match i, hi with
        | 0, _ => rfl
        | 1, _ => rfl
        | 2, _ => rfl
      have cP := tokensp_any t wr (HT1.out.on hbag.B)
      have hts : t.size ≤ 4194304 := by rw [← et]; unfold txs; split <;> omega
      have cR := tokens_any t (by omega)
      have hLl := tksL_len t
      obtain ⟨L, eL⟩ : ∃ L, tksL t = L := ⟨_, rfl⟩
      obtain ⟨E, eE⟩ : ∃ E, tksE t = E := ⟨_, rfl⟩
      obtain ⟨B, eB⟩ : ∃ B, tksB t = B := ⟨_, rfl⟩
      rw [eL, eE, eB] at cP cR
      rw [eL] at hLl
      have htl : tb < wr.heap.size := (Array.getElem?_eq_some_iff.1 hX).1
      have HG := hbag.hid
      have HK := hK.hid
      have HX : Hid (wr.heap[tb]? = some (.cells #[.string s, .string o, .string s] 9 (0, 0))) := hX
      clear hbag hK hX et eL eE eB
      go_wp2_with fail
      refine cP.mono ?_
      rintro _ w2 ⟨v2, rfl, r2⟩
      have hb2 := r2.B
      have hxi2 : w2.cell? ⟨tb, i, none⟩ = some (.string t) := (World.cell?_of_block (hb2.block tb htl)).trans hxi
      obtain ⟨a2, c2, e2, _, _⟩ := r2.row.form
      subst e2
      have HR2 := r2.hid
      have Hb2 : Hid (Below wr.heap.size wr w2) := hb2
      clear r2 hb2 hxi
      go_wp2_with fail
      refine (cR _).mono ?_
      rintro _ w3 ⟨v3, rfl, r3⟩
      have HR2' := (HR2.out.call r3.B).hid
      have Hb3 : Hid (Below wr.heap.size wr w3) := below2 Hb2.out r3.B
      have cS := sameL_any HR2'.out.row r3.row (by omega)
      clear r3 HR2 Hb2
      go_wp2_with fail
      refine cS.mono ?_
      rintro _ w4 ⟨rfl, nq, e4⟩
      have b34 := below_D e4
      have hR4 := HR2'.out.call b34
      have hb4 := below2 Hb3.out b34
      have hG4 := HG.out.call hb4
      have hK4 : TrH w4 bk lv := (hb4.block bk HK.out.lt).trans HK.out
      have hX4 : w4.heap[tb]? = some (.cells #[.string s, .string o, .string s] 9 (0, 0)) := (hb4.block tb htl).trans HX.out
      have cA := treesAdd_any w4 bk i lv V a2 L.length c2 hK4 hG4.long (by omega)
      have hd : ∀ j, j < i → ∀ b, (V j).ownBlock = some b → (Value.slice a2 L.length c2).ownBlock ≠ some b := fun j hj b hb hb' => by
        have h1 := (HG.out.row j hj).lt b hb
        have h2 := hR4.nb b hb'
        omega
      have HG4 := hG4.hid
      have HK4 := hK4.hid
      have HX4 : Hid (w4.heap[tb]? = some (.cells #[.string s, .string o, .string s] 9 (0, 0))) := hX4
      have HR4 := hR4.hid
      have HD : Hid (∀ j, j < i → ∀ b, (V j).ownBlock = some b → (Value.slice a2 L.length c2).ownBlock ≠ some b) := hd
      have HWR : Hid (w1.heap.size ≤ wr.heap.size) := HG.out.B.size
      clear b34 hb4 hG4 hK4 hX4 hR4 hd e4 cS HG HK HX Hb3 HR2' htl hxi2 cR cP
      go_wp2_with fail
      refine cA.mono ?_
      rintro _ w5 ⟨⟨rr, rfl⟩, lv', hk5, hr5, ho5, hm5⟩
      have hG5 := HG4.out.add (by decide) HR4.out.row (fun b hb => Nat.le_trans HWR.out (HR4.out.nb b hb)) HD.out (Nat.le_of_eq HBK.out) (fun x m f hx => HK4.out.ne hx (by decide)) hr5 ho5 hm5
      have hX5 : w5.heap[tb]? = some (.cells #[.string s, .string o, .string s] 9 (0, 0)) := by
        refine (hm5.block tb (Array.getElem?_eq_some_iff.1 HX4.out).1 (fun hh => ?_)).trans HX4.out
        rcases hh with h1 | h1
        · exact hbt h1
        · obtain ⟨cc, fz, hk⟩ := HG4.out.long.kind tb h1
          rw [HX4.out] at hk
          simp at hk
      have HC5 : Hid (∀ j, j < i + 1 → (if j = i then L.length else n j) ≤ 5000 ∧ ∀ k, k < (if j = i then L.length else n j) → ∃ p, (if j = i then tkF (lsF L) else C j) (k * 5 + 4) = .int .i64 p) := fun j hj => by
        by_cases e1 : j = i
        · simp only [e1, if_true]
          exact ⟨hLl, fun k _ => ⟨_, (tkF_at (lsF L) k).2.2.2.2⟩⟩
        · simp only [e1, if_false]
          exact HC.out j (by omega)
      have HG5 := hG5.hid
      have HK5 := hk5.hid
      have HX5 : Hid (w5.heap[tb]? = some (.cells #[.string s, .string o, .string s] 9 (0, 0))) := hX5
      clear hG5 hX5 hk5 hr5 ho5 hm5 HG4 HK4 HX4 HR4 HD cA
      go_wp2_with fail
      exact ⟨⟨i + 1, lv', _, _, _, by omega, by go_num, HG5.out, HK5.out, HX5.out, HC5⟩, by simp only [intOf]; omega⟩
    · obtain rfl : i = 3 := by omega
      obtain ⟨al, cl, el, hal, _⟩ := hbag.long.form
      obtain ⟨g, eg⟩ := hal (by omega)
      subst eg
      subst el
      obtain ⟨ap, hp⟩ := hbag.own (by decide)
      have hbn : ¬ bks 3 V bk := by
        rintro ⟨j, hj, hb⟩
        exact hK.ne (hbag.row j hj) (by decide) hb
      have cO := treesOwn_any wr bk g 3 cl V n C (fun j k hj hk => (HC.out j hj).2 k hk) (by omega) (fun j hj => by have := (HC.out j hj).1; omega) ap hp hK hbn
      have cP := tokensp_any s
      have cR := tokens_any s (by omega)
      have hLl := tksL_len s
      obtain ⟨L, eL⟩ : ∃ L, tksL s = L := ⟨_, rfl⟩
      obtain ⟨E, eE⟩ : ∃ E, tksE s = E := ⟨_, rfl⟩
      obtain ⟨B, eB⟩ : ∃ B, tksB s = B := ⟨_, rfl⟩
      rw [eL, eE, eB] at cP cR
      rw [eL] at hLl
      have HG := hbag.hid
      clear hbag hK hX HC ap hp hbn eL eE eB
      go_wp2_with fail
      refine cO.mono ?_
      rintro _ w2 ⟨rfl, hm⟩
      have hb2 : Below w1.heap.size w1 w2 := HG.out.B.trans (hm.below HG.out.B.size (fun b ⟨j, hj, hb⟩ => HG.out.new j hj b hb))
      have Hb2 : Hid (Below w.heap.size w w2) := below2 HB1.out hb2
      have cP2 := cP _ (HT1.out.on hb2)
      clear hb2 hm HG cO cP
      go_wp2_with fail
      refine cP2.mono ?_
      rintro _ w3 ⟨v3, rfl, r3⟩
      have HR3 := r3.hid
      have Hb3 : Hid (Below w.heap.size w w3) := below2 Hb2.out r3.B
      clear r3 cP2
      go_wp2_with fail
      refine (cR _).mono ?_
      rintro _ w4 ⟨v4, rfl, r4⟩
      have cS := sameL_any (HR3.out.call r4.B).row r4.row (by omega)
      have Hb4 : Hid (Below w.heap.size w w4) := below2 Hb3.out r4.B
      clear r4 cR HR3
      go_wp2_with fail
      refine cS.mono ?_
      rintro _ w5 ⟨rfl, nq, e5⟩
      have Hb5 : Hid (Below w.heap.size w w5) := below2 Hb4.out (below_D e5)
      clear e5 cS
      go_wp2_with fail
      go_ret
      exact ⟨rfl, Hb5.out⟩
end Go.Proofs.YtelanneckjgnbaaDoor
