import Derived.Test.YteedmmljahgpjaaGreatDoorM39
import Derived.Test.YteedmmljahgpjaaGreatDoorM20
/-
  The document's number and signed: bytes behind bytes.
-/
namespace Go.Proofs.YteedmmljahgpjaaGreatDoor
open Go.RowKit
set_option linter.unusedVariables false
set_option linter.unusedSimpArgs false
def bh (s : ByteArray) (l : List UInt8) : ByteArray := W.bytes (s.data.toList ++ l)
theorem bh_nil (s : ByteArray) : bh s [] = s := by
  unfold bh W.bytes
  rw [List.append_nil]
theorem bh_bh (s : ByteArray) (l m : List UInt8) : bh (bh s l) m = bh s (l ++ m) := by
  unfold bh W.bytes
  simp [List.append_assoc]
theorem bh_size (s : ByteArray) (l : List UInt8) : (bh s l).size = s.size + l.length := by
  unfold bh
  rw [W.bytes_size, List.length_append, W.len_of]
theorem put1_le {n : Int} (h1 : n ≤ 18446744073709551615) : (W.put1 n.toNat).length ≤ 10 := W.put1_ten (by omega)
theorem bh_add (s : ByteArray) (l : List UInt8) : s ++ W.bytes l = bh s l := by
  unfold bh W.bytes
  apply str_eq
  simp
set_option maxRecDepth 100000 in
set_option maxHeartbeats 4000000 in
theorem rnumber_any' (s : ByteArray) (n : Int) (h0 : 0 ≤ n) (h1 : n ≤ 9223372036854775807) (hs : s.size ≤ 549755813888) (w : World) : Calls Tryz.prog 37 #[.string s, .int .i64 n] w fun e w' => e = .returned (.string (bh s (W.put1 n.toNat))) ∧ Below w.heap.size w w' := by
  have cO := W.rone_any n h0 (by omega) w
  have hm : n % 18446744073709551616 = n := by omega
  obtain ⟨Z, eZ⟩ : ∃ Z, W.bytes (W.put1 n.toNat) = Z := ⟨_, rfl⟩
  have HZ : Hid (s ++ Z = bh s (W.put1 n.toNat)) := by show _ = _; rw [← eZ]; exact bh_add s _
  rw [eZ] at cO
  have hZ : Z.size ≤ 10 := by rw [← eZ, W.bytes_size]; exact put1_le (by omega)
  clear eZ
  go_enter Tryz.func37, Tryz.ntmps37
  go_wp2_with fail
  refine cO.mono ?_
  rintro e w2 ⟨rfl, hb⟩
  have HB : Hid (Below w.heap.size w w2) := hb
  clear hb cO
  go_wp2_with fail
  go_ret
  exact ⟨by rw [← HZ.out]; rfl, HB.out⟩
set_option maxRecDepth 100000 in
set_option maxHeartbeats 4000000 in
theorem rsigned_any' (s : ByteArray) (l : List Int) (a : Option Addr) (c : Nat) (w : World) (hl : SlAt w 1 a c (l.map nvals)) (hi : ∀ n ∈ l, I64 n) (hn : l.length ≤ 1000000) (hs : s.size ≤ 500000000000) : Calls Tryz.prog 36 #[.string s, .slice a l.length c] w fun e w' => e = .returned (.string (bh s (W.put1 l.length ++ (l.map (fun n => W.put1 (W.zigN n).toNat)).flatten))) ∧ Below w.heap.size w w' := by
  have HL : Hid (SlAt w 1 a c (l.map nvals)) := hl
  have HI : Hid (∀ n ∈ l, I64 n) := hi
  have cN := rnumber_any' s l.length (by omega) (by omega) (by omega) w
  obtain ⟨P, eP⟩ : ∃ P, bh s (W.put1 l.length ++ (l.map (fun n => W.put1 (W.zigN n).toNat)).flatten) = P := ⟨_, rfl⟩
  obtain ⟨Q, eQ⟩ : ∃ Q, bh s (W.put1 (l.length : Int).toNat) = Q := ⟨_, rfl⟩
  have HP : Hid (bh Q ((l.drop 0).map (fun n => W.put1 (W.zigN n).toNat)).flatten = P) := by
    show _ = _
    rw [← eQ, bh_bh, ← eP, Int.toNat_natCast]
    rfl
  have hQ : Q.size ≤ s.size + 10 := by
    rw [← eQ, bh_size]
    have := put1_le (n := (l.length : Int)) (by omega)
    omega
  rw [eQ] at cN
  rw [eP]
  clear eP eQ hl hi
  go_enter Tryz.func36, Tryz.ntmps36
  go_wp2_with fail
  refine cN.mono ?_
  rintro e w2 ⟨rfl, hb2⟩
  have HB2 : Hid (Below w.heap.size w w2) := hb2
  clear cN hb2
  go_wp2_with fail
  go_loopw [0, 5] (fun v q wr => ∃ (b : ByteArray) (i : Nat), i ≤ l.length ∧ b.size ≤ s.size + 10 * (i + 1) ∧ v = .string b ∧ q = .int .i64 i ∧ Hid (Below w.heap.size w wr) ∧ Hid (bh b ((l.drop i).map (fun n => W.put1 (W.zigN n).toNat)).flatten = P)) (fun _ q _ => l.length - (intOf q).toNat)
  case atStart => exact ⟨Q, 0, by omega, by omega, rfl, rfl, HB2, HP⟩
  case round =>
    clear HB2 HP
    obtain ⟨b, i, hi, hbs, rfl, rfl, HBR, HPR⟩ := hrel
    by_cases hlt : i < l.length
    · have hlt' : (i : Int) < (l.length : Int) := by omega
      have hmx : (i : Int) + 1 ≤ 9223372036854775807 := by omega
      obtain ⟨bb, o, ea, r1⟩ := els_at nvals_sz HL.out i hlt
      have hx := HI.out l[i] (List.getElem_mem hlt)
      have hP := HPR.out
      rw [List.drop_eq_getElem_cons hlt, List.map_cons, List.flatten_cons, ← bh_bh] at hP
      obtain ⟨n, en⟩ : ∃ n, l[i] = n := ⟨_, rfl⟩
      rw [en] at r1 hx hP
      have x0 : wr.cell? ⟨bb, o + i, none⟩ = some (.int .i64 n) := cell_on (by have := r1 0 _ rfl; rw [Nat.mul_one, Nat.add_zero] at this; exact this) HBR.out
      have cZ := W.rzig_any n hx.1 hx.2 wr
      obtain ⟨zg, ez⟩ : ∃ z, W.zigN n = z := ⟨_, rfl⟩
      have hz0 : 0 ≤ zg ∧ zg ≤ 18446744073709551615 := by
        rw [← ez]
        unfold W.zigN
        obtain ⟨q1, q2⟩ := hx
        split <;> omega
      rw [ez] at cZ hP
      have cO := W.rone_any zg hz0.1 hz0.2 wr
      obtain ⟨Z, eZ⟩ : ∃ Z, W.bytes (W.put1 zg.toNat) = Z := ⟨_, rfl⟩
      have HZ : Hid (b ++ Z = bh b (W.put1 zg.toNat)) := by show _ = _; rw [← eZ]; exact bh_add b _
      rw [eZ] at cO
      have hZ : Z.size ≤ 10 := by rw [← eZ, W.bytes_size]; exact put1_le hz0.2
      have hsb : b.size ≤ 549755813888 := by omega
      have HSZ : Hid ((bh b (W.put1 zg.toNat)).size ≤ s.size + 10 * (i + 1 + 1)) := by
        show _ ≤ _
        rw [bh_size]
        have := put1_le hz0.2
        omega
      have HPP := hid_of hP
      rw [ea]
      clear en ea r1 hP eZ ez hz0 hx HPR
      go_wp2_with fail
      refine cZ.mono ?_
      rintro e w3 ⟨rfl, rfl⟩
      go_wp2_with fail
      refine cO.mono ?_
      rintro e w4 ⟨rfl, hb4⟩
      have HB4 : Hid (Below w.heap.size w w4) := below2 HBR.out hb4
      clear cO cZ hb4
      go_wp2_with fail
      exact ⟨⟨bh b (W.put1 zg.toNat), i + 1, hlt, HSZ.out, by rw [← HZ.out], rfl, HB4, HPP⟩, by simp only [intOf]; omega⟩
    · obtain rfl : i = l.length := by omega
      have hnot : ¬ (l.length : Int) < (l.length : Int) := by omega
      have HN : Hid (b = P) := by show _ = _; rw [← HPR.out, List.drop_length]; exact (bh_nil b).symm
      go_wp2_with fail
      go_ret
      exact ⟨by rw [← HN.out]; rfl, HBR.out⟩
end Go.Proofs.YteedmmljahgpjaaGreatDoor

/-
  The document's state: a state's guards behind bytes.
-/
namespace Go.Proofs.YteedmmljahgpjaaGreatDoor
open Go.RowKit
set_option linter.unusedVariables false
set_option linter.unusedSimpArgs false
def pL (l : List Int) : List UInt8 := (l.map (fun n => W.put1 n.toNat)).flatten
theorem pL_c (b : ByteArray) (n : Int) (l : List Int) : bh (bh b (W.put1 n.toNat)) (pL l) = bh b (pL (n :: l)) := by rw [bh_bh]; rfl
theorem pL_nil (b : ByteArray) : bh b (pL []) = b := bh_nil b
structure NumO (b b' : ByteArray) (n : Int) : Prop where
  e : b' = bh b (W.put1 n.toNat)
  s : b'.size ≤ b.size + 10
theorem num_any (b : ByteArray) (n : Int) (h0 : 0 ≤ n) (h1 : n ≤ 9223372036854775807) (hs : b.size ≤ 549755813888) (w : World) : Calls Tryz.prog 37 #[.string b, .int .i64 n] w fun e w' => ∃ b', e = .returned (.string b') ∧ NumO b b' n ∧ Below w.heap.size w w' := by
  refine (rnumber_any' b n h0 h1 hs w).mono ?_
  rintro e w' ⟨rfl, hb⟩
  refine ⟨_, rfl, ⟨rfl, ?_⟩, hb⟩
  rw [bh_size]
  have := put1_le (n := n) (by omega)
  omega
theorem row_sp {r : RowM} (h : RowZ r) : ∀ j, j < 4 → SpZ ((spL r).getD j ⟨0, 0⟩)
  | 0, _ => h.a
  | 1, _ => h.b
  | 2, _ => h.c
  | 3, _ => h.d
theorem row_i {t : TbM} {r : RowM} (hb : rowB t.sl t.rs.length t.ts.length r = true) : 0 ≤ r.i := by
  unfold rowB at hb
  simp only [Bool.and_eq_true] at hb
  have h2 := hb.1.2
  unfold idxN withinB at h2
  repeat' split at h2
  all_goals (simp at h2; omega)
set_option maxRecDepth 100000 in
set_option maxHeartbeats 4000000 in
theorem rstate_any' (t : TbM) (x : StM) (s : ByteArray) (w : World) (hl : StL w x) (h12 : x.gs.length ≤ 12) (hB : ∀ g ∈ x.gs, GdB g) (hW : ∀ g ∈ x.gs, GdW t g) (hR : ∀ g ∈ x.gs, ∀ r ∈ g.rs, rowB t.sl t.rs.length t.ts.length r = true) (hm : t.ds.length ≤ 4096) (hs : s.size ≤ 400000000000) :
    Calls Tryz.prog 38 #[.string s, .slice x.a x.gs.length x.c] w fun e w' => e = .returned (.string (bh s (pL (stZ x)))) ∧ Below w.heap.size w w' := by
  have HL : Hid (StL w x) := hl
  have HGB : Hid (∀ g ∈ x.gs, GdB g) := hB
  have HGW : Hid (∀ g ∈ x.gs, GdW t g) := hW
  have HGR : Hid (∀ g ∈ x.gs, ∀ r ∈ g.rs, rowB t.sl t.rs.length t.ts.length r = true) := hR
  have HMM : Hid (t.ds.length ≤ 4096) := hm
  obtain ⟨P, eP⟩ : ∃ P, bh s (pL (stZ x)) = P := ⟨_, rfl⟩
  have HP0 : Hid (∀ b', NumO s b' x.gs.length → bh b' (pL ((x.gs.drop 0).map gdZ).flatten) = P) := fun b' h => by
    rw [h.e, pL_c, ← eP]; rfl
  rw [eP]
  have cN := num_any s x.gs.length (by omega) (by omega) (by omega) w
  clear eP hl hB hW hR hm
  go_enter Tryz.func38, Tryz.ntmps38
  go_wp2_with fail
  refine cN.mono ?_
  rintro e w2 ⟨b0, rfl, hb0, hb2⟩
  have HB2 : Hid (Below w.heap.size w w2) := hb2
  have HP1 : Hid (bh b0 (pL ((x.gs.drop 0).map gdZ).flatten) = P) := HP0.out b0 hb0
  have hz0 : b0.size ≤ s.size + 10 := hb0.s
  clear cN hb2 hb0 HP0
  go_wp2_with fail
  go_loopw [0, 5] (fun v q wr => ∃ (b : ByteArray) (i : Nat), i ≤ x.gs.length ∧ b.size ≤ s.size + 10 + 1000 * i ∧ v = .string b ∧ q = .int .i64 i ∧ Hid (Below w.heap.size w wr) ∧ Hid (bh b (pL ((x.gs.drop i).map gdZ).flatten) = P)) (fun _ q _ => x.gs.length - (intOf q).toNat)
  case atStart => exact ⟨b0, 0, by omega, by omega, rfl, rfl, HB2, HP1⟩
  case round =>
    clear HB2 HP1
    obtain ⟨b, i, hi, hbs, rfl, rfl, HBR, HPR⟩ := hrel
    by_cases hlt : i < x.gs.length
    · have hlt' : (i : Int) < (x.gs.length : Int) := by omega
      have hmx : (i : Int) + 1 ≤ 9223372036854775807 := by omega
      obtain ⟨b3, o3, ea, r3⟩ := els_at GdM.sz HL.out.1 i hlt
      have HGG : Hid (GdL w x.gs[i]) := HL.out.2 _ (List.getElem_mem hlt)
      have HGD : Hid (GdW t x.gs[i]) := HGW.out _ (List.getElem_mem hlt)
      have HBD : Hid (GdB x.gs[i]) := HGB.out _ (List.getElem_mem hlt)
      have HRD : Hid (∀ r ∈ x.gs[i].rs, rowB t.sl t.rs.length t.ts.length r = true) := HGR.out _ (List.getElem_mem hlt)
      have hP := HPR.out
      rw [List.drop_eq_getElem_cons hlt, List.map_cons, List.flatten_cons] at hP
      obtain ⟨R1, eR1⟩ : ∃ R, ((x.gs.drop (i + 1)).map gdZ).flatten = R := ⟨_, rfl⟩
      have HR1 : Hid (((x.gs.drop (i + 1)).map gdZ).flatten = R1) := eR1
      rw [eR1] at hP
      obtain ⟨g, eg⟩ : ∃ g, x.gs[i] = g := ⟨_, rfl⟩
      rw [eg] at r3 HGG HGD HBD HRD hP
      have HPG : Hid (bh b (pL (g.wh.len :: (g.rs.length : Int) :: ((g.rs.drop 0).map rowZ).flatten ++ R1)) = P) := hP
      have hSW : SpW t g.wh := HGD.out g.wh (by unfold gSp; exact List.mem_cons_self ..)
      obtain ⟨w0, w1, w2'⟩ := hSW
      have hd4 := HMM.out
      have h8 : g.rs.length ≤ 8 := HBD.out.2.1
      have hw1 : g.wh.t - g.wh.f ≤ 9223372036854775807 := by omega
      have hw2 : -9223372036854775808 ≤ g.wh.t - g.wh.f := by omega
      have hLN : g.wh.t - g.wh.f = g.wh.len := rfl
      have cN := fun v => num_any b g.wh.len (by unfold Sp.len; omega) (by unfold Sp.len; omega) (by omega) v
      have HCN := hid_of cN
      have HRG : Hid (wr.rangeAt b3 (o3 + i * 5) g.vals.toList) := rng_on r3 HBR.out
      have HZ : Hid ((wr.alloc (.cells #[.int .i64 0, .int .i64 0, .int .u16 0, .int .u16 0, .slice none 0 0] 68)).heap[wr.heap.size]? = some (.cells #[.int .i64 0, .int .i64 0, .int .u16 0, .int .u16 0, .slice none 0 0] 68 (0, 0))) := heap_new _ _
      have HBX : Hid (Below w.heap.size w ((wr.alloc (.cells #[.int .i64 0, .int .i64 0, .int .u16 0, .int .u16 0, .slice none 0 0] 68)).setRow wr.heap.size g.vals)) := below2 HBR.out (below_row (below_new _ _) (Nat.le_refl _) _)
      have HNG : Hid (((wr.alloc (.cells #[.int .i64 0, .int .i64 0, .int .u16 0, .int .u16 0, .slice none 0 0] 68)).setRow wr.heap.size g.vals).heap[wr.heap.size]? = some (.cells g.vals 68 (0, 0))) := setRow_heap _ _ _ _ _ _ HZ.out
      rw [ea]
      clear r3 eg eR1 hP HPR ea w0 w1 w2' hd4 cN
      go_upto_region 6 with (first | (refine wpList_load_mid rfl 68 (.tmp 24) rfl b3 (o3 + i * 5) rfl g.vals.toList _ HRG.out Tryz.underlying68 rfl (by show _ = some 5; exact size68') ?_; rw [Array.toArray_toList]) | (refine wpList_store_row rfl 68 (.tmp 6) (.tmp 25) rfl wr.heap.size g.vals rfl rfl 68 #[.int .i64 0, .int .i64 0, .int .u16 0, .int .u16 0, .slice none 0 0] HZ.out size68' rfl (allGd g) ?_))
      clear HZ HRG
      generalize World.setRow _ _ _ = V at HNG HBX ⊢
      generalize wr.heap.size = G at HNG ⊢
      have g0 : V.cell? ⟨G, 0, none⟩ = some (.int .i64 g.wh.f) := cell_of HNG.out 0
      have g1 : V.cell? ⟨G, 1, none⟩ = some (.int .i64 g.wh.t) := cell_of HNG.out 1
      go_wp2_with fail
      refine (HCN.out _).mono ?_
      rintro e w3 ⟨b1, rfl, hn1, hb3⟩
      have HB3 : Hid (Below V.heap.size V w3) := hb3
      have hz1 : b1.size ≤ b.size + 10 := hn1.s
      have HP2 : Hid (bh b1 (pL ((g.rs.length : Int) :: (((g.rs.drop 0).map rowZ).flatten ++ R1))) = P) := by show _ = _; rw [hn1.e, pL_c]; exact HPG.out
      have cM := num_any b1 g.rs.length (by omega) (by omega) (by omega) w3
      have g4 : w3.cell? ⟨G, 4, none⟩ = some (.slice g.a g.rs.length g.c) := cell_on (cell_of HNG.out 4) HB3.out
      clear g0 g1 hw1 hw2 hLN hn1 hb3 HCN HPG
      go_wp2_with fail
      refine cM.mono ?_
      rintro e w4 ⟨b2, rfl, hn2, hb4⟩
      have HB4 : Hid (Below V.heap.size V w4) := below2 HB3.out hb4
      have hz2 : b2.size ≤ b.size + 20 := by have := hn2.s; omega
      have HP3 : Hid (bh b2 (pL (((g.rs.drop 0).map rowZ).flatten ++ R1)) = P) := by show _ = _; rw [hn2.e, pL_c]; exact HP2.out
      clear cM hn2 hb4 g4 HB3 HP2
      go_wp2_with fail
      go_loopw [0, 7] (fun v q wv => ∃ (c : ByteArray) (k : Nat), k ≤ g.rs.length ∧ c.size ≤ b.size + 20 + 100 * k ∧ v = .string c ∧ q = .int .i64 k ∧ Hid (Below V.heap.size V wv) ∧ Hid (bh c (pL (((g.rs.drop k).map rowZ).flatten ++ R1)) = P)) (fun _ q _ => g.rs.length - (intOf q).toNat)
      case atStart => exact ⟨b2, 0, by omega, by omega, rfl, rfl, HB4, HP3⟩
      case round =>
        clear HB4 HP3
        obtain ⟨c, k, hk, hcs, rfl, rfl, HBK, HKR⟩ := hrel
        have g4 : wr.cell? ⟨G, 4, none⟩ = some (.slice g.a g.rs.length g.c) := cell_on (cell_of HNG.out 4) HBK.out
        by_cases hkl : k < g.rs.length
        · have hkl' : (k : Int) < (g.rs.length : Int) := by omega
          have hmz : (k : Int) + 1 ≤ 9223372036854775807 := by omega
          obtain ⟨b5, o5, ea, r5⟩ := els_at RowM.sz HGG.out.2.2.2.1 k hkl
          have hRB := HRD.out _ (List.getElem_mem hkl)
          have hRZ : RowZ g.rs[k] := row_z hRB HMM.out (fun y hy => HGD.out y (by unfold gSp; exact List.mem_cons_of_mem _ (List.mem_flatten.2 ⟨_, List.mem_map.2 ⟨_, List.getElem_mem hkl, rfl⟩, hy⟩)))
          have hRI := HGG.out.2.2.2.2 _ (List.getElem_mem hkl)
          have hri := row_i hRB
          have hP := HKR.out
          rw [List.drop_eq_getElem_cons hkl, List.map_cons, List.flatten_cons] at hP
          obtain ⟨R2, eR2⟩ : ∃ R, ((g.rs.drop (k + 1)).map rowZ).flatten ++ R1 = R := ⟨_, rfl⟩
          have HR2 : Hid (((g.rs.drop (k + 1)).map rowZ).flatten ++ R1 = R2) := eR2
          rw [List.append_assoc, eR2] at hP
          obtain ⟨r, er⟩ : ∃ r, g.rs[k] = r := ⟨_, rfl⟩
          rw [er] at r5 hRZ hRI hri hP
          have HPQ : Hid (bh c (pL (r.k :: r.o :: r.i :: ((hasR r 0).map Sp.len ++ R2))) = P) := by show _ = _; rw [hasR_0]; exact hP
          have HRZ := hid_of hRZ
          obtain ⟨⟨k0, k1⟩, ⟨q0, q1⟩, ⟨i0, i1⟩, _⟩ := hRI
          have HRG : Hid (wr.rangeAt b5 (o5 + k * 11) r.vals.toList) := rng_on r5 (below2 HBX.out HBK.out)
          have HZ : Hid ((wr.alloc (.cells #[.int .u8 0, .int .u8 0, .int .i64 0, .int .i64 0, .int .i64 0, .int .i64 0, .int .i64 0, .int .i64 0, .int .i64 0, .int .i64 0, .int .i64 0] 85)).heap[wr.heap.size]? = some (.cells #[.int .u8 0, .int .u8 0, .int .i64 0, .int .i64 0, .int .i64 0, .int .i64 0, .int .i64 0, .int .i64 0, .int .i64 0, .int .i64 0, .int .i64 0] 85 (0, 0))) := heap_new _ _
          have HBY : Hid (Below V.heap.size V ((wr.alloc (.cells #[.int .u8 0, .int .u8 0, .int .i64 0, .int .i64 0, .int .i64 0, .int .i64 0, .int .i64 0, .int .i64 0, .int .i64 0, .int .i64 0, .int .i64 0] 85)).setRow wr.heap.size r.vals)) := below2 HBK.out (below_row (below_new _ _) (Nat.le_refl _) _)
          have HNR : Hid (((wr.alloc (.cells #[.int .u8 0, .int .u8 0, .int .i64 0, .int .i64 0, .int .i64 0, .int .i64 0, .int .i64 0, .int .i64 0, .int .i64 0, .int .i64 0, .int .i64 0] 85)).setRow wr.heap.size r.vals).heap[wr.heap.size]? = some (.cells r.vals 85 (0, 0))) := setRow_heap _ _ _ _ _ _ HZ.out
          rw [ea] at g4
          have HCK := hid_of (fun v => num_any c r.k k0 (by omega) (by omega) v)
          clear r5 er eR2 hP HKR ea hRB hRZ
          go_upto_region 12 with (first | (refine wpList_load_mid rfl 85 (.tmp 50) rfl b5 (o5 + k * 11) rfl r.vals.toList _ HRG.out Tryz.underlying85 rfl (by show _ = some 11; exact size85') ?_; rw [Array.toArray_toList]) | (refine wpList_store_row rfl 85 (.tmp 8) (.tmp 51) rfl wr.heap.size r.vals rfl rfl 85 #[.int .u8 0, .int .u8 0, .int .i64 0, .int .i64 0, .int .i64 0, .int .i64 0, .int .i64 0, .int .i64 0, .int .i64 0, .int .i64 0, .int .i64 0] HZ.out size85' rfl (allRow r) ?_))
          clear g4 HZ HRG
          generalize World.setRow _ _ _ = U at HNR HBY ⊢
          generalize wr.heap.size = R at HNR ⊢
          have m0 : U.cell? ⟨R, 0, none⟩ = some (.int .u8 r.k) := cell_of HNR.out 0
          go_wp2_with fail
          refine (HCK.out _).mono ?_
          rintro e u1 ⟨c1, rfl, hn1, hb1⟩
          have HU1 : Hid (Below U.heap.size U u1) := hb1
          have hc1 : c1.size ≤ c.size + 10 := hn1.s
          have HQ1 : Hid (bh c1 (pL (r.o :: r.i :: ((hasR r 0).map Sp.len ++ R2))) = P) := by show _ = _; rw [hn1.e, pL_c]; exact HPQ.out
          have m1 : u1.cell? ⟨R, 1, none⟩ = some (.int .u8 r.o) := cell_on (cell_of HNR.out 1) hb1
          have cO := num_any c1 r.o q0 (by omega) (by omega) u1
          clear m0 hn1 hb1 HCK HPQ
          go_wp2_with fail
          refine cO.mono ?_
          rintro e u2 ⟨c2, rfl, hn2, hb2⟩
          have HU2 : Hid (Below U.heap.size U u2) := below2 HU1.out hb2
          have hc2 : c2.size ≤ c.size + 20 := by have := hn2.s; omega
          have HQ2 : Hid (bh c2 (pL (r.i :: ((hasR r 0).map Sp.len ++ R2))) = P) := by show _ = _; rw [hn2.e, pL_c]; exact HQ1.out
          have m2 : u2.cell? ⟨R, 2, none⟩ = some (.int .i64 r.i) := cell_on (cell_of HNR.out 2) HU2.out
          have cI := num_any c2 r.i hri i1 (by omega) u2
          clear m1 hn2 hb2 cO HU1 HQ1
          go_wp2_with fail
          refine cI.mono ?_
          rintro e u3 ⟨c3, rfl, hn3, hb3⟩
          have HU3 : Hid (Below U.heap.size U u3) := below2 HU2.out hb3
          have hc3 : c3.size ≤ c.size + 30 := by have := hn3.s; omega
          have HQ3 : Hid (bh c3 (pL ((hasR r 0).map Sp.len ++ R2)) = P) := by show _ = _; rw [hn3.e, pL_c]; exact HQ2.out
          have HNR3 : Hid (u3.heap[R]? = some (.cells r.vals 85 (0, 0))) := (HU3.out.block _ (hp_lt HNR.out)).trans HNR.out
          have cH := rhas_any r u3
          clear m2 hn3 hb3 cI HU2 HQ2 k0 k1 q0 q1 i0 i1 hri
          go_wp2_with (refine wpList_load_row rfl 85 (.tmp 8) rfl R rfl 85 r.vals (0, 0) _ HNR3.out Tryz.underlying85 rfl size85' ?_)
          refine cH.mono ?_
          rintro e u4 ⟨HC, rfl, hh, hge, hb4⟩
          have hn5 : u4.heap[R]? = some (.cells r.vals 85 (0, 0)) := (hb4.block _ (hp_lt HNR3.out)).trans HNR3.out
          have s3 : u4.cell? ⟨R, 3, none⟩ = some (.int .i64 r.sd.f) := cell_of hn5 3
          have s4 : u4.cell? ⟨R, 4, none⟩ = some (.int .i64 r.sd.t) := cell_of hn5 4
          have s5 : u4.cell? ⟨R, 5, none⟩ = some (.int .i64 r.qt.f) := cell_of hn5 5
          have s6 : u4.cell? ⟨R, 6, none⟩ = some (.int .i64 r.qt.t) := cell_of hn5 6
          have s7 : u4.cell? ⟨R, 7, none⟩ = some (.int .i64 r.pr.f) := cell_of hn5 7
          have s8 : u4.cell? ⟨R, 8, none⟩ = some (.int .i64 r.pr.t) := cell_of hn5 8
          have s9 : u4.cell? ⟨R, 9, none⟩ = some (.int .i64 r.vl.f) := cell_of hn5 9
          have s10 : u4.cell? ⟨R, 10, none⟩ = some (.int .i64 r.vl.t) := cell_of hn5 10
          have HH : Hid (u4.heap[HC]? = some (.cells (partsN r.k r.o).vals 4 (0, 0))) := hh
          have HB5 : Hid (Below U.heap.size U u4) := below2 HU3.out hb4
          have HSV : Hid ((u4.alloc (.cells (spV r) 65)).heap[u4.heap.size]? = some (.cells (spV r) 65 (0, 0))) := heap_new _ _
          have HS6 : Hid (Below u4.heap.size u4 (u4.alloc (.cells (spV r) 65))) := below_new _ _
          clear cH hh hge hb4 hn5 HU3 HNR3
          go_upto_region 17 with fail
          clear s3 s4 s5 s6 s7 s8 s9 s10
          rw [show (u4.alloc (.cells #[.int .i64 r.sd.f, .int .i64 r.sd.t, .int .i64 r.qt.f, .int .i64 r.qt.t, .int .i64 r.pr.f, .int .i64 r.pr.t, .int .i64 r.vl.f, .int .i64 r.vl.t] 65)) = u4.alloc (.cells (spV r) 65) from rfl]
          generalize u4.alloc (.cells (spV r) 65) = W6 at HSV HS6 ⊢
          generalize u4.heap.size = SB at HSV ⊢
          have HH6 : Hid (W6.heap[HC]? = some (.cells (partsN r.k r.o).vals 4 (0, 0))) := (HS6.out.block _ (hp_lt HH.out)).trans HH.out
          have HB6 : Hid (Below V.heap.size V W6) := below2 HBY.out (below2 HB5.out HS6.out)
          clear HH HB5 HS6
          go_wp2_with fail
          go_loopw [0, 11] (fun v q wv => ∃ (d : ByteArray) (j : Nat), j ≤ 4 ∧ d.size ≤ c.size + 30 + 10 * j ∧ v = .string d ∧ q = .int .i64 j ∧ Hid (Below W6.heap.size W6 wv) ∧ Hid (bh d (pL ((hasR r j).map Sp.len ++ R2)) = P)) (fun _ q _ => 4 - (intOf q).toNat)
          case atStart => exact ⟨c3, 0, by omega, by omega, rfl, rfl, Below.refl _ _, HQ3⟩
          case round =>
            clear HQ3
            obtain ⟨d, j, hj, hds, rfl, rfl, HBJ, HJR⟩ := hrel
            by_cases hjl : j < 4
            · have hjl' : (j : Int) < 4 := by omega
              have hmj : (j : Int) + 1 ≤ 9223372036854775807 := by omega
              have cP := cell_on (par_cell HH6.out j hjl) HBJ.out
              obtain ⟨p1, p2⟩ := spn_cell HSV.out j hjl
              have hP := HJR.out
              rw [hasR_s r j hjl] at hP
              have hSZ : SpZ ((spL r).getD j ⟨0, 0⟩) := row_sp HRZ.out j hjl
              obtain ⟨y, ey⟩ : ∃ y, (spL r).getD j ⟨0, 0⟩ = y := ⟨_, rfl⟩
              rw [ey] at p1 p2 hP hSZ
              obtain ⟨bp, ebp⟩ : ∃ q, (prts (partsN r.k r.o)).getD j false = q := ⟨_, rfl⟩
              rw [ebp] at cP hP
              clear ey ebp
              cases bp with
              | false =>
                have HN : Hid (bh d (pL ((hasR r (j + 1)).map Sp.len ++ R2)) = P) := by show _ = _; simpa using hP
                clear hP p1 p2 hSZ
                go_wp2_with fail
                exact ⟨⟨d, j + 1, hjl, by omega, rfl, rfl, HBJ, HN⟩, by simp only [intOf]; omega⟩
              | true =>
                have HN : Hid (bh d (pL (y.len :: ((hasR r (j + 1)).map Sp.len ++ R2))) = P) := by show _ = _; simpa using hP
                obtain ⟨z0, z1, z2⟩ := hSZ
                have y0 : y.t - y.f ≤ 9223372036854775807 := by omega
                have y1 : -9223372036854775808 ≤ y.t - y.f := by omega
                have hwr : IntKind.i64.wrap (y.t - y.f) = y.t - y.f := by rw [IntKind.wrap_i64]; omega
                have HFA : Hid (∀ v : World, Below wr.heap.size wr v → v.cell? ⟨SB, j * 2, none⟩ = some (.int .i64 y.f) ∧ v.cell? ⟨SB, j * 2 + 1, none⟩ = some (.int .i64 y.t)) := fun v hv => ⟨cell_on p1 (below2 HBJ.out hv), cell_on p2 (below2 HBJ.out hv)⟩
                have cS := num_any d (y.t - y.f) (by omega) (by omega) (by omega) wr.drew
                clear hP p1 p2 z0 z1 z2
                go_upto_region 21 with fail
                clear cP
                refine wp_region_held_drew (S := fun v => Below wr.heap.size wr v) (by kernel_rfl) ⟨rfl, rfl, rfl, Nat.le_refl _, fun _ _ => rfl⟩ (fun hHeld => ?_)
                refine wpAnyH_take (i := 0) (v := ?_) rfl (by kernel_rfl) (by kernel_rfl) (by kernel_rfl) (fun _ _ _ h => h) (Or.inl ⟨by rfl, ?_⟩) (by assumption) ?_
                rotate_left
                · (intro v hv; go_simp; try (with_reducible rfl))
                try simp [Act.put]
                refine wpAnyH_take (i := 1) (v := ?_) rfl (by kernel_rfl) (by kernel_rfl) (by kernel_rfl) (fun _ _ _ h => h) (Or.inl ⟨by rfl, ?_⟩) (by assumption) ?_
                rotate_left
                · (intro v hv; go_simp; try (with_reducible rfl))
                try simp [Act.put]
                refine wpAnyH_take (i := 2) (v := ?_) rfl (by kernel_rfl) (by kernel_rfl) (by kernel_rfl) (fun _ _ _ h => h) (Or.inl ⟨by rfl, ?_⟩) (by assumption) ?_
                rotate_left
                · (intro v hv; go_simp; try (with_reducible rfl))
                try simp [Act.put]
                refine wpAnyH_take (i := 3) (v := ?_) rfl (by kernel_rfl) (by kernel_rfl) (by kernel_rfl) (fun _ _ _ h => h) (Or.inl ⟨by rfl, ?_⟩) (by assumption) ?_
                rotate_left
                · (intro v hv; go_simp; try (with_reducible rfl))
                try simp [Act.put]
                refine wpAnyH_take (i := 4) (v := ?_) rfl (by kernel_rfl) (by kernel_rfl) (by kernel_rfl) (fun _ _ _ h => h) (Or.inl ⟨by rfl, ?_⟩) (by assumption) ?_
                rotate_left
                · (intro v hv; go_simp; try (with_reducible rfl))
                try simp [Act.put]
                refine wpAnyH_take (i := 5) (v := ?_) rfl (by kernel_rfl) (by kernel_rfl) (by kernel_rfl) (fun _ _ _ h => h) (Or.inl ⟨by rfl, ?_⟩) (by assumption) ?_
                rotate_left
                · (intro v hv; obtain ⟨fF, fT⟩ := HFA.out v hv; go_simp; try (with_reducible rfl))
                try simp [Act.put]
                refine wpAnyH_take (i := 6) (v := ?_) rfl (by kernel_rfl) (by kernel_rfl) (by kernel_rfl) (fun _ _ _ h => h) (Or.inl ⟨by rfl, ?_⟩) (by assumption) ?_
                rotate_left
                · (intro v hv; go_simp; try (with_reducible rfl))
                try simp [Act.put]
                refine wpAnyH_take (i := 7) (v := ?_) rfl (by kernel_rfl) (by kernel_rfl) (by kernel_rfl) (fun _ _ _ h => h) (Or.inl ⟨by rfl, ?_⟩) (by assumption) ?_
                rotate_left
                · (intro v hv; go_simp; try (with_reducible rfl))
                try simp [Act.put]
                refine wpAnyH_take (i := 8) (v := ?_) rfl (by kernel_rfl) (by kernel_rfl) (by kernel_rfl) (fun _ _ _ h => h) (Or.inl ⟨by rfl, ?_⟩) (by assumption) ?_
                rotate_left
                · (intro v hv; go_simp; try (with_reducible rfl))
                try simp [Act.put]
                refine wpAnyH_take (i := 9) (v := ?_) rfl (by kernel_rfl) (by kernel_rfl) (by kernel_rfl) (fun _ _ _ h => h) (Or.inl ⟨by rfl, ?_⟩) (by assumption) ?_
                rotate_left
                · (intro v hv; go_simp; try (with_reducible rfl))
                try simp [Act.put]
                refine wpAnyH_take (i := 10) (v := ?_) rfl (by kernel_rfl) (by kernel_rfl) (by kernel_rfl) (fun _ _ _ h => h) (Or.inl ⟨by rfl, ?_⟩) (by assumption) ?_
                rotate_left
                · (intro v hv; obtain ⟨fF, fT⟩ := HFA.out v hv; go_simp; try (with_reducible rfl))
                try simp [Act.put]
                refine wpAnyH_take (i := 11) (v := ?_) rfl (by kernel_rfl) (by kernel_rfl) (by kernel_rfl) (fun _ _ _ h => h) (Or.inl ⟨by rfl, ?_⟩) (by assumption) ?_
                rotate_left
                · (intro v hv; go_simp; try (with_reducible rfl))
                try simp [Act.put]
                refine wpAnyH_ready (rs := [12]) (by kernel_rfl) (by simp) ?_
                refine AllReadyH.cons rfl (fun K hK => ?_) AllReadyH.nil
                go_simp
                refine cS.mono ?_
                rintro e w7 ⟨d', rfl, hn7, hb7⟩
                have hB7 : Below wr.heap.size wr w7 := ⟨hb7.os, hb7.tape, hb7.output, hb7.size, hb7.block⟩
                have HB7 : Hid (Below W6.heap.size W6 w7) := below2 HBJ.out hB7
                have hd7 : d'.size ≤ d.size + 10 := hn7.s
                have HN7 : Hid (bh d' (pL ((hasR r (j + 1)).map Sp.len ++ R2)) = P) := by show _ = _; rw [hn7.e, pL_c]; exact HN.out
                refine hK.out _ _ hB7 (fun hHeld => ?_)
                clear hK K cS hb7 hB7 hn7
                try simp [Act.put]
                refine wpAnyH_take (i := 13) (v := ?_) rfl (by kernel_rfl) (by kernel_rfl) (by kernel_rfl) (fun _ _ _ h => h) (Or.inl ⟨by rfl, ?_⟩) (by assumption) ?_
                rotate_left
                · (intro v hv; go_simp; try (with_reducible rfl))
                try simp [Act.put]
                refine wpAnyH_done (by kernel_rfl) ?_ _
                go_wp2_with fail
                exact ⟨⟨d', j + 1, hjl, by omega, rfl, rfl, HB7, HN7⟩, by simp only [intOf]; omega⟩
            · obtain rfl : j = 4 := by omega
              have HN : Hid (bh d (pL (((g.rs.drop (k + 1)).map rowZ).flatten ++ R1)) = P) := by
                show _ = _
                rw [HR2.out, ← HJR.out, hasR_4]
                rfl
              go_wp2_with fail
              exact ⟨⟨d, k + 1, hkl, by omega, rfl, rfl, below2 HB6.out HBJ.out, HN⟩, by simp only [intOf]; omega⟩
        · obtain rfl : k = g.rs.length := by omega
          have hnot : ¬ (g.rs.length : Int) < (g.rs.length : Int) := by omega
          have HN : Hid (bh c (pL ((x.gs.drop (i + 1)).map gdZ).flatten) = P) := by
            show _ = _
            rw [HR1.out, ← HKR.out, List.drop_length]
            rfl
          go_wp2_with fail
          exact ⟨⟨c, i + 1, hlt, by omega, rfl, rfl, below2 HBX.out HBK.out, HN⟩, by simp only [intOf]; omega⟩
    · obtain rfl : i = x.gs.length := by omega
      have hnot : ¬ (x.gs.length : Int) < (x.gs.length : Int) := by omega
      have HN : Hid (b = P) := by show _ = _; rw [← HPR.out, List.drop_length]; exact (pL_nil b).symm
      go_wp2_with fail
      go_ret
      exact ⟨by rw [← HN.out]; rfl, HBR.out⟩
end Go.Proofs.YteedmmljahgpjaaGreatDoor
