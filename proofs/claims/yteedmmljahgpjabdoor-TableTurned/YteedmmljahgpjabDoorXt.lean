/-
  TableTurned, walked.
-/
import Derived.Test.YteedmmljahgpjabDoorM26
import Derived.Laws.BitsAllLaws
import Derived.Test.YteedmmljahgpjabDoorM24
import Derived.Test.YteedmmljahgpjabDoorM22
namespace Go.Proofs.YteedmmljahgpjabDoor
open Go.RowKit
set_option linter.unusedVariables false
set_option linter.unusedSimpArgs false
/-- A text's bytes as a slice, which may be written. -/
theorem buf_new (s : ByteArray) (w : World) : ∃ cap w', (convert 9 32 (.string s)).run Tryd.prog w = .ok (.slice (some ⟨w.heap.size, 0, none⟩) s.size cap) w' ∧ w.heap.size < w'.heap.size ∧
    (∀ j (hj : j < s.size), w'.cell? ⟨w.heap.size, j, none⟩ = some (.int .u8 (s[j].toNat : Int)) ∧ w'.frozen? ⟨w.heap.size, j, none⟩ = false) ∧ Below w.heap.size w w' := by
  refine ⟨_, _, run_bytes_of_string (P := Tryd.prog) w 9 32 5 s Tryd.underlying9 Tryd.underlying32 Tryd.underlying5, ?_, ?_, ((Below.refl _ w).drew).alloc (Nat.le_refl _) _⟩
  · show _ < (w.heap.push _).size
    simp
  · have hge := grownCap_ge w s.size 0 5
    generalize hC : bytesRow s (grownCap w s.size 0 5) = C
    have hCs : C.size = grownCap w s.size 0 5 := by
      rw [← hC]; unfold bytesRow
      simp only [Array.size_append, Array.size_map, Array.size_replicate]
      have : s.data.size = s.size := rfl
      omega
    have hrow : (w.drew.alloc (.cells C 5 (C.size, C.size + 1))).heap[w.heap.size]? = some (.cells C 5 (C.size, C.size + 1)) := by
      show (w.heap.push _)[w.heap.size]? = _
      simp
    intro j hj
    rw [W.cell_row hrow, W.frozen_row hrow, ← hC, bytesRow_at s _ j hj]
    refine ⟨rfl, ?_⟩
    rw [hC]
    have : decide (C.size ≤ j) = false := decide_eq_false (by omega)
    rw [this]; rfl
/-- One byte of it is another one: the text. -/
theorem buf_back (s : ByteArray) (g cap i : Nat) (y : UInt8) (w : World) (hi : i < s.size) (h : ∀ j (hj : j < s.size), w.cell? ⟨g, j, none⟩ = some (.int .u8 (s[j].toNat : Int))) :
    (convert 32 9 (.slice (some ⟨g, 0, none⟩) s.size cap)).run Tryd.prog (w.setCell ⟨g, i, none⟩ (.int .u8 (y.toNat : Int))) = .ok (.string (W.bytes (s.data.toList.set i y))) (w.setCell ⟨g, i, none⟩ (.int .u8 (y.toNat : Int))) := by
  have hl : (s.data.toList.set i y).length = s.size := by rw [List.length_set, W.len_of]
  have := run_convert_bytes_back (P := Tryd.prog) (w.setCell ⟨g, i, none⟩ (.int .u8 (y.toNat : Int))) 32 9 5 ⟨g, 0, none⟩ cap (s.data.toList.set i y) Tryd.underlying32 Tryd.underlying5 Tryd.underlying9 (fun j hj => by
    rw [Addr.add_lit, Nat.zero_add]
    have hj2 : j < s.size := by rw [hl] at hj; exact hj
    by_cases e : j = i
    · subst e
      rw [World.cell?_setCell_same _ _ _ (h j hj2), List.getElem_set_self]
    · rw [World.cell?_setCell_other _ _ _ _ (fun e2 => e (by injection e2 with _ e3; exact e3.symm)), List.getElem_set_ne (by omega), h j hj2]
      rfl)
  rw [hl] at this
  exact this
theorem xor_byte (x : UInt8) (B : Int) (hb : 1 ≤ B ∧ B ≤ 255) : ∃ y : UInt8, bits .xor .u8 (x.toNat : Int) B = (y.toNat : Int) ∧ x ≠ y := by
  obtain ⟨n, rfl⟩ : ∃ n : Nat, B = (n : Int) := ⟨B.toNat, by omega⟩
  have hx : x.toNat < 256 := x.toNat_lt
  have hlt : x.toNat ^^^ n < 256 := Nat.xor_lt_two_pow (n := 8) (by omega) (by omega)
  refine ⟨UInt8.ofNat (x.toNat ^^^ n), ?_, ?_⟩
  · rw [u8_xor_nat x.toNat n hx (by omega), UInt8.toNat_ofNat_of_lt' hlt]
  · intro e
    have h2 : x.toNat = x.toNat ^^^ n := by
      have := congrArg UInt8.toNat e
      rwa [UInt8.toNat_ofNat_of_lt' hlt] at this
    have h3 : x.toNat ^^^ x.toNat = x.toNat ^^^ (x.toNat ^^^ n) := by rw [← h2]
    rw [Nat.xor_self, ← Nat.xor_assoc, Nat.xor_self, Nat.zero_xor] at h3
    omega
theorem enc_frame {t : TbM} (h : checkE t = 0) (hr : ∀ n ∈ t.rs, I64 n) (hc : ∀ n ∈ t.cs, I64 n) : ∃ s : List UInt8, s.length ≤ 65536 ∧ (encS t).data.toList = W.frameL s := by
  have hl := enc_len h hr hc
  have hfS : W.frS (encL t) = W.frameL (encL t) := by unfold W.frS; rw [if_neg (by omega)]
  have he : encS t = W.bytes (W.frameL (encL t)) := by unfold encS; rw [h, hfS]; rfl
  exact ⟨encL t, hl, by rw [he]; exact W.bytes_list _⟩
/-- Decode of what is no table's bytes. -/
theorem decode_no {b : ByteArray} (v : World) (hs : b.size ≤ 1099511627776) (hv : Tab v) (h : unR b = none) : Calls Tryd.prog 7 #[.string b] v fun e w' => e = .returned (.tuple #[.agg tb0, .int .i64 194]) ∧ Below v.heap.size v w' := by
  refine (decode_any b v hs hv).mono ?_
  intro e w' k
  rw [h] at k
  exact k
/-- Decode of a table's bytes. -/
theorem decode_en {t : TbM} (v : World) (hv : Tab v) (h : checkE t = 0) (hr : ∀ n ∈ t.rs, I64 n) (hc : ∀ n ∈ t.cs, I64 n) : Calls Tryd.prog 7 #[.string (encS t)] v fun e w' => (∃ u : TbM, e = .returned (.tuple #[.agg u.vals, .int .i64 0])) ∧ Below v.heap.size v w' := by
  obtain ⟨h1, h2, h3⟩ := un_enc h hr hc
  refine (decode_any (encS t) v h3 hv).mono ?_
  intro e w' k
  rw [h1] at k
  obtain ⟨u, nb, k1, k2, k3⟩ := k
  have hs := is_same k1
  rw [check_s hs, h] at k2
  exact ⟨⟨u, k2.1⟩, k3⟩
set_option maxRecDepth 100000 in
set_option maxHeartbeats 8000000 in
theorem turnedL_any (t : TbM) (a0 b0 : Int) (m : ByteArray) (ha : I64 a0) (hb : 0 ≤ b0 ∧ b0 ≤ 255) (w : World) (hl : TbL w t) (hz : TbZ t) (htb : Tab w) : Calls Tryd.prog 3 #[.agg t.vals, .int .i64 a0, .int .u8 b0, .string m] w fun e w' => e = .returned (.bool true) ∧ Below w.heap.size w w' := by
  have hb1 := below_new w (.cells t.vals 26)
  have hn1 := heap_new w (.cells t.vals 26)
  obtain ⟨W1, e1⟩ : ∃ W, w.alloc (.cells t.vals 26) = W := ⟨_, rfl⟩
  have E1 : Hid (w.alloc (.cells t.vals 26) = W1) := e1
  rw [e1] at hb1 hn1
  have HB1 : Hid (Below w.heap.size w W1) := hb1
  have HN1 : Hid (W1.heap[w.heap.size]? = some (.cells t.vals 26 (0, 0))) := hn1
  have HL : Hid (TbL W1 t) := hl.on hb1
  have HT : Hid (Tab W1) := htb.on hb1
  have HZ : Hid (TbZ t) := hz
  have HA : Hid (I64 a0 ∧ 0 ≤ b0 ∧ b0 ≤ 255) := ⟨ha, hb⟩
  have cA := awake_any W1 HT.out
  clear hb1 hn1 hl hz htb e1 ha hb
  go_enter Tryd.func3, Tryd.ntmps3
  go_upto_region 1 with fail
  rw [E1.out]
  clear E1
  go_wp2_with fail
  refine cA.mono ?_
  rintro e w2 ⟨rfl, hb2⟩
  have HB2 : Hid (Below W1.heap.size W1 w2) := hb2
  have HN2 : Hid (w2.heap[w.heap.size]? = some (.cells t.vals 26 (0, 0))) := (hb2.block _ (hp_lt HN1.out)).trans HN1.out
  have cF := far_any t w2 (HL.out.on hb2) HZ.out
  clear cA hb2
  go_wp2_with (refine wpList_load_row rfl 26 (.tmp 4) rfl w.heap.size rfl 26 t.vals (0, 0) _ HN2.out Tryd.underlying26 rfl size26' ?_)
  refine cF.mono ?_
  rintro e w3 ⟨b, rfl, _, hb3⟩
  have HB3 : Hid (Below W1.heap.size W1 w3) := below2 HB2.out hb3
  have HN3 : Hid (w3.heap[w.heap.size]? = some (.cells t.vals 26 (0, 0))) := (HB3.out.block _ (hp_lt HN1.out)).trans HN1.out
  clear cF hb3 HB2 HN2
  cases b with
  | true =>
    go_wp2_with fail
    go_ret
    exact ⟨rfl, below2 HB1.out HB3.out⟩
  | false =>
    by_cases hneg : a0 < 0
    · go_wp2_with fail
      go_ret
      exact ⟨rfl, below2 HB1.out HB3.out⟩
    by_cases hbig : (m.size : Int) > 131072
    · go_wp2_with fail
      go_ret
      exact ⟨rfl, below2 HB1.out HB3.out⟩
    have HNG : Hid (0 ≤ a0 ∧ m.size ≤ 131072) := by show _ ∧ _; omega
    have cE := encode_any t w3 (HL.out.on HB3.out) (HT.out.on HB3.out)
    by_cases h0 : checkE t = 0
    · obtain ⟨h1, h2, h3⟩ := un_enc h0 HL.out.Ri HL.out.Ci
      obtain ⟨s, hs1, hs2⟩ := enc_frame h0 HL.out.Ri HL.out.Ci
      have HFR : Hid (s.length ≤ 65536 ∧ (encS t).data.toList = W.frameL s) := ⟨hs1, hs2⟩
      have HCH : Hid (checkE t = 0) := h0
      have hsz : (encS t).size = (W.frameL s).length := by rw [← W.len_of, hs2]
      have hpos : 0 < (encS t).size := by rw [hsz, W.frame_len]; omega
      have HSM : Hid ((encS t).size ≤ 70000) := by show _ ≤ _; rw [hsz, W.frame_len]; have := W.put1_ten (n := s.length) (by omega); omega
      rw [h2] at cE
      have HDE : Hid (∀ v, Tab v → Calls Tryd.prog 7 #[.string (encS t)] v fun e w' => (∃ u : TbM, e = .returned (.tuple #[.agg u.vals, .int .i64 0])) ∧ Below v.heap.size v w') := fun v hv => decode_en v hv HCH.out HL.out.Ri HL.out.Ci
      obtain ⟨ES, eES⟩ : ∃ q, encS t = q := ⟨_, rfl⟩
      rw [eES] at cE HFR HDE HSM hpos
      obtain ⟨J, eJ⟩ : ∃ J : Nat, a0 % (ES.size : Int) = (J : Int) := ⟨(a0 % (ES.size : Int)).toNat, by have := Int.emod_nonneg a0 (show (ES.size : Int) ≠ 0 by omega); omega⟩
      have hJ : J < ES.size := by have := Int.emod_lt_of_pos a0 (show 0 < (ES.size : Int) by omega); omega
      have eJ2 : a0.tmod (ES.size : Int) = (J : Int) := by rw [Int.tmod_eq_emod_of_nonneg HNG.out.1, eJ]
      have hz0 : ((ES.size : Int) == 0) = false := beq_false_of_ne (by omega)
      have hz1 : ¬ ES = ByteArray.empty := fun e => by rw [e] at hpos; exact absurd hpos (by decide)
      have HJ : Hid (J < ES.size) := hJ
      have HEJ : Hid (a0.tmod (ES.size : Int) = (J : Int)) := eJ2
      clear h0 h1 h2 h3 hs1 hs2 hsz hpos eES eJ hJ eJ2
      go_wp2_with (refine wpList_load_row rfl 26 (.tmp 4) rfl w.heap.size rfl 26 t.vals (0, 0) _ HN3.out Tryd.underlying26 rfl size26' ?_)
      refine cE.mono ?_
      rintro e w4 ⟨rfl, hb4⟩
      have HB4 : Hid (Below W1.heap.size W1 w4) := below2 HB3.out hb4
      clear cE hb4 HN3
      go_upto_region 10 with fail
      have eJ2 : a0.tmod (ES.size : Int) = (J : Int) := HEJ.out
      go_upto_region 11 with fail
      clear eJ2 HEJ
      obtain ⟨cap, w5, hcv, hlt5, hce5, hb5⟩ := buf_new ES w4
      have HB5 : Hid (Below W1.heap.size W1 w5) := below2 HB4.out hb5
      obtain ⟨G, eG⟩ : ∃ G, w4.heap.size = G := ⟨_, rfl⟩
      rw [eG] at hcv hce5 hlt5
      have HGW : Hid (W1.heap.size ≤ G) := by show _ ≤ _; rw [← eG]; exact HB4.out.size
      have HCE : Hid (∀ j (hj : j < ES.size), w5.cell? ⟨G, j, none⟩ = some (.int .u8 (ES[j].toNat : Int)) ∧ w5.frozen? ⟨G, j, none⟩ = false) := hce5
      clear hb5 hce5 eG hlt5
      go_upto_region 12 with fail
      clear hcv
      obtain ⟨Q, eQ⟩ : ∃ Q : Int, b0.tmod 255 = Q := ⟨_, rfl⟩
      have hQ : 0 ≤ Q ∧ Q ≤ 254 := by
        have h1 := HA.out.2
        rw [Int.tmod_eq_emod_of_nonneg h1.1] at eQ
        omega
      obtain ⟨Bq, eB⟩ : ∃ B : Int, 1 + Q = B := ⟨_, rfl⟩
      obtain ⟨y, ey, hne⟩ := xor_byte (ES[J]'HJ.out) Bq (by omega)
      have x0 : w5.cell? ⟨G, J, none⟩ = some (.int .u8 ((ES[J]'HJ.out).toNat : Int)) := (HCE.out J HJ.out).1
      have y0 : w5.frozen? ⟨G, J, none⟩ = false := (HCE.out J HJ.out).2
      obtain ⟨xn, exn⟩ : ∃ q : Int, ((ES[J]'HJ.out).toNat : Int) = q := ⟨_, rfl⟩
      obtain ⟨yn, eyn⟩ : ∃ q : Int, (y.toNat : Int) = q := ⟨_, rfl⟩
      rw [exn] at x0 ey
      rw [eyn] at ey
      have hJi : (J : Int) < (ES.size : Int) := by have := HJ.out; omega
      have hB1 : 0 ≤ Bq ∧ Bq ≤ 255 := by omega
      have hw : IntKind.u8.wrap Bq = Bq := by rw [IntKind.wrap_u8]; omega
      have HNE : Hid ((ES[J]'HJ.out) ≠ y) := hne
      have HYN : Hid ((y.toNat : Int) = yn) := eyn
      have HBK : Hid ((convert 32 9 (.slice (some ⟨G, 0, none⟩) ES.size cap)).run Tryd.prog (w5.setCell ⟨G, J, none⟩ (.int .u8 yn)) = .ok (.string (W.bytes (ES.data.toList.set J y))) (w5.setCell ⟨G, J, none⟩ (.int .u8 yn))) := by
        show _ = _
        rw [← eyn]
        exact buf_back ES G cap J y w5 HJ.out (fun j hj => (HCE.out j hj).1)
      have HB6 : Hid (Below W1.heap.size W1 (w5.setCell ⟨G, J, none⟩ (.int .u8 yn))) := HB5.out.setCell HGW.out _
      clear exn eyn hne HCE
      go_upto_region 13 with fail
      generalize World.setCell w5 _ _ = w6 at HBK HB6 ⊢
      clear x0 y0 ey eB eQ hQ hB1 hw hJi HB5
      obtain ⟨TS, eTS⟩ : ∃ q, W.bytes (ES.data.toList.set J y) = q := ⟨_, rfl⟩
      have HTS : Hid (unR TS = none ∧ TS.size ≤ 1099511627776) := by
        have hl : TS.data.toList = (W.frameL s).set J y := by rw [← eTS, W.bytes_list, HFR.out.2]
        have hsz : TS.size = ES.size := by rw [← eTS, W.bytes_size, List.length_set, W.len_of]
        have hlen : ES.size = (W.frameL s).length := by rw [← W.len_of, HFR.out.2]
        refine ⟨turned_none HFR.out.1 (i := J) (y := y) (by rw [← hlen]; exact HJ.out) ?_ hl, by have := HSM.out; omega⟩
        rw [← HFR.out.2]
        intro e
        apply HNE.out
        have h1 : ES.data.toList[J]? = some (ES[J]'HJ.out) := by
          rw [List.getElem?_eq_getElem (by rw [W.len_of]; exact HJ.out)]; rfl
        rw [h1] at e
        injection e
      have hbk : (convert 32 9 (.slice (some ⟨G, 0, none⟩) ES.size cap)).run Tryd.prog w6 = .ok (.string TS) w6 := by rw [← eTS]; exact HBK.out
      clear eTS HBK HNE HYN
      have cD := decode_no w6 HTS.out.2 (HT.out.on HB6.out) HTS.out.1
      go_wp2_with fail
      refine cD.mono ?_
      rintro e w7 ⟨rfl, hb7⟩
      have HZ7 : Hid ((w7.alloc (.cells tb0 26)).heap[w7.heap.size]? = some (.cells tb0 26 (0, 0))) := heap_new _ _
      have HB8 : Hid (Below W1.heap.size W1 ((w7.alloc (.cells tb0 26)).setRow w7.heap.size tb0)) := below2 (below2 HB6.out hb7) (below_row (below_new _ _) (Nat.le_refl _) _)
      clear cD hb7 hbk HB6 HTS
      go_upto_region 14 with (refine wpList_store_row rfl 26 (.tmp 15) (.tmp 72) rfl w7.heap.size tb0 rfl rfl 26 tb0 HZ7.out size26' rfl tb0_all ?_)
      rw [show (w7.alloc (.cells #[.string ⟨#[]⟩, .slice none 0 0, .int .i64 0, .slice none 0 0, .slice none 0 0, .slice none 0 0] 26)) = w7.alloc (.cells tb0 26) from rfl]
      generalize World.setRow _ _ _ = W8 at HB8 ⊢
      generalize w7.heap.size = G7
      clear HZ7
      obtain ⟨F1, eF1⟩ : ∃ q, ES.extract 0 J = q := ⟨_, rfl⟩
      have HF1 : Hid (unR F1 = none ∧ F1.size ≤ 1099511627776) := by
        have hl : F1.data.toList = (W.frameL s).take J := by
          rw [← eF1, ← W.list_bytes ES, W.bytes_ext, W.bytes_list, HFR.out.2]; simp
        have hlen : ES.size = (W.frameL s).length := by rw [← W.len_of, HFR.out.2]
        refine ⟨cut_none HFR.out.1 (i := J) (by rw [← hlen]; exact HJ.out) hl, ?_⟩
        rw [← W.len_of, hl, List.length_take]
        have h1 := HSM.out
        have h2 := HJ.out
        omega
      have hJs : J ≤ ES.size := by have := HJ.out; omega
      have cD := decode_no W8 HF1.out.2 (HT.out.on HB8.out) HF1.out.1
      go_wp2_with fail
      refine cD.mono ?_
      rintro e w9 ⟨rfl, hb9⟩
      have HZ9 : Hid ((w9.alloc (.cells tb0 26)).heap[w9.heap.size]? = some (.cells tb0 26 (0, 0))) := heap_new _ _
      have HB10 : Hid (Below W1.heap.size W1 ((w9.alloc (.cells tb0 26)).setRow w9.heap.size tb0)) := below2 (below2 HB8.out hb9) (below_row (below_new _ _) (Nat.le_refl _) _)
      clear cD hb9 HB8 HF1 hJs eF1
      go_upto_region 15 with (refine wpList_store_row rfl 26 (.tmp 17) (.tmp 79) rfl w9.heap.size tb0 rfl rfl 26 tb0 HZ9.out size26' rfl tb0_all ?_)
      rw [show (w9.alloc (.cells #[.string ⟨#[]⟩, .slice none 0 0, .int .i64 0, .slice none 0 0, .slice none 0 0, .slice none 0 0] 26)) = w9.alloc (.cells tb0 26) from rfl]
      generalize World.setRow _ _ _ = W10 at HB10 ⊢
      generalize w9.heap.size = G9
      clear HZ9
      have hs1 : ES.size ≤ 70000 := HSM.out
      have hs2 : m.size ≤ 131072 := HNG.out.2
      by_cases hm0 : m.size = 0
      · have hmE : ES ++ m = ES := by
          apply W.ba_ext
          have h1 : m.data.toList = [] := List.eq_nil_of_length_eq_zero (by rw [W.len_of]; exact hm0)
          simp [h1]
        have hmi : ((m.size : Nat) : Int) = 0 := by omega
        have cD := HDE.out W10 (HT.out.on HB10.out)
        clear hm0
        go_wp2_with fail
        refine cD.mono ?_
        rintro e w11 ⟨⟨u, rfl⟩, hb11⟩
        have HZ11 : Hid ((w11.alloc (.cells tb0 26)).heap[w11.heap.size]? = some (.cells tb0 26 (0, 0))) := heap_new _ _
        have HB12 : Hid (Below W1.heap.size W1 ((w11.alloc (.cells tb0 26)).setRow w11.heap.size u.vals)) := below2 (below2 HB10.out hb11) (below_row (below_new _ _) (Nat.le_refl _) _)
        clear cD hb11 HB10
        go_upto_region 16 with (refine wpList_store_row rfl 26 (.tmp 19) (.tmp 86) rfl w11.heap.size u.vals rfl rfl 26 tb0 HZ11.out size26' rfl (allTb u) ?_)
        rw [show (w11.alloc (.cells #[.string ⟨#[]⟩, .slice none 0 0, .int .i64 0, .slice none 0 0, .slice none 0 0, .slice none 0 0] 26)) = w11.alloc (.cells tb0 26) from rfl]
        generalize World.setRow _ _ _ = W12 at HB12 ⊢
        generalize w11.heap.size = G11
        go_wp2_with fail
        go_ret
        exact ⟨by simp, below2 HB1.out HB12.out⟩
      · obtain ⟨F2, eF2⟩ : ∃ q, ES ++ m = q := ⟨_, rfl⟩
        have HF2 : Hid (unR F2 = none ∧ F2.size ≤ 1099511627776) := by
          have hl : F2.data.toList = W.frameL s ++ m.data.toList := by rw [← eF2, ← HFR.out.2]; simp
          refine ⟨more_none HFR.out.1 (by rw [W.len_of]; omega) hl, ?_⟩
          rw [← W.len_of, hl, List.length_append, ← HFR.out.2, W.len_of, W.len_of]
          have h1 := HSM.out
          have h2 := HNG.out.2
          omega
        have hmi : ((m.size : Nat) : Int) > 0 := by omega
        have hmn : 0 < m.size := by omega
        have cD := decode_no W10 HF2.out.2 (HT.out.on HB10.out) HF2.out.1
        clear hm0
        go_wp2_with fail
        refine cD.mono ?_
        rintro e w11 ⟨rfl, hb11⟩
        have HZ11 : Hid ((w11.alloc (.cells tb0 26)).heap[w11.heap.size]? = some (.cells tb0 26 (0, 0))) := heap_new _ _
        have HB12 : Hid (Below W1.heap.size W1 ((w11.alloc (.cells tb0 26)).setRow w11.heap.size tb0)) := below2 (below2 HB10.out hb11) (below_row (below_new _ _) (Nat.le_refl _) _)
        clear cD hb11 HB10 HF2 eF2
        go_upto_region 16 with (refine wpList_store_row rfl 26 (.tmp 19) (.tmp 86) rfl w11.heap.size tb0 rfl rfl 26 tb0 HZ11.out size26' rfl tb0_all ?_)
        rw [show (w11.alloc (.cells #[.string ⟨#[]⟩, .slice none 0 0, .int .i64 0, .slice none 0 0, .slice none 0 0, .slice none 0 0] 26)) = w11.alloc (.cells tb0 26) from rfl]
        generalize World.setRow _ _ _ = W12 at HB12 ⊢
        generalize w11.heap.size = G11
        go_wp2_with fail
        go_ret
        exact ⟨by simp [hmn], below2 HB1.out HB12.out⟩
    · have hEE : encE t = checkE t := by unfold encE; rw [if_neg (by simpa using h0)]
      have hES : encS t = ⟨#[]⟩ := by unfold encS; rw [if_neg (by simpa using h0)]
      rw [hEE, hES] at cE
      obtain ⟨E, eE⟩ : ∃ q, checkE t = q := ⟨_, rfl⟩
      rw [eE] at cE h0
      have hE0 : (E != 0) = true := bne_iff_ne.2 h0
      clear hEE hES eE h0
      go_wp2_with (refine wpList_load_row rfl 26 (.tmp 4) rfl w.heap.size rfl 26 t.vals (0, 0) _ HN3.out Tryd.underlying26 rfl size26' ?_)
      refine cE.mono ?_
      rintro e w4 ⟨rfl, hb4⟩
      have HB4 : Hid (Below W1.heap.size W1 w4) := below2 HB3.out hb4
      clear cE hb4 HN3
      go_wp2_with fail
      go_ret
      exact ⟨by simp, below2 HB1.out HB4.out⟩
end Go.Proofs.YteedmmljahgpjabDoor
