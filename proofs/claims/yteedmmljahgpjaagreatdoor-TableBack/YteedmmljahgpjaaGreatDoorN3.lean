import Derived.Test.YteedmmljahgpjaaGreatDoorN2
import Derived.Test.YteedmmljahgpjaaGreatDoorN1
/-
  The document's Encode, of any table.
-/
namespace Go.Proofs.YteedmmljahgpjaaGreatDoor
open Go.RowKit
set_option linter.unusedVariables false
set_option linter.unusedSimpArgs false
theorem pL_app (a b : List Int) : pL (a ++ b) = pL a ++ pL b := by unfold pL; rw [List.map_append, List.flatten_append]
theorem pL_put : ∀ l : List Int, pL l = W.putL (W.nats l)
  | [] => rfl
  | n :: l => by
    have := pL_put l
    unfold pL W.nats at *
    simp only [List.map_cons, List.flatten_cons, W.putL]
    rw [this]
theorem sg_b (l : List Int) : pL (sgZ l) = W.put1 l.length ++ (l.map (fun n => W.put1 (W.zigN n).toNat)).flatten := by
  unfold sgZ pL
  rw [List.map_cons, List.flatten_cons, List.map_map, Int.toNat_natCast]
  rfl
theorem pL_len : ∀ l : List Int, (∀ n ∈ l, n ≤ 18446744073709551615) → (pL l).length ≤ 10 * l.length
  | [], _ => Nat.le_refl _
  | n :: l, h => by
    have h1 := pL_len l (fun m hm => h m (List.mem_cons_of_mem _ hm))
    have h2 := put1_le (h n (List.mem_cons_self ..))
    have e : pL (n :: l) = W.put1 n.toNat ++ pL l := rfl
    rw [e, List.length_append, List.length_cons]
    omega
theorem sg_le {l : List Int} (h : ∀ n ∈ l, I64 n) (hn : l.length ≤ 1000000) : ∀ n ∈ sgZ l, n ≤ 18446744073709551615 := fun n hm => by
  unfold sgZ at hm
  rcases List.mem_cons.1 hm with rfl | hm
  · omega
  · obtain ⟨m, hm2, rfl⟩ := List.mem_map.1 hm
    have := h m hm2
    unfold I64 at this
    unfold W.zigN
    split <;> omega
theorem flat_le {α : Type} {f : α → List Int} {c : Nat} : ∀ l : List α, (∀ a ∈ l, (f a).length ≤ c) → ((l.map f).flatten).length ≤ c * l.length
  | [], _ => Nat.zero_le _
  | a :: l, h => by
    have h1 := flat_le l (fun b hb => h b (List.mem_cons_of_mem _ hb))
    have h2 := h a (List.mem_cons_self ..)
    rw [List.map_cons, List.flatten_cons, List.length_append, List.length_cons, Nat.mul_add, Nat.mul_one]
    omega
theorem st_le {t : TbM} {x : StM} {w : World} (h12 : x.gs.length ≤ 12) (hB : ∀ g ∈ x.gs, GdB g) (hW : ∀ g ∈ x.gs, GdW t g) (hR : ∀ g ∈ x.gs, ∀ r ∈ g.rs, rowB t.sl t.rs.length t.ts.length r = true) (hm : t.ds.length ≤ 4096) (hl : StL w x) : ∀ n ∈ stZ x, n ≤ 18446744073709551615 := fun n hn => by
  unfold stZ at hn
  rcases List.mem_cons.1 hn with rfl | hn
  · omega
  · obtain ⟨y, hy, hn⟩ := List.mem_flatten.1 hn
    obtain ⟨g, hg, rfl⟩ := List.mem_map.1 hy
    have hgB := hB g hg
    unfold gdZ at hn
    rcases List.mem_append.1 hn with hn | hn
    · have h1 := hgB.1
      unfold LenW at h1
      have h2 := hgB.2.1
      simp at hn
      rcases hn with rfl | rfl <;> omega
    · obtain ⟨z, hz, hn⟩ := List.mem_flatten.1 hn
      obtain ⟨r, hr, rfl⟩ := List.mem_map.1 hz
      have hI := (hl.2 g hg).2.2.2.2 r hr
      obtain ⟨⟨k0, k1⟩, ⟨q0, q1⟩, ⟨i0, i1⟩, _⟩ := hI
      unfold rowZ at hn
      rcases List.mem_append.1 hn with hn | hn
      · simp at hn
        rcases hn with rfl | rfl | rfl <;> omega
      · obtain ⟨y, hy, rfl⟩ := List.mem_map.1 hn
        have := hgB.2.2 r hr y hy
        unfold LenW at this
        omega
theorem st_len {t : TbM} {x : StM} {w : World} (h12 : x.gs.length ≤ 12) (hB : ∀ g ∈ x.gs, GdB g) (hW : ∀ g ∈ x.gs, GdW t g) (hR : ∀ g ∈ x.gs, ∀ r ∈ g.rs, rowB t.sl t.rs.length t.ts.length r = true) (hm : t.ds.length ≤ 4096) (hl : StL w x) : (pL (stZ x)).length ≤ 100000 := by
  have h1 := pL_len (stZ x) (st_le h12 hB hW hR hm hl)
  have h2 : (stZ x).length ≤ 1 + 58 * x.gs.length := by
    unfold stZ
    rw [List.length_cons]
    have := flat_le (f := gdZ) (c := 58) x.gs (fun g hg => by
      unfold gdZ
      have h3 := flat_le (f := rowZ) (c := 7) g.rs (fun r _ => rowZ_le r)
      have h4 := (hB g hg).2.1
      rw [List.length_append]
      simp only [List.length_cons, List.length_nil]
      omega)
    omega
  omega
set_option maxRecDepth 100000 in
set_option maxHeartbeats 4000000 in
theorem num64_any (b : ByteArray) (n : Int) (h0 : -9223372036854775808 ≤ n) (h1 : n ≤ 9223372036854775807) (hs : b.size ≤ 549755813888) (w : World) : Calls Tryz.prog 37 #[.string b, .int .i64 n] w fun e w' => ∃ b', e = .returned (.string b') ∧ NumO b b' (u64 n) ∧ Below w.heap.size w w' := by
  have hu : 0 ≤ u64 n ∧ u64 n ≤ 18446744073709551615 := by unfold u64; omega
  have cO := W.rone_any (u64 n) hu.1 hu.2 w
  obtain ⟨Z, eZ⟩ : ∃ Z, W.bytes (W.put1 (u64 n).toNat) = Z := ⟨_, rfl⟩
  have HZ : Hid (b ++ Z = bh b (W.put1 (u64 n).toNat)) := by show _ = _; rw [← eZ]; exact bh_add b _
  have hZ : Z.size ≤ 10 := by rw [← eZ, W.bytes_size]; exact put1_le hu.2
  have HSZ : Hid ((bh b (W.put1 (u64 n).toNat)).size ≤ b.size + 10) := by
    show _ ≤ _
    rw [bh_size]
    have := put1_le hu.2
    omega
  rw [eZ] at cO
  unfold u64 at cO
  clear eZ hu
  go_enter Tryz.func37, Tryz.ntmps37
  go_wp2_with fail
  refine cO.mono ?_
  rintro e w2 ⟨rfl, hb⟩
  have HB : Hid (Below w.heap.size w w2) := hb
  clear hb cO
  go_wp2_with fail
  go_ret
  exact ⟨_, rfl, ⟨HZ.out, by rw [HZ.out]; exact HSZ.out⟩, HB.out⟩
set_option maxRecDepth 100000 in
set_option maxHeartbeats 4000000 in
theorem rencode_any (t : TbM) (w : World) (hl : TbL w t) : Calls Tryz.prog 17 #[.agg t.vals] w fun e w' => e = .returned (.tuple #[.string (encS t), .int .i64 (encE t)]) ∧ Below w.heap.size w w' := by
  have hb1 := below_new w (.cells t.vals 26)
  have hn1 := heap_new w (.cells t.vals 26)
  obtain ⟨W1, e1⟩ : ∃ W, w.alloc (.cells t.vals 26) = W := ⟨_, rfl⟩
  have E1 : Hid (w.alloc (.cells t.vals 26) = W1) := e1
  rw [e1] at hb1 hn1
  have HB1 : Hid (Below w.heap.size w W1) := hb1
  have HN1 : Hid (W1.heap[w.heap.size]? = some (.cells t.vals 26 (0, 0))) := hn1
  have HL : Hid (TbL W1 t) := hl.on hb1
  have cC := rcheck_any t W1 (hl.on hb1)
  unfold encS encE
  clear hb1 e1 hl hn1
  cases hz : (checkE t == 0) with
  | false =>
    have hq : (checkE t != 0) = true := by simp [bne, hz]
    rw [if_neg (by simp), if_neg (by simp)]
    obtain ⟨E, eE⟩ : ∃ q, checkE t = q := ⟨_, rfl⟩
    rw [eE] at cC hq hz ⊢
    clear eE
    go_enter Tryz.func17, Tryz.ntmps17
    go_upto_region 1 with fail
    rw [E1.out]
    clear E1
    go_wp2_with (refine wpList_load_row rfl 26 (.tmp 1) rfl w.heap.size rfl 26 t.vals (0, 0) _ HN1.out Tryz.underlying26 rfl size26' ?_)
    refine cC.mono ?_
    rintro e w3 ⟨rfl, hb3⟩
    have HB3 : Hid (Below W1.heap.size W1 w3) := hb3
    clear cC hb3
    go_wp2_with fail
    go_ret2
    exact ⟨rfl, below2 HB1.out HB3.out⟩
  | true =>
    have hform := check_form hz
    have HFB : Hid (∀ s ∈ t.ts, s.gs.length ≤ 12 ∧ ∀ g ∈ s.gs, GdB g) := form_b hform
    have HFW : Hid ((t.rs.length ≤ 12 ∧ t.cs.length ≤ 1024 ∧ t.ds.length ≤ 4096) ∧ ∀ s ∈ t.ts, ∀ g ∈ s.gs, GdW t g) := form_w hform
    have HFR : Hid (∀ s ∈ t.ts, ∀ g ∈ s.gs, ∀ r ∈ g.rs, rowB t.sl t.rs.length t.ts.length r = true) := form_rows hform
    have HSZ : Hid (sizesB t = true ∧ nameB t.x = true) := by
      unfold formB at hform
      simp only [Bool.and_eq_true] at hform
      exact ⟨hform.1.2, hform.1.1⟩
    have hE : checkE t = 0 := by simpa using hz
    rw [if_pos rfl, if_pos rfl]
    rw [hE] at cC
    have hsz := HSZ.out.1
    unfold sizesB withinB at hsz
    simp at hsz
    have hnm := HSZ.out.2
    unfold nameB at hnm
    simp at hnm
    have hx16 : t.x.size ≤ 16 := by omega
    have hrl : t.rs.length ≤ 12 := by omega
    have hcl : t.cs.length ≤ 1024 := by omega
    have hdl : t.ds.length ≤ 4096 := by omega
    have htl : t.ts.length ≤ 12 := by omega
    have hsl : 0 ≤ t.sl ∧ t.sl ≤ 4 := by omega
    have cT : ∀ v : World, Calls Tryz.prog 35 #[.string ⟨#[]⟩, .string t.x] v fun e w' => ∃ b, e = .returned (.string b) ∧ b = W.bytes (W.text1 t.x.data.toList) ∧ b.size ≤ 100 ∧ Below v.heap.size v w' := fun v => by
      refine (W.rputText_any ⟨#[]⟩ t.x (by show (0 : Nat) ≤ _; omega) (by omega) v).mono ?_
      rintro e w' ⟨rfl, hb⟩
      refine ⟨_, rfl, rfl, ?_, hb⟩
      rw [W.bytes_size]
      have := W.text1_size t.x.data.toList (by rw [W.len_of]; omega)
      rw [W.len_of] at this
      show (([] : List UInt8) ++ W.text1 t.x.data.toList).length ≤ 100
      rw [List.nil_append]
      omega
    have HCT := hid_of cT
    obtain ⟨FS, eFS⟩ : ∃ q, W.bytes (W.frS (encL t)) = q := ⟨_, rfl⟩
    obtain ⟨FE, eFE⟩ : ∃ q, ((W.frE (encL t) : Nat) : Int) = q := ⟨_, rfl⟩
    have HFF : Hid (∀ b : ByteArray, b = W.bytes (encL t) → ∀ v : World, Calls Tryz.prog 39 #[.string b] v fun e w' => e = .returned (.tuple #[.string FS, .int .i64 FE]) ∧ Below v.heap.size v w') := fun b hb v => by
      have h := W.rframe_any b v
      rw [hb, W.bytes_list, eFS, eFE, ← hb] at h
      exact h
    have HEN : Hid (encL t = W.text1 t.x.data.toList ++ pL (contZ t)) := by show _ = _; rw [pL_put]; rfl
    rw [eFS, eFE]
    clear hz hE hform hsz hnm cT eFS eFE
    go_enter Tryz.func17, Tryz.ntmps17
    go_upto_region 1 with fail
    rw [E1.out]
    clear E1
    go_wp2_with (refine wpList_load_row rfl 26 (.tmp 1) rfl w.heap.size rfl 26 t.vals (0, 0) _ HN1.out Tryz.underlying26 rfl size26' ?_)
    refine cC.mono ?_
    rintro e w3 ⟨rfl, hb3⟩
    have HB3 : Hid (Below W1.heap.size W1 w3) := hb3
    have c0 : w3.cell? ⟨w.heap.size, 0, none⟩ = some (.string t.x) := cell_on (cell_of HN1.out 0) hb3
    clear cC hb3
    go_wp2_with fail
    refine (HCT.out w3).mono ?_
    rintro e w4 ⟨b0, rfl, hb0, hz0, hbw⟩
    have HB4 : Hid (Below W1.heap.size W1 w4) := below2 HB3.out hbw
    have HP0 : Hid (bh b0 (pL (contZ t)) = W.bytes (encL t)) := by
      show _ = _
      rw [HEN.out, hb0]
      unfold bh
      rw [W.bytes_list]
    have c1 : w4.cell? ⟨w.heap.size, 1, none⟩ = some (.slice t.ra t.rs.length t.rc) := cell_on (cell_of HN1.out 1) HB4.out
    have cS := rsigned_any' b0 t.rs t.ra t.rc w4 (HL.out.on HB4.out).R HL.out.Ri (by omega) (by omega)
    rw [← sg_b] at cS
    obtain ⟨PP, ePP⟩ : ∃ q, W.bytes (encL t) = q := ⟨_, rfl⟩
    rw [ePP] at HP0
    have HFF2 : Hid (∀ v : World, Calls Tryz.prog 39 #[.string PP] v fun e w' => e = .returned (.tuple #[.string FS, .int .i64 FE]) ∧ Below v.heap.size v w') := fun v => HFF.out PP ePP.symm v
    have hA1 : ∀ n ∈ sgZ t.rs, n ≤ 18446744073709551615 := sg_le HL.out.Ri (by omega)
    have hl1 := pL_len (sgZ t.rs) hA1
    have hA2 : ∀ n ∈ sgZ t.cs, n ≤ 18446744073709551615 := sg_le HL.out.Ci (by omega)
    have hl2 := pL_len (sgZ t.cs) hA2
    have hz1 : (bh b0 (pL (sgZ t.rs))).size ≤ 1000 := by
      rw [bh_size]
      have : (sgZ t.rs).length = t.rs.length + 1 := by unfold sgZ; simp
      omega
    have hl2' : (pL (sgZ t.cs)).length ≤ 11000 := by
      have : (sgZ t.cs).length = t.cs.length + 1 := by unfold sgZ; simp
      omega
    obtain ⟨K1, eK1⟩ : ∃ K, [t.sl] ++ sgZ t.cs ++ [(t.ds.length : Int)] ++ ((t.ds.map inZ).flatten).map u64 ++ [(t.ts.length : Int)] ++ (t.ts.map stZ).flatten = K := ⟨_, rfl⟩
    have HP1 : Hid (bh (bh b0 (pL (sgZ t.rs))) (pL (t.sl :: (sgZ t.cs ++ ((t.ds.length : Int) :: (((t.ds.map inZ).flatten).map u64 ++ ((t.ts.length : Int) :: (t.ts.map stZ).flatten)))))) = PP) := by
      show _ = _
      rw [bh_bh, ← pL_app, ← HP0.out]
      unfold contZ hdZ
      simp
    clear hb0 hbw c0 HCT HFF HP0 HEN ePP hA1 hl1 hA2 hl2 eK1 HB3
    obtain ⟨b1, eb1⟩ : ∃ q, bh b0 (pL (sgZ t.rs)) = q := ⟨_, rfl⟩
    rw [eb1] at cS hz1 HP1
    clear eb1
    go_wp2_with fail
    refine cS.mono ?_
    rintro e w5 ⟨rfl, hb5⟩
    have HB5 : Hid (Below W1.heap.size W1 w5) := below2 HB4.out hb5
    have c2 : w5.cell? ⟨w.heap.size, 2, none⟩ = some (.int .i64 t.sl) := cell_on (cell_of HN1.out 2) HB5.out
    have cM := num_any b1 t.sl hsl.1 (by omega) (by omega) w5
    clear cS hb5 c1 HB4
    go_wp2_with fail
    refine cM.mono ?_
    rintro e w6 ⟨b2, rfl, hn2, hb6⟩
    have HB6 : Hid (Below W1.heap.size W1 w6) := below2 HB5.out hb6
    have hz2 : b2.size ≤ 1010 := by have := hn2.s; omega
    have HP2 : Hid (bh b2 (pL (sgZ t.cs ++ ((t.ds.length : Int) :: (((t.ds.map inZ).flatten).map u64 ++ ((t.ts.length : Int) :: (t.ts.map stZ).flatten))))) = PP) := by show _ = _; rw [hn2.e, pL_c]; exact HP1.out
    have c3 : w6.cell? ⟨w.heap.size, 3, none⟩ = some (.slice t.ca t.cs.length t.cc) := cell_on (cell_of HN1.out 3) HB6.out
    have cS := rsigned_any' b2 t.cs t.ca t.cc w6 (HL.out.on HB6.out).C HL.out.Ci (by omega) (by omega)
    rw [← sg_b] at cS
    have HP3 : Hid (bh (bh b2 (pL (sgZ t.cs))) (pL ((t.ds.length : Int) :: (((t.ds.map inZ).flatten).map u64 ++ ((t.ts.length : Int) :: (t.ts.map stZ).flatten)))) = PP) := by show _ = _; rw [bh_bh, ← pL_app]; exact HP2.out
    have hz3 : (bh b2 (pL (sgZ t.cs))).size ≤ 20000 := by rw [bh_size]; omega
    obtain ⟨b3, eb3⟩ : ∃ q, bh b2 (pL (sgZ t.cs)) = q := ⟨_, rfl⟩
    rw [eb3] at cS hz3 HP3
    clear eb3 hn2 hb6 c2 cM HB5 HP1 HP2
    go_wp2_with fail
    refine cS.mono ?_
    rintro e w7 ⟨rfl, hb7⟩
    have HB7 : Hid (Below W1.heap.size W1 w7) := below2 HB6.out hb7
    have c4 : w7.cell? ⟨w.heap.size, 4, none⟩ = some (.slice t.da t.ds.length t.dc) := cell_on (cell_of HN1.out 4) HB7.out
    have cM := num_any b3 t.ds.length (by omega) (by omega) (by omega) w7
    clear cS hb7 c3 HB6
    go_wp2_with fail
    refine cM.mono ?_
    rintro e w8 ⟨b4, rfl, hn4, hb8⟩
    have HB8 : Hid (Below W1.heap.size W1 w8) := below2 HB7.out hb8
    have hz4 : b4.size ≤ 20010 := by have := hn4.s; omega
    obtain ⟨TS, eTS⟩ : ∃ T, ((t.ts.length : Int) :: ((t.ts.drop 0).map stZ).flatten) = T := ⟨_, rfl⟩
    have HTS : Hid (((t.ts.length : Int) :: ((t.ts.drop 0).map stZ).flatten) = TS) := eTS
    have HP4 : Hid (bh b4 (pL ((((t.ds.drop 0).map inZ).flatten).map u64 ++ TS)) = PP) := by show _ = _; rw [hn4.e, pL_c, ← eTS]; exact HP3.out
    clear cM hn4 hb8 c4 HB7 HP3 eTS
    go_wp2_with fail
    go_loopw [5, 6] (fun v q wr => ∃ (b : ByteArray) (i : Nat), i ≤ t.ds.length ∧ b.size ≤ 20010 + 20 * i ∧ v = .string b ∧ q = .int .i64 i ∧ Hid (Below W1.heap.size W1 wr) ∧ Hid (bh b (pL ((((t.ds.drop i).map inZ).flatten).map u64 ++ TS)) = PP)) (fun _ q _ => t.ds.length - (intOf q).toNat)
    case atStart => exact ⟨b4, 0, by omega, by omega, rfl, rfl, HB8, HP4⟩
    case round =>
      clear HB8 HP4
      obtain ⟨b, i, hi, hbs, rfl, rfl, HBR, HPR⟩ := hrel
      have c4 : wr.cell? ⟨w.heap.size, 4, none⟩ = some (.slice t.da t.ds.length t.dc) := cell_on (cell_of HN1.out 4) HBR.out
      by_cases hlt : i < t.ds.length
      · have hlt' : (i : Int) < (t.ds.length : Int) := by omega
        have hmx : (i : Int) + 1 ≤ 9223372036854775807 := by omega
        obtain ⟨bb, o, ea, r1⟩ := els_at InM.sz HL.out.D i hlt
        have hI := HL.out.Di _ (List.getElem_mem hlt)
        have hP := HPR.out
        rw [List.drop_eq_getElem_cons hlt, List.map_cons, List.flatten_cons] at hP
        obtain ⟨d, ed⟩ : ∃ d, t.ds[i] = d := ⟨_, rfl⟩
        rw [ed] at r1 hI hP
        obtain ⟨⟨k0, k1⟩, a0, a1⟩ := hI
        have huk : u64 d.k = d.k := by unfold u64; omega
        have HPQ : Hid (bh b (pL (d.k :: u64 d.a :: ((((t.ds.drop (i + 1)).map inZ).flatten).map u64 ++ TS))) = PP) := by
          show _ = _
          rw [← hP]
          unfold inZ
          simp [huk]
        have HR0 : Hid (W1.cell? ⟨bb, o + i * 2, none⟩ = some (.int .u8 d.k)) := by have := r1 0 _ rfl; rw [Nat.add_zero] at this; exact this
        have HR1 : Hid (W1.cell? ⟨bb, o + i * 2 + 1, none⟩ = some (.int .i64 d.a)) := r1 1 _ rfl
        have HC4 : Hid (W1.cell? ⟨w.heap.size, 4, none⟩ = some (.slice (some ⟨bb, o, none⟩) t.ds.length t.dc)) := by rw [← ea]; exact cell_of HN1.out 4
        rw [ea] at c4
        have x0 := cell_on HR0.out HBR.out
        have cK := num_any b d.k k0 (by omega) (by omega) wr
        clear ed ea r1 hP HPR huk
        go_wp2_with fail
        refine cK.mono ?_
        rintro e u1 ⟨c1, rfl, hn1, hb1⟩
        have HU1 : Hid (Below W1.heap.size W1 u1) := below2 HBR.out hb1
        have hc1 : c1.size ≤ b.size + 10 := hn1.s
        have HQ1 : Hid (bh c1 (pL (u64 d.a :: ((((t.ds.drop (i + 1)).map inZ).flatten).map u64 ++ TS))) = PP) := by show _ = _; rw [hn1.e, pL_c]; exact HPQ.out
        have x4 := cell_on HC4.out HU1.out
        have x1 := cell_on HR1.out HU1.out
        have cA := num64_any c1 d.a a0 a1 (by omega) u1
        clear cK hn1 hb1 c4 x0 HPQ
        go_wp2_with fail
        refine cA.mono ?_
        rintro e u2 ⟨c2, rfl, hn2, hb2⟩
        have HU2 : Hid (Below W1.heap.size W1 u2) := below2 HU1.out hb2
        have hc2 : c2.size ≤ c1.size + 10 := hn2.s
        have HQ2 : Hid (bh c2 (pL ((((t.ds.drop (i + 1)).map inZ).flatten).map u64 ++ TS)) = PP) := by show _ = _; rw [hn2.e, pL_c]; exact HQ1.out
        clear cA hn2 hb2 x4 x1
        go_wp2_with fail
        exact ⟨⟨c2, i + 1, hlt, by omega, rfl, rfl, HU2, HQ2⟩, by simp only [intOf]; omega⟩
      · obtain rfl : i = t.ds.length := by omega
        have hnot : ¬ (t.ds.length : Int) < (t.ds.length : Int) := by omega
        have HPN : Hid (bh b (pL ((t.ts.length : Int) :: ((t.ts.drop 0).map stZ).flatten)) = PP) := by
          show _ = _
          rw [HTS.out, ← HPR.out, List.drop_length]
          rfl
        have c5 : wr.cell? ⟨w.heap.size, 5, none⟩ = some (.slice t.ta t.ts.length t.tc) := cell_on (cell_of HN1.out 5) HBR.out
        have cM := num_any b t.ts.length (by omega) (by omega) (by omega) wr
        clear HPR HTS
        go_wp2_with fail
        refine cM.mono ?_
        rintro e w9 ⟨b5, rfl, hn5, hb9⟩
        have HB9 : Hid (Below W1.heap.size W1 w9) := below2 HBR.out hb9
        have hz5 : b5.size ≤ 200000 := by have := hn5.s; omega
        have HP5 : Hid (bh b5 (pL ((t.ts.drop 0).map stZ).flatten) = PP) := by show _ = _; rw [hn5.e, pL_c]; exact HPN.out
        clear cM hn5 hb9 c5 HBR HPN c4
        go_wp2_with fail
        go_loopw [5, 7] (fun v q wv => ∃ (b : ByteArray) (i : Nat), i ≤ t.ts.length ∧ b.size ≤ 200000 + 100000 * i ∧ v = .string b ∧ q = .int .i64 i ∧ Hid (Below W1.heap.size W1 wv) ∧ Hid (bh b (pL ((t.ts.drop i).map stZ).flatten) = PP)) (fun _ q _ => t.ts.length - (intOf q).toNat)
        case atStart => exact ⟨b5, 0, by omega, by omega, rfl, rfl, HB9, HP5⟩
        case round =>
          clear HB9 HP5
          obtain ⟨c, k, hk, hcs, rfl, rfl, HBK, HPK⟩ := hrel
          have c5 : wr.cell? ⟨w.heap.size, 5, none⟩ = some (.slice t.ta t.ts.length t.tc) := cell_on (cell_of HN1.out 5) HBK.out
          by_cases hkl : k < t.ts.length
          · have hkl' : (k : Int) < (t.ts.length : Int) := by omega
            have hmz : (k : Int) + 1 ≤ 9223372036854775807 := by omega
            obtain ⟨b1', o1, ea, r1⟩ := els_at StM.sz HL.out.T k hkl
            have hGX : StL W1 t.ts[k] := HL.out.Ti _ (List.getElem_mem hkl)
            have h1 := HFB.out _ (List.getElem_mem hkl)
            have h2 := HFW.out.2 _ (List.getElem_mem hkl)
            have h3 := HFR.out _ (List.getElem_mem hkl)
            have hP := HPK.out
            rw [List.drop_eq_getElem_cons hkl, List.map_cons, List.flatten_cons, pL_app, ← bh_bh] at hP
            obtain ⟨x, ex⟩ : ∃ x, t.ts[k] = x := ⟨_, rfl⟩
            rw [ex] at r1 hGX h1 h2 h3 hP
            have x0 : wr.cell? ⟨b1', o1 + k, none⟩ = some (.slice x.a x.gs.length x.c) := cell_on (by have := r1 0 _ rfl; rw [Nat.mul_one, Nat.add_zero] at this; exact this) HBK.out
            have cS := rstate_any' t x c wr (hGX.on HBK.out) h1.1 h1.2 h2 h3 HFW.out.1.2.2 (by omega)
            have hzz : (bh c (pL (stZ x))).size ≤ 200000 + 100000 * (k + 1) := by
              rw [bh_size]
              have := st_len h1.1 h1.2 h2 h3 HFW.out.1.2.2 (hGX.on HBK.out)
              omega
            obtain ⟨c', ec⟩ : ∃ q, bh c (pL (stZ x)) = q := ⟨_, rfl⟩
            rw [ec] at cS hzz hP
            have HPP := hid_of hP
            rw [ea] at c5
            clear ex ea r1 hGX h1 h2 h3 hP HPK ec
            go_wp2_with fail
            refine cS.mono ?_
            rintro e w10 ⟨rfl, hb10⟩
            have HB10 : Hid (Below W1.heap.size W1 w10) := below2 HBK.out hb10
            clear cS hb10 x0 c5
            go_wp2_with fail
            exact ⟨⟨c', k + 1, hkl, hzz, rfl, rfl, HB10, HPP⟩, by simp only [intOf]; omega⟩
          · obtain rfl : k = t.ts.length := by omega
            have hnot : ¬ (t.ts.length : Int) < (t.ts.length : Int) := by omega
            obtain rfl : c = PP := by rw [← HPK.out, List.drop_length]; exact (pL_nil c).symm
            have cF := HFF2.out wr
            go_wp2_with fail
            refine cF.mono ?_
            rintro e w11 ⟨rfl, hb11⟩
            have HB11 : Hid (Below W1.heap.size W1 w11) := below2 HBK.out hb11
            clear cF hb11
            go_wp2_with fail
            go_ret2
            exact ⟨rfl, below2 HB1.out HB11.out⟩
end Go.Proofs.YteedmmljahgpjaaGreatDoor

/-
  TableEncodes, walked.
-/
namespace Go.Proofs.YteedmmljahgpjaaGreatDoor
open Go.RowKit
set_option linter.unusedVariables false
set_option linter.unusedSimpArgs false
theorem gdZ_s {g g' : GdM} (k : SameG g g') : gdZ g = gdZ g' := by
  obtain ⟨k1, k2, k3, k4, k5⟩ := k
  unfold gdZ Sp.len
  rw [k1, k2, k5]
theorem gs_map : ∀ l l' : List GdM, GsS l l' → l.map gdZ = l'.map gdZ
  | [], [], _ => rfl
  | g :: l, g' :: l', k => by rw [List.map_cons, List.map_cons, gdZ_s k.cons.1, gs_map l l' k.cons.2]
  | [], _ :: _, k => by have := k.1; simp at this
  | _ :: _, [], k => by have := k.1; simp at this
theorem ts_map : ∀ l l' : List StM, TsS l l' → l.map stZ = l'.map stZ
  | [], [], _ => rfl
  | g :: l, g' :: l', k => by
    have h := k.cons.1
    rw [List.map_cons, List.map_cons, ts_map l l' k.cons.2]
    unfold stZ
    rw [h.1, gs_map g.gs g'.gs ⟨h.1, h.2⟩]
  | [], _ :: _, k => by have := k.1; simp at this
  | _ :: _, [], k => by have := k.1; simp at this
theorem enc_s {u t : TbM} (h : SameT u t) : encS u = encS t ∧ encE u = encE t := by
  have hc := check_s h
  obtain ⟨h1, h2, h3, h4, h5, h6, h7⟩ := h
  have ht : TsS u.ts t.ts := ⟨h6, fun j h3 h4 => h7 j h3 h4 h3⟩
  have hl : encL u = encL t := by
    unfold encL contZ hdZ
    rw [h1, h2, h3, h4, h5, h6, ts_map _ _ ht]
  unfold encS encE
  rw [hc, hl]
  exact ⟨rfl, rfl⟩
set_option maxRecDepth 100000 in
set_option maxHeartbeats 4000000 in
theorem encodes_any (t : TbM) (w : World) (hl : TbL w t) (hz : TbZ t) (htb : Tab w) : Calls Tryz.prog 5 #[.agg t.vals] w fun e w' => e = .returned (.bool true) ∧ Below w.heap.size w w' := by
  have hb1 := below_new w (.cells t.vals 26)
  have hn1 := heap_new w (.cells t.vals 26)
  obtain ⟨W1, e1⟩ : ∃ W, w.alloc (.cells t.vals 26) = W := ⟨_, rfl⟩
  have E1 : Hid (w.alloc (.cells t.vals 26) = W1) := e1
  rw [e1] at hb1 hn1
  have HB1 : Hid (Below w.heap.size w W1) := hb1
  have HN1 : Hid (W1.heap[w.heap.size]? = some (.cells t.vals 26 (0, 0))) := hn1
  have HL : Hid (TbL W1 t) := hl.on hb1
  have HT : Hid (Tab W1) := htb.on hb1
  have HZ : Hid (TbZ t) := hz
  have cA := awake_any W1 HT.out
  clear hb1 hn1 hl hz htb e1
  go_enter Tryz.func5, Tryz.ntmps5
  go_upto_region 1 with fail
  rw [E1.out]
  clear E1
  go_wp2_with fail
  refine cA.mono ?_
  rintro e w2 ⟨rfl, hb2⟩
  have HB2 : Hid (Below W1.heap.size W1 w2) := hb2
  have HN2 : Hid (w2.heap[w.heap.size]? = some (.cells t.vals 26 (0, 0))) := (hb2.block _ (hp_lt HN1.out)).trans HN1.out
  have cF := far_any t w2 (HL.out.on hb2) HZ.out
  clear cA hb2
  go_wp2_with (refine wpList_load_row rfl 26 (.tmp 1) rfl w.heap.size rfl 26 t.vals (0, 0) _ HN2.out Tryz.underlying26 rfl size26' ?_)
  refine cF.mono ?_
  rintro e w3 ⟨b, rfl, hsm, hb3⟩
  have HB3 : Hid (Below W1.heap.size W1 w3) := below2 HB2.out hb3
  have HN3 : Hid (w3.heap[w.heap.size]? = some (.cells t.vals 26 (0, 0))) := (HB3.out.block _ (hp_lt HN1.out)).trans HN1.out
  have HSM : Hid (b = false → SmT t) := hsm
  clear cF hb3 HB2 HN2 hsm
  cases b with
  | true =>
    go_wp2_with fail
    go_ret
    exact ⟨rfl, below2 HB1.out HB3.out⟩
  | false =>
    have cC := copy_any t w3 (HL.out.on HB3.out) (HSM.out rfl)
    go_wp2_with (refine wpList_load_row rfl 26 (.tmp 1) rfl w.heap.size rfl 26 t.vals (0, 0) _ HN3.out Tryz.underlying26 rfl size26' ?_)
    refine cC.mono ?_
    rintro e w4 ⟨u, rfl, hu, hsu, hb4⟩
    have HZ4 : Hid ((w4.alloc (.cells tb0 26)).heap[w4.heap.size]? = some (.cells tb0 26 (0, 0))) := heap_new _ _
    have hbx : Below w4.heap.size w4 ((w4.alloc (.cells tb0 26)).setRow w4.heap.size u.vals) := below_row (below_new _ _) (Nat.le_refl _) _
    have HB5 : Hid (Below W1.heap.size W1 ((w4.alloc (.cells tb0 26)).setRow w4.heap.size u.vals)) := below2 (below2 HB3.out hb4) hbx
    have HN5 : Hid (((w4.alloc (.cells tb0 26)).setRow w4.heap.size u.vals).heap[w4.heap.size]? = some (.cells u.vals 26 (0, 0))) := setRow_heap _ _ _ _ _ _ HZ4.out
    have HU5 : Hid (TbL ((w4.alloc (.cells tb0 26)).setRow w4.heap.size u.vals) u) := hu.on hbx
    have HSU : Hid (SameT u t) := hsu
    clear cC hb4 hbx hu hsu
    go_upto_region 6 with (refine wpList_store_row rfl 26 (.tmp 5) (.tmp 21) rfl w4.heap.size u.vals rfl rfl 26 tb0 HZ4.out size26' rfl (allTb u) ?_)
    rw [show (w4.alloc (.cells #[.string ⟨#[]⟩, .slice none 0 0, .int .i64 0, .slice none 0 0, .slice none 0 0, .slice none 0 0] 26)) = w4.alloc (.cells tb0 26) from rfl]
    generalize World.setRow _ _ _ = W5 at HB5 HN5 HU5 ⊢
    generalize w4.heap.size = G5 at HN5 ⊢
    clear HZ4 HN3 HB3
    have cK := encode_any u W5 HU5.out (HT.out.on HB5.out)
    rw [(enc_s HSU.out).1, (enc_s HSU.out).2] at cK
    have HCD : Hid (∀ v, TbL v t → Calls Tryz.prog 17 #[.agg t.vals] v fun e w' => e = .returned (.tuple #[.string (encS t), .int .i64 (encE t)]) ∧ Below v.heap.size v w') := fun v hv => rencode_any t v hv
    obtain ⟨ES, eES⟩ : ∃ q, encS t = q := ⟨_, rfl⟩
    obtain ⟨E, eE⟩ : ∃ q, encE t = q := ⟨_, rfl⟩
    rw [eES, eE] at cK HCD
    clear eE eES
    go_wp2_with (refine wpList_load_row rfl 26 (.tmp 5) rfl G5 rfl 26 u.vals (0, 0) _ HN5.out Tryz.underlying26 rfl size26' ?_)
    refine cK.mono ?_
    rintro e w6 ⟨rfl, hb6⟩
    have HB6 : Hid (Below W1.heap.size W1 w6) := below2 HB5.out hb6
    have HB56 : Hid (Below W5.heap.size W5 w6) := hb6
    have HT6 : Hid (w6.heap[w.heap.size]? = some (.cells t.vals 26 (0, 0))) := (HB6.out.block _ (hp_lt HN1.out)).trans HN1.out
    clear cK hb6
    go_wp2_with (refine wpList_load_row rfl 26 (.tmp 1) rfl w.heap.size rfl 26 t.vals (0, 0) _ HT6.out Tryz.underlying26 rfl size26' ?_)
    refine (HCD.out w6 (HL.out.on HB6.out)).mono ?_
    rintro e w7 ⟨rfl, hb7⟩
    have HB7 : Hid (Below W1.heap.size W1 w7) := below2 HB6.out hb7
    have HB57 : Hid (Below W5.heap.size W5 w7) := below2 HB56.out hb7
    have HN7 : Hid (w7.heap[G5]? = some (.cells u.vals 26 (0, 0))) := (HB57.out.block _ (hp_lt HN5.out)).trans HN5.out
    have HT7 : Hid (w7.heap[w.heap.size]? = some (.cells t.vals 26 (0, 0))) := (HB7.out.block _ (hp_lt HN1.out)).trans HN1.out
    have cS := sameTable_any u t w7 (HU5.out.on HB57.out) (HL.out.on HB7.out)
    clear hb7 HT6
    go_wp2_with (first | (refine wpList_load_row rfl 26 (.tmp 5) rfl G5 rfl 26 u.vals (0, 0) _ HN7.out Tryz.underlying26 rfl size26' ?_) | (refine wpList_load_row rfl 26 (.tmp 1) rfl w.heap.size rfl 26 t.vals (0, 0) _ HT7.out Tryz.underlying26 rfl size26' ?_))
    refine cS.mono ?_
    rintro e w8 ⟨b, rfl, hb, hb8⟩
    obtain rfl : b = true := hb.2 HSU.out
    have HB8 : Hid (Below W1.heap.size W1 w8) := below2 HB7.out hb8
    clear cS hb hb8 HN7 HT7
    go_wp2_with fail
    go_ret
    exact ⟨by simp, below2 HB1.out HB8.out⟩
end Go.Proofs.YteedmmljahgpjaaGreatDoor
