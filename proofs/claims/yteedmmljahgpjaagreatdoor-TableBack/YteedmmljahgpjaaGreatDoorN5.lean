import Derived.Test.YteedmmljahgpjaaGreatDoorN4
import Derived.Test.YteedmmljahgpjaaGreatDoorN3
import Derived.Test.YteedmmljahgpjaaGreatDoorM27
/-
  A table's bytes are read as that table again.
-/
namespace Go.Proofs.YteedmmljahgpjaaGreatDoor
open Go.RowKit
set_option linter.unusedVariables false
set_option linter.unusedSimpArgs false
theorem rs_eq {l m m' : List UInt8} {p : Int} (h : Rs l p m) (e : m = m') : Rs l p m' := e ▸ h
theorem gd_mask {t : TbM} {g : GdM} (h : gdD t g = 0) : (readsN t.ds g.wh).1 = g.fd ∧ (readsN t.ds g.wh).2 = g.rg := by
  unfold gdD at h
  split at h
  · split at h
    · rename_i e1
      split at h
      · rename_i e2
        exact ⟨by simpa using e1, by simpa using e2⟩
      · cases h
    · cases h
  · rename_i e
    rw [h] at e
    simp at e
theorem rules_rs {l m : List UInt8} {t : TbM} (hz : TzB t) : ∀ (gs : List GdM) (q : RS) (p z : Int), gdsN t.sl t.rs.length t.ts.length q.sp gs = some z → gdsD t gs = 0 → (∀ g ∈ gs, GdB g) → Rs l p (pL (gs.map gdZ).flatten ++ m) →
    ∃ p', listR (ruleR t.ds l) gs.length q p = some (gs.map plG, spR q (z - q.sp), p') ∧ Rs l p' m
  | [], q, p, z, hl, _, _, h => by
    simp [gdsN] at hl
    subst hl
    refine ⟨p, ?_, h⟩
    simp only [List.length_nil, listR]
    rw [Int.sub_self, spR_0]
    rfl
  | g :: gs, q, p, z, hl, hd, hB, h => by
    simp only [gdsN] at hl
    obtain ⟨y, hy1, hy2⟩ := Option.bind_eq_some_iff.1 hl
    simp only [gdsD] at hd
    split at hd
    · rename_i e0
      have hm := gd_mask (by simpa using e0)
      rw [List.map_cons, List.flatten_cons, pL_app, List.append_assoc] at h
      obtain ⟨p1, e1, h1⟩ := rule_rs hz hy1 (hB g (List.mem_cons_self ..)) hm.1 hm.2 h
      obtain ⟨p2, e2, h2⟩ := rules_rs hz gs (spR q (y - q.sp)) p1 z (by rw [spR_sp, show q.sp + (y - q.sp) = y by omega]; exact hy2) hd (fun x hx => hB x (List.mem_cons_of_mem _ hx)) h1
      refine ⟨p2, ?_, h2⟩
      simp only [List.length_cons, listR, e1, Option.bind_some]
      rw [e2]
      simp only [Option.map_some, spR_spR, spR_sp, List.map_cons]
      congr 4
      omega
    · rename_i e0
      rw [hd] at e0
      simp at e0
theorem state_rs {l m : List UInt8} {t : TbM} (hz : TzB t) {x : StM} {q : RS} {p z : Int} (h12 : x.gs.length ≤ 12) (hl : gdsN t.sl t.rs.length t.ts.length q.sp x.gs = some z) (hd : gdsD t x.gs = 0) (hB : ∀ g ∈ x.gs, GdB g) (h : Rs l p (pL (stZ x) ++ m)) :
    ∃ p', stateR t.ds l q p = some (x.gs.map plG, spR q (z - q.sp), p') ∧ Rs l p' m := by
  have e : pL (stZ x) ++ m = W.put1 ((x.gs.length : Int)).toNat ++ (pL (x.gs.map gdZ).flatten ++ m) := by
    unfold stZ pL
    simp
  rw [e] at h
  obtain ⟨p1, e1, h1⟩ := upto_rs (k := 12) h (by omega) (by omega) (by omega)
  obtain ⟨p2, e2, h2⟩ := rules_rs hz x.gs q p1 z hl hd hB h1
  refine ⟨p2, ?_, h2⟩
  unfold stateR
  simp only [e1, Option.bind_some, Int.toNat_natCast, e2]
theorem states_rs {l m : List UInt8} {t : TbM} (hz : TzB t) : ∀ (ts : List StM) (q : RS) (p z : Int), stsN t.sl t.rs.length t.ts.length q.sp ts = some z → stsD t ts = 0 → (∀ s ∈ ts, ∀ g ∈ s.gs, GdB g) → Rs l p (pL (ts.map stZ).flatten ++ m) →
    ∃ p', listR (stateR t.ds l) ts.length q p = some (ts.map (fun s => s.gs.map plG), spR q (z - q.sp), p') ∧ Rs l p' m
  | [], q, p, z, hl, _, _, h => by
    simp [stsN] at hl
    subst hl
    refine ⟨p, ?_, h⟩
    simp only [List.length_nil, listR]
    rw [Int.sub_self, spR_0]
    rfl
  | x :: ts, q, p, z, hl, hd, hB, h => by
    simp only [stsN] at hl
    split at hl
    · cases hl
    · rename_i h12
      obtain ⟨y, hy1, hy2⟩ := Option.bind_eq_some_iff.1 hl
      simp only [stsD] at hd
      split at hd
      · rename_i e0
        rw [List.map_cons, List.flatten_cons, pL_app, List.append_assoc] at h
        obtain ⟨p1, e1, h1⟩ := state_rs hz (by omega) hy1 (by simpa using e0) (hB x (List.mem_cons_self ..)) h
        obtain ⟨p2, e2, h2⟩ := states_rs hz ts (spR q (y - q.sp)) p1 z (by rw [spR_sp, show q.sp + (y - q.sp) = y by omega]; exact hy2) hd (fun x hx => hB x (List.mem_cons_of_mem _ hx)) h1
        refine ⟨p2, ?_, h2⟩
        simp only [List.length_cons, listR, e1, Option.bind_some]
        rw [e2]
        simp only [Option.map_some, spR_spR, spR_sp, List.map_cons]
        congr 4
        omega
      · rename_i e0
        rw [hd] at e0
        simp at e0
theorem txt_rs {l m : List UInt8} {p : Int} {x : ByteArray} (hx : x.size ≤ 65536) (h : Rs l p (W.text1 x.data.toList ++ m)) : ∃ p', txtR l p = some (x, p') ∧ Rs l p' m := by
  obtain ⟨pre, rfl, rfl⟩ := h
  obtain ⟨t1, t2, t3⟩ := W.text_put pre x.data.toList m (by rw [W.len_of]; exact hx)
  rw [List.append_assoc] at t1 t2 t3
  refine ⟨((pre ++ W.text1 x.data.toList).length : Int), ?_, ⟨pre ++ W.text1 x.data.toList, by rw [List.append_assoc], rfl⟩⟩
  unfold txtR
  rw [if_pos t1, t2, t3, W.list_bytes]
def tpOf (t : TbM) : TbP := ⟨t.x, t.rs, t.sl, t.cs, t.ds, t.ts.map (fun s => s.gs.map plG)⟩
theorem read_enc {t : TbM} (h : checkE t = 0) (hr : ∀ n ∈ t.rs, I64 n) (hc : ∀ n ∈ t.cs, I64 n) : readR (encL t) 0 = some (tpOf t, ((encL t).length : Int)) := by
  have hins := ins_a h
  have hf : formB t = true := check_form (by rw [h]; rfl)
  have hfb := form_b hf
  rw [checkD_eq, hf, if_pos rfl] at h
  unfold formB at hf
  simp only [Bool.and_eq_true] at hf
  obtain ⟨⟨hnm, hsz⟩, he⟩ := hf
  unfold sizesB withinB at hsz
  simp at hsz
  unfold nameB at hnm
  simp at hnm
  have hx16 : t.x.size ≤ 16 := by omega
  have hz : TzB t := ⟨by omega, by omega, by omega⟩
  unfold endB at he
  split at he
  · rename_i q hq
    have e0 : encL t = W.text1 t.x.data.toList ++ (W.put1 ((t.rs.length : Int)).toNat ++ ((t.rs.map (fun n => W.put1 (W.zigN n).toNat)).flatten ++ (W.put1 t.sl.toNat ++ (W.put1 ((t.cs.length : Int)).toNat ++ ((t.cs.map (fun n => W.put1 (W.zigN n).toNat)).flatten ++ (W.put1 ((t.ds.length : Int)).toNat ++ (pL (((t.ds.map inZ).flatten).map u64) ++ (W.put1 ((t.ts.length : Int)).toNat ++ (pL (t.ts.map stZ).flatten ++ []))))))))) := by
      unfold encL
      rw [← pL_put]
      unfold contZ hdZ
      simp only [pL_app, sg_b, List.append_assoc, Int.toNat_natCast, List.append_nil]
      simp [pL]
    have h0 : Rs (encL t) 0 (encL t) := ⟨[], rfl, rfl⟩
    have h0' := rs_eq h0 e0
    obtain ⟨p1, e1, h1⟩ := txt_rs (by omega) h0'
    obtain ⟨p2, e2, h2⟩ := upto_rs (k := 12) h1 (by omega) (by omega) (by omega)
    obtain ⟨p3, e3, h3⟩ := ints_rs t.rs p2 hr h2
    obtain ⟨p4, e4, h4⟩ := upto_rs (k := 4) h3 (by omega) (by omega) (by omega)
    obtain ⟨p5, e5, h5⟩ := upto_rs (k := 1024) h4 (by omega) (by omega) (by omega)
    obtain ⟨p6, e6, h6⟩ := ints_rs t.cs p5 hc h5
    obtain ⟨p7, e7, h7⟩ := upto_rs (k := 4096) h6 (by omega) (by omega) (by omega)
    obtain ⟨p8, e8, h8⟩ := ins_rs t.ds p7 hins h7
    obtain ⟨p9, e9, h9⟩ := upto_rs (k := 12) h8 (by omega) (by omega) (by omega)
    obtain ⟨p10, e10, h10⟩ := states_rs hz t.ts q00 p9 q hq h (fun s hs => (hfb s hs).2) h9
    have hp : p10 = ((encL t).length : Int) := by
      obtain ⟨pre, e11, e12⟩ := h10
      rw [e12, e11, List.append_nil]
    unfold readR
    simp only [e1, Option.bind_some, e2, Int.toNat_natCast, e3, e4, e5, e6, e7, e8, e9, e10, Option.map_some, hp]
    rfl
  · cases he
end Go.Proofs.YteedmmljahgpjaaGreatDoor

/-
  TableBack, walked.
-/
namespace Go.Proofs.YteedmmljahgpjaaGreatDoor
open Go.RowKit
set_option linter.unusedVariables false
set_option linter.unusedSimpArgs false
theorem pL_len2 : ∀ l : List Int, (∀ n ∈ l, n ≤ 16383) → (pL l).length ≤ 2 * l.length
  | [], _ => Nat.le_refl _
  | n :: l, h => by
    have h1 := pL_len2 l (fun m hm => h m (List.mem_cons_of_mem _ hm))
    have h2 := W.put1_len 1 n.toNat (by have := h n (List.mem_cons_self ..); omega)
    have e : pL (n :: l) = W.put1 n.toNat ++ pL l := rfl
    rw [e, List.length_append, List.length_cons]
    omega
theorem flat_b {α : Type} {f : α → List UInt8} {c : Nat} : ∀ l : List α, (∀ a ∈ l, (f a).length ≤ c) → ((l.map f).flatten).length ≤ c * l.length
  | [], _ => Nat.zero_le _
  | a :: l, h => by
    have h1 := flat_b l (fun b hb => h b (List.mem_cons_of_mem _ hb))
    have h2 := h a (List.mem_cons_self ..)
    rw [List.map_cons, List.flatten_cons, List.length_append, List.length_cons, Nat.mul_add, Nat.mul_one]
    omega
theorem pL_flat : ∀ l : List (List Int), pL l.flatten = (l.map pL).flatten
  | [] => rfl
  | a :: l => by rw [List.flatten_cons, pL_app, List.map_cons, List.flatten_cons, pL_flat l]
theorem st_sm {t : TbM} {x : StM} (hz : TzB t) (h12 : x.gs.length ≤ 12) (hB : ∀ g ∈ x.gs, GdB g) (hR : ∀ g ∈ x.gs, ∀ r ∈ g.rs, rowB t.sl t.rs.length t.ts.length r = true) : (pL (stZ x)).length ≤ 1394 := by
  have h1 := pL_len2 (stZ x) (fun n hn => by
    unfold stZ at hn
    rcases List.mem_cons.1 hn with rfl | hn
    · omega
    · obtain ⟨y, hy, hn⟩ := List.mem_flatten.1 hn
      obtain ⟨g, hg, rfl⟩ := List.mem_map.1 hy
      have hgB := hB g hg
      unfold gdZ at hn
      rcases List.mem_append.1 hn with hn | hn
      · have h1 := hgB.1
        unfold LenW at h1
        have h2 := hgB.2.1
        simp at hn
        rcases hn with rfl | rfl <;> omega
      · obtain ⟨z, hz', hn⟩ := List.mem_flatten.1 hn
        obtain ⟨r, hr, rfl⟩ := List.mem_map.1 hz'
        obtain ⟨⟨k0, k1⟩, ⟨q0, q1⟩, ⟨i0, i1⟩, _⟩ := row_kio hz (hR g hg r hr)
        unfold rowZ at hn
        rcases List.mem_append.1 hn with hn | hn
        · simp at hn
          rcases hn with rfl | rfl | rfl <;> omega
        · obtain ⟨y, hy, rfl⟩ := List.mem_map.1 hn
          have := hgB.2.2 r hr y hy
          unfold LenW at this
          omega)
  have h2 : (stZ x).length ≤ 1 + 58 * x.gs.length := by
    unfold stZ
    rw [List.length_cons]
    have := flat_le (f := gdZ) (c := 58) x.gs (fun g hg => by
      unfold gdZ
      have h3 := flat_le (f := rowZ) (c := 7) g.rs (fun r _ => rowZ_le r)
      have h4 := (hB g hg).2.1
      rw [List.length_append]
      simp only [List.length_cons, List.length_nil]
      omega)
    omega
  omega
theorem enc_len {t : TbM} (h : checkE t = 0) (hr : ∀ n ∈ t.rs, I64 n) (hc : ∀ n ∈ t.cs, I64 n) : (encL t).length ≤ 65536 := by
  have hins := ins_a h
  have hf : formB t = true := check_form (by rw [h]; rfl)
  have hfb := form_b hf
  have hfr := form_rows hf
  unfold formB at hf
  simp only [Bool.and_eq_true] at hf
  obtain ⟨⟨hnm, hsz⟩, he⟩ := hf
  unfold sizesB withinB at hsz
  simp at hsz
  unfold nameB at hnm
  simp at hnm
  have hx16 : t.x.size ≤ 16 := by omega
  have hz : TzB t := ⟨by omega, by omega, by omega⟩
  have g1 := W.text1_size t.x.data.toList (by rw [W.len_of]; omega)
  rw [W.len_of] at g1
  have g2 := pL_len (sgZ t.rs) (sg_le hr (by omega))
  have g3 := pL_len (sgZ t.cs) (sg_le hc (by omega))
  have s1 : (sgZ t.rs).length = t.rs.length + 1 := by unfold sgZ; simp
  have s2 : (sgZ t.cs).length = t.cs.length + 1 := by unfold sgZ; simp
  have g4 := pL_len2 [t.sl] (fun n hn => by rw [List.mem_singleton.1 hn]; omega)
  have g5 := pL_len2 [(t.ds.length : Int)] (fun n hn => by rw [List.mem_singleton.1 hn]; omega)
  have g6 := pL_len2 [(t.ts.length : Int)] (fun n hn => by rw [List.mem_singleton.1 hn]; omega)
  have g7 := pL_len2 (((t.ds.map inZ).flatten).map u64) (fun n hn => by
    obtain ⟨k, hk, rfl⟩ := List.mem_map.1 hn
    obtain ⟨y, hy, hk⟩ := List.mem_flatten.1 hk
    obtain ⟨d, hd, rfl⟩ := List.mem_map.1 hy
    have := hins d hd
    unfold inZ at hk
    simp at hk
    unfold u64
    rcases hk with rfl | rfl <;> omega)
  have s7 : (((t.ds.map inZ).flatten).map u64).length ≤ 2 * t.ds.length := by
    rw [List.length_map]
    exact flat_le (f := inZ) (c := 2) t.ds (fun d _ => Nat.le_refl _)
  have g8 : (pL (t.ts.map stZ).flatten).length ≤ 1394 * t.ts.length := by
    rw [pL_flat, List.map_map]
    exact flat_b (f := fun s => pL (stZ s)) (c := 1394) t.ts (fun s hs => st_sm hz (hfb s hs).1 (hfb s hs).2 (hfr s hs))
  unfold encL
  rw [← pL_put]
  unfold contZ hdZ
  simp only [pL_app, List.length_append]
  simp only [List.length_singleton] at g4 g5 g6
  omega
theorem un_enc {t : TbM} (h : checkE t = 0) (hr : ∀ n ∈ t.rs, I64 n) (hc : ∀ n ∈ t.cs, I64 n) : unR (encS t) = some (tpOf t) ∧ encE t = 0 ∧ (encS t).size ≤ 1099511627776 := by
  have hl := enc_len h hr hc
  have hfS : W.frS (encL t) = W.frameL (encL t) := by unfold W.frS; rw [if_neg (by omega)]
  have hfE : W.frE (encL t) = 0 := by unfold W.frE; rw [if_neg (by omega)]
  obtain ⟨t1, t2, t3⟩ := W.un_put [] (encL t) [] hl
  simp only [List.nil_append, List.append_nil, List.length_nil] at t1 t2 t3
  have he : encS t = W.bytes (W.frameL (encL t)) := by unfold encS; rw [h, hfS]; rfl
  have hE : encE t = 0 := by unfold encE; rw [h, hfE]; rfl
  have hd : (encS t).data.toList = W.frameL (encL t) := by rw [he]; exact W.bytes_list _
  have hs : (encS t).size = (W.frameL (encL t)).length := by rw [he, W.bytes_size]
  refine ⟨?_, hE, ?_⟩
  · unfold unR
    rw [hd, hs]
    have t1' : W.unE (W.frameL (encL t)) 0 = 0 := t1
    have t2' : W.unS (W.frameL (encL t)) 0 = encL t := t2
    have t3' : W.unP (W.frameL (encL t)) 0 = ((W.frameL (encL t)).length : Int) := t3
    rw [if_pos t1', t2', t3', read_enc h hr hc]
    simp
  · rw [hs]
    unfold W.frameL
    have := W.text1_size (encL t) (by omega)
    rw [List.length_append]
    have h4 : (W.le4 (W.sumL (encL t))).length = 4 := by rw [← W.bytes_size]; exact W.le4_size _
    omega
theorem map_gs : ∀ l l' : List GdM, l.map plG = l'.map plG → GsS l l'
  | [], [], _ => ⟨rfl, fun j h => absurd h (Nat.not_lt_zero _)⟩
  | g :: l, g' :: l', h => by
    rw [List.map_cons, List.map_cons] at h
    injection h with h1 h2
    have k := map_gs l l' h2
    unfold plG at h1
    injection h1 with a b c d
    refine ⟨by rw [List.length_cons, List.length_cons, k.1], fun j h3 h4 => ?_⟩
    cases j with
    | zero => exact ⟨by show g.wh.f = g'.wh.f; rw [a], by show g.wh.t = g'.wh.t; rw [a], b, c, d⟩
    | succ j => exact k.2 j (by simpa using h3) (by simpa using h4)
  | [], _ :: _, h => by simp at h
  | _ :: _, [], h => by simp at h
theorem map_ts : ∀ l l' : List StM, l.map (fun s => s.gs.map plG) = l'.map (fun s => s.gs.map plG) → TsS l l'
  | [], [], _ => ⟨rfl, fun j h => absurd h (Nat.not_lt_zero _)⟩
  | g :: l, g' :: l', h => by
    rw [List.map_cons, List.map_cons] at h
    injection h with h1 h2
    have k := map_ts l l' h2
    have k2 := map_gs g.gs g'.gs h1
    refine ⟨by rw [List.length_cons, List.length_cons, k.1], fun j h3 h4 => ?_⟩
    cases j with
    | zero => exact ⟨k2.1, k2.2⟩
    | succ j => exact k.2 j (by simpa using h3) (by simpa using h4)
  | [], _ :: _, h => by simp at h
  | _ :: _, [], h => by simp at h
theorem is_same {u t : TbM} (h : Is (tpOf t) u) : SameT u t := by
  obtain ⟨h1, h2, h3, h4, h5, h6⟩ := h
  have k := map_ts u.ts t.ts h6
  exact ⟨h1, h3, h2, h4, h5, k.1, fun i a b _ => k.2 i a b⟩
theorem un_none : unR ⟨#[]⟩ = none := by kernel_rfl
set_option maxRecDepth 100000 in
set_option maxHeartbeats 4000000 in
theorem back_any (t : TbM) (w : World) (hl : TbL w t) (hz : TbZ t) (htb : Tab w) : Calls Tryz.prog 7 #[.agg t.vals] w fun e w' => e = .returned (.bool true) ∧ Below w.heap.size w w' := by
  have hb1 := below_new w (.cells t.vals 26)
  have hn1 := heap_new w (.cells t.vals 26)
  obtain ⟨W1, e1⟩ : ∃ W, w.alloc (.cells t.vals 26) = W := ⟨_, rfl⟩
  have E1 : Hid (w.alloc (.cells t.vals 26) = W1) := e1
  rw [e1] at hb1 hn1
  have HB1 : Hid (Below w.heap.size w W1) := hb1
  have HN1 : Hid (W1.heap[w.heap.size]? = some (.cells t.vals 26 (0, 0))) := hn1
  have HL : Hid (TbL W1 t) := hl.on hb1
  have HT : Hid (Tab W1) := htb.on hb1
  have HZ : Hid (TbZ t) := hz
  have cA := awake_any W1 HT.out
  clear hb1 hn1 hl hz htb e1
  go_enter Tryz.func7, Tryz.ntmps7
  go_upto_region 1 with fail
  rw [E1.out]
  clear E1
  go_wp2_with fail
  refine cA.mono ?_
  rintro e w2 ⟨rfl, hb2⟩
  have HB2 : Hid (Below W1.heap.size W1 w2) := hb2
  have HN2 : Hid (w2.heap[w.heap.size]? = some (.cells t.vals 26 (0, 0))) := (hb2.block _ (hp_lt HN1.out)).trans HN1.out
  have cF := far_any t w2 (HL.out.on hb2) HZ.out
  clear cA hb2
  go_wp2_with (refine wpList_load_row rfl 26 (.tmp 1) rfl w.heap.size rfl 26 t.vals (0, 0) _ HN2.out Tryz.underlying26 rfl size26' ?_)
  refine cF.mono ?_
  rintro e w3 ⟨b, rfl, hsm, hb3⟩
  have HB3 : Hid (Below W1.heap.size W1 w3) := below2 HB2.out hb3
  have HN3 : Hid (w3.heap[w.heap.size]? = some (.cells t.vals 26 (0, 0))) := (HB3.out.block _ (hp_lt HN1.out)).trans HN1.out
  have HSM : Hid (b = false → SmT t) := hsm
  clear cF hb3 HB2 HN2 hsm
  cases b with
  | true =>
    go_wp2_with fail
    go_ret
    exact ⟨rfl, below2 HB1.out HB3.out⟩
  | false =>
    have cK := check_any t w3 (HL.out.on HB3.out) (HT.out.on HB3.out)
    have HCE : Hid (∀ v, TbL v t → Tab v → Calls Tryz.prog 16 #[.agg t.vals] v fun e w' => e = .returned (.tuple #[.string (encS t), .int .i64 (encE t)]) ∧ Below v.heap.size v w') := fun v hv ht => encode_any t v hv ht
    have HCD : Hid (∀ v, TbL v t → Calls Tryz.prog 13 #[.agg t.vals] v fun e w' => e = .returned (.int .i64 (checkE t)) ∧ Below v.heap.size v w') := fun v hv => rcheck_any t v hv
    obtain ⟨ES, eES⟩ : ∃ q, encS t = q := ⟨_, rfl⟩
    have HDC : Hid (∀ v, Tab v → Calls Tryz.prog 18 #[.string ES] v fun e w' => (checkE t = 0 → ∃ u nb, e = .returned (.tuple #[.agg u.vals, .int .i64 0]) ∧ Bxs v w' u nb ∧ SameT u t) ∧ (checkE t ≠ 0 → e = .returned (.tuple #[.agg tb0, .int .i64 194])) ∧ Below v.heap.size v w') := fun v hv => by
      by_cases h0 : checkE t = 0
      · obtain ⟨h1, h2, h3⟩ := un_enc h0 HL.out.Ri HL.out.Ci
        rw [eES] at h1 h3
        refine (decode_any ES v h3 hv).mono ?_
        intro e w' h
        rw [h1] at h
        obtain ⟨u, nb, k1, k2, k3⟩ := h
        have hs := is_same k1
        rw [check_s hs, h0] at k2
        exact ⟨fun _ => ⟨u, nb, k2.1, k2.2, hs⟩, fun h => absurd h0 h, k3⟩
      · have hz : ES = ⟨#[]⟩ := by
          rw [← eES]
          unfold encS
          rw [if_neg (by simpa using h0)]
        subst hz
        refine (decode_any _ v (by decide) hv).mono ?_
        intro e w' h
        rw [un_none] at h
        exact ⟨fun h => absurd h h0, fun _ => h.1, h.2⟩
    have HEE : Hid (encE t = checkE t ∧ (checkE t ≠ 0 → ES = ⟨#[]⟩)) := by
      by_cases h0 : checkE t = 0
      · exact ⟨by rw [(un_enc h0 HL.out.Ri HL.out.Ci).2.1, h0], fun h => absurd h0 h⟩
      · exact ⟨by unfold encE; rw [if_neg (by simpa using h0)], fun _ => by rw [← eES]; unfold encS; rw [if_neg (by simpa using h0)]⟩
    rw [HEE.out.1, eES] at HCE
    obtain ⟨E, eE⟩ : ∃ q, checkE t = q := ⟨_, rfl⟩
    have HES : Hid (E ≠ 0 → ES = ⟨#[]⟩) := by rw [← eE]; exact HEE.out.2
    rw [eE] at cK HCD HCE HDC
    clear eE eES HEE
    go_wp2_with (refine wpList_load_row rfl 26 (.tmp 1) rfl w.heap.size rfl 26 t.vals (0, 0) _ HN3.out Tryz.underlying26 rfl size26' ?_)
    refine cK.mono ?_
    rintro e w4 ⟨rfl, hb4⟩
    have HB4 : Hid (Below W1.heap.size W1 w4) := below2 HB3.out hb4
    have HN4 : Hid (w4.heap[w.heap.size]? = some (.cells t.vals 26 (0, 0))) := (HB4.out.block _ (hp_lt HN1.out)).trans HN1.out
    clear cK hb4 HB3 HN3
    go_wp2_with (refine wpList_load_row rfl 26 (.tmp 1) rfl w.heap.size rfl 26 t.vals (0, 0) _ HN4.out Tryz.underlying26 rfl size26' ?_)
    refine (HCE.out w4 (HL.out.on HB4.out) (HT.out.on HB4.out)).mono ?_
    rintro e w5 ⟨rfl, hb5⟩
    have HB5 : Hid (Below W1.heap.size W1 w5) := below2 HB4.out hb5
    have HN5 : Hid (w5.heap[w.heap.size]? = some (.cells t.vals 26 (0, 0))) := (HB5.out.block _ (hp_lt HN1.out)).trans HN1.out
    clear hb5 HB4 HN4
    have d0 : w5.cell? ⟨w.heap.size, 0, none⟩ = some (.string t.x) := cell_of HN5.out 0
    have d1 : w5.cell? ⟨w.heap.size, 1, none⟩ = some (.slice t.ra t.rs.length t.rc) := cell_of HN5.out 1
    have d2 : w5.cell? ⟨w.heap.size, 2, none⟩ = some (.int .i64 t.sl) := cell_of HN5.out 2
    have d3 : w5.cell? ⟨w.heap.size, 3, none⟩ = some (.slice t.ca t.cs.length t.cc) := cell_of HN5.out 3
    have d4 : w5.cell? ⟨w.heap.size, 4, none⟩ = some (.slice t.da t.ds.length t.dc) := cell_of HN5.out 4
    have d5 : w5.cell? ⟨w.heap.size, 5, none⟩ = some (.slice t.ta t.ts.length t.tc) := cell_of HN5.out 5
    have hEE : (E != E) = false := by simp
    have cD := HCD.out w5 (HL.out.on HB5.out)
    unfold TbM.vals at cD
    go_wp2_with fail
    refine cD.mono ?_
    rintro e w6 ⟨rfl, hb6⟩
    have HB6 : Hid (Below W1.heap.size W1 w6) := below2 HB5.out hb6
    clear cD hb6 d0 d1 d2 d3 d4 d5 HB5 HN5
    go_wp2_with fail
    refine (HDC.out w6 (HT.out.on HB6.out)).mono ?_
    rintro e w7 ⟨h1, h2, hb7⟩
    have HB7 : Hid (Below W1.heap.size W1 w7) := below2 HB6.out hb7
    cases hE : (E != 0) with
    | true =>
      have hne : E ≠ 0 := by simpa using hE
      obtain rfl := h2 hne
      obtain rfl := HES.out hne
      have HZ7 : Hid ((w7.alloc (.cells tb0 26)).heap[w7.heap.size]? = some (.cells tb0 26 (0, 0))) := heap_new _ _
      have HB8 : Hid (Below W1.heap.size W1 ((w7.alloc (.cells tb0 26)).setRow w7.heap.size tb0)) := below2 HB7.out (below_row (below_new _ _) (Nat.le_refl _) _)
      clear h1 h2 hb7 hne
      go_upto_region 10 with (refine wpList_store_row rfl 26 (.tmp 8) (.tmp 39) rfl w7.heap.size tb0 rfl rfl 26 tb0 HZ7.out size26' rfl tb0_all ?_)
      rw [show (w7.alloc (.cells #[.string ⟨#[]⟩, .slice none 0 0, .int .i64 0, .slice none 0 0, .slice none 0 0, .slice none 0 0] 26)) = w7.alloc (.cells tb0 26) from rfl]
      generalize World.setRow _ _ _ = W8 at HB8 ⊢
      go_wp2_with fail
      go_ret
      exact ⟨rfl, below2 HB1.out HB8.out⟩
    | false =>
      have he : E = 0 := by simpa using hE
      obtain ⟨u, nb, rfl, hx, hs⟩ := h1 he
      have HSU : Hid (SameT u t) := hs
      have HZ7 : Hid ((w7.alloc (.cells tb0 26)).heap[w7.heap.size]? = some (.cells tb0 26 (0, 0))) := heap_new _ _
      have hbx : Below w7.heap.size w7 ((w7.alloc (.cells tb0 26)).setRow w7.heap.size u.vals) := below_row (below_new _ _) (Nat.le_refl _) _
      have HB8 : Hid (Below W1.heap.size W1 ((w7.alloc (.cells tb0 26)).setRow w7.heap.size u.vals)) := below2 HB7.out hbx
      have HU8 : Hid (TbL ((w7.alloc (.cells tb0 26)).setRow w7.heap.size u.vals) u) := hx.1 _ (fun b hb => (hbx.block _ (hp_lt (hx.2 b hb).1)).trans (hx.2 b hb).1)
      have HN8 : Hid (((w7.alloc (.cells tb0 26)).setRow w7.heap.size u.vals).heap[w7.heap.size]? = some (.cells u.vals 26 (0, 0))) := setRow_heap _ _ _ _ _ _ HZ7.out
      clear h1 h2 hb7 hx hs hbx he
      go_upto_region 10 with (refine wpList_store_row rfl 26 (.tmp 8) (.tmp 39) rfl w7.heap.size u.vals rfl rfl 26 tb0 HZ7.out size26' rfl (allTb u) ?_)
      rw [show (w7.alloc (.cells #[.string ⟨#[]⟩, .slice none 0 0, .int .i64 0, .slice none 0 0, .slice none 0 0, .slice none 0 0] 26)) = w7.alloc (.cells tb0 26) from rfl]
      generalize World.setRow _ _ _ = W8 at HB8 HU8 HN8 ⊢
      generalize w7.heap.size = G8 at HN8 ⊢
      have HT8 : Hid (W8.heap[w.heap.size]? = some (.cells t.vals 26 (0, 0))) := (HB8.out.block _ (hp_lt HN1.out)).trans HN1.out
      have cS := sameTable_any u t W8 HU8.out (HL.out.on HB8.out)
      clear HZ7
      go_wp2_with (first | (refine wpList_load_row rfl 26 (.tmp 8) rfl G8 rfl 26 u.vals (0, 0) _ HN8.out Tryz.underlying26 rfl size26' ?_) | (refine wpList_load_row rfl 26 (.tmp 1) rfl w.heap.size rfl 26 t.vals (0, 0) _ HT8.out Tryz.underlying26 rfl size26' ?_))
      refine cS.mono ?_
      rintro e w9 ⟨b, rfl, hb, hb9⟩
      obtain rfl : b = true := hb.2 HSU.out
      have HB9 : Hid (Below W1.heap.size W1 w9) := below2 HB8.out hb9
      clear cS hb hb9
      go_wp2_with fail
      go_ret
      exact ⟨rfl, below2 HB1.out HB9.out⟩
end Go.Proofs.YteedmmljahgpjaaGreatDoor
