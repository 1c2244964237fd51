/-
  The content of a table, as bytes.
-/
import Derived.Test.YteedmmljahgpjabDoorM13
import Derived.Test.YteedmmljahgpjabDoorM14
import Derived.Deep.RegionHeld
namespace Go.Proofs.YteedmmljahgpjabDoor
open Go.RowKit
set_option linter.unusedVariables false
set_option linter.unusedSimpArgs false
def u64 (n : Int) : Int := n % 18446744073709551616
set_option maxRecDepth 100000 in
set_option maxHeartbeats 4000000 in
theorem wput_u (b G : Nat) (ns zs : List Int) (bs : List (Nat × Nat × Array Value)) (w : World) (w0 : World) (h : Wr w0 w b ((G, 3, iA ns) :: bs) zs) (hz : zs.length + ns.length ≤ 1000000) : Calls Tryd.prog 26 #[.pointer (some ⟨b, 0, none⟩), .slice (some ⟨G, 0, none⟩) ns.length ns.length] w fun e w' => e = .returned (.tuple #[]) ∧ Wr w0 w' b ((G, 3, iA ns) :: bs) (zs ++ ns.map u64) := by
  have HW : Hid (Wr w0 w b ((G, 3, iA ns) :: bs) (zs ++ (ns.take 0).map u64)) := by show Wr _ _ _ _ _; rw [List.take_zero, List.map_nil, List.append_nil]; exact h
  have HLZ : Hid (zs.length + ns.length ≤ 1000000) := hz
  have hnl : (ns.length : Int) ≤ 1000000 := by omega
  clear h hz
  go_enter Tryd.func26, Tryd.ntmps26
  go_wp2_with fail
  go_loopw [8] (fun q wr => ∃ (i : Nat), i ≤ ns.length ∧ q = .int .i64 i ∧ Hid (Wr w0 wr b ((G, 3, iA ns) :: bs) (zs ++ (ns.take i).map u64))) (fun q _ => ns.length - (intOf q).toNat)
  case atStart => exact ⟨0, by omega, rfl, HW⟩
  case round =>
    obtain ⟨i, hi, rfl, HWR⟩ := hrel
    by_cases hlt : i < ns.length
    · have hlt' : (i : Int) < (ns.length : Int) := by omega
      have hmx : (i : Int) + 1 ≤ 9223372036854775807 := by omega
      have ci := iA_at HWR.out.box i hlt
      have HTK : Hid ((ns.take (i + 1)).map u64 = (ns.take i).map u64 ++ [u64 ns[i]]) := by show _ = _; rw [List.take_succ_eq_append_getElem hlt, List.map_append]; rfl
      obtain ⟨n, en⟩ : ∃ n, ns[i] = n := ⟨_, rfl⟩
      rw [en] at ci HTK
      obtain ⟨z, hmod⟩ : ∃ z, n % 18446744073709551616 = z := ⟨_, rfl⟩
      have HU : Hid (u64 n = z) := hmod
      have hwr : IntKind.u64.wrap n = z := hmod
      rw [HU.out] at HTK
      obtain ⟨v, hO⟩ := HWR.out.H
      have HO : Hid (OwnK w0 wr ((b, 79, #[v]) :: (G, 3, iA ns) :: bs) 98 1 v ((zs ++ (ns.take i).map u64).map uvals)) := hO
      have HNN : Hid (∀ p ∈ ((G, 3, iA ns) :: bs : List (Nat × Nat × Array Value)), p.1 ≠ b) := HWR.out.N
      have cb : wr.cell? ⟨b, 0, none⟩ = some v := cell_of hO.box 0
      have HLL : Hid (((zs ++ (ns.take i).map u64).map uvals).length ≤ 1000000) := by show _ ≤ _; rw [List.length_map, List.length_append, List.length_map, List.length_take]; have := HLZ.out; omega
      clear en hO HWR
      go_wp2_with (first | (refine wpList_slice1v rfl 77 98 (.tmp 18) rfl (uvals z) (.int .u64 z) rfl rfl 1 _ Tryd.underlying77 8 inf104 rfl rfl (by decide) (by decide) ?_) | (refine app_one HO.out 77 (uvals z) rfl (uvals_all z) _ 8 Tryd.underlying77 inf104 rfl (by decide) HLL.out (by decide) rfl (.tmp 16) (.tmp 19) rfl rfl rfl ?_; intro g cap w8 HO8; have xb := cell_of HO8.box 0; have fb := frozen_of HO8.box 0))
      refine ⟨⟨i + 1, hlt, rfl, ?_⟩, by simp only [intOf]; omega⟩
      have hLe : ((zs ++ (ns.take i).map u64).map uvals).length = zs.length + i := by rw [List.length_map, List.length_append, List.length_map, List.length_take]; omega
      rw [hLe] at HO8
      have hq := HO8.put HNN.out (.slice (some ⟨g, 0, none⟩) (zs.length + i + 1) cap)
      refine ⟨⟨.slice (some ⟨g, 0, none⟩) (zs.length + i + 1) cap, ?_⟩, HNN.out⟩
      rw [HTK.out, ← List.append_assoc, List.map_append]
      exact hq
    · obtain rfl : i = ns.length := by omega
      have hnot : ¬ (ns.length : Int) < (ns.length : Int) := by omega
      have HE : Hid (Wr w0 wr b ((G, 3, iA ns) :: bs) (zs ++ ns.map u64)) := by have := HWR.out; rw [List.take_length] at this; exact this
      go_wp2_with fail
      go_end0
      exact ⟨rfl, HE.out⟩
def inZ (d : InM) : List Int := [d.k, d.a]
def stZ (x : StM) : List Int := (x.gs.length : Int) :: (x.gs.map gdZ).flatten
def hdZ (t : TbM) : List Int := sgZ t.rs ++ [t.sl] ++ sgZ t.cs ++ [(t.ds.length : Int)]
def contZ (t : TbM) : List Int := hdZ t ++ ((t.ds.map inZ).flatten).map u64 ++ [(t.ts.length : Int)] ++ (t.ts.map stZ).flatten
def A64 (zs : List Int) : Prop := ∀ n ∈ zs, 0 ≤ n ∧ n ≤ 18446744073709551615
theorem A64.app {a b : List Int} (h : A64 a) (k : A64 b) : A64 (a ++ b) := fun n hn => (List.mem_append.1 hn).elim (h n) (k n)
theorem A64.one {n : Int} (h : 0 ≤ n ∧ n ≤ 18446744073709551615) : A64 [n] := fun m hm => by rw [List.mem_singleton.1 hm]; exact h
theorem A64.flat {l : List (List Int)} (h : ∀ x ∈ l, A64 x) : A64 l.flatten := fun n hn => by obtain ⟨x, hx, hm⟩ := List.mem_flatten.1 hn; exact h x hx n hm
theorem A64.fits {zs : List Int} (h : A64 zs) : W.Fits zs := fun j => by
  rw [List.getD_eq_getElem?_getD]
  rcases Nat.lt_or_ge j zs.length with hj | hj
  · rw [List.getElem?_eq_getElem hj]; exact h _ (List.getElem_mem hj)
  · rw [List.getElem?_eq_none hj]; exact ⟨Int.le_refl _, by decide⟩
theorem sg_64 {l : List Int} (h : ∀ n ∈ l, I64 n) (hl : l.length ≤ 1000000) : A64 (sgZ l) := by
  intro n hn
  rcases List.mem_cons.1 hn with rfl | hn
  · omega
  · obtain ⟨m, hm, rfl⟩ := List.mem_map.1 hn
    exact W.zigN_bd m (h m hm).1 (h m hm).2
theorem u_64 (l : List Int) : A64 (l.map u64) := by
  intro n hn
  obtain ⟨m, hm, rfl⟩ := List.mem_map.1 hn
  unfold u64
  omega
theorem gd_64 {w : World} {g : GdM} (hg : GdL w g) (hb : GdB g) (hi : ∀ r ∈ g.rs, 0 ≤ r.i) : A64 (gdZ g) := by
  obtain ⟨⟨h0, h1⟩, h8, hr⟩ := hb
  refine A64.app (fun n hn => ?_) (A64.flat fun x hx => ?_)
  · simp only [List.mem_cons, List.not_mem_nil, or_false] at hn
    omega
  · obtain ⟨r, hrm, rfl⟩ := List.mem_map.1 hx
    obtain ⟨⟨k0, k1⟩, ⟨o0, o1⟩, ⟨_, i1⟩, _⟩ := hg.2.2.2.2 r hrm
    have i0 := hi r hrm
    refine A64.app (fun n hn => ?_) (fun n hn => ?_)
    · simp only [List.mem_cons, List.not_mem_nil, or_false] at hn
      omega
    · obtain ⟨y, hy, rfl⟩ := List.mem_map.1 hn
      have := hr r hrm y hy
      unfold LenW at this
      omega
theorem idx_lo (sl : Int) (nr ns : Nat) (k : Int) : 0 ≤ (idxN sl nr ns k).1 := by
  unfold idxN
  repeat' split
  all_goals simp
theorem rowB_i {sl : Int} {nr ns : Nat} {r : RowM} (h : rowB sl nr ns r = true) : 0 ≤ r.i := by
  unfold rowB withinB at h
  simp only [Bool.and_eq_true, decide_eq_true_eq] at h
  have := idx_lo sl nr ns r.k
  omega
theorem rowsR_i {sl : Int} {nr ns : Nat} : ∀ {rs : List RowM}, rowsR sl nr ns rs = true → ∀ r ∈ rs, 0 ≤ r.i
  | [], _, r, hr => by simp at hr
  | x :: l, h, r, hr => by
    unfold rowsR at h
    simp only [Bool.and_eq_true] at h
    rcases List.mem_cons.1 hr with rfl | hr
    · exact rowB_i h.1.1
    · exact rowsR_i h.2 r hr
theorem gdsN_i (sl : Int) (nr ns : Nat) : ∀ (l : List GdM) (p q : Int), gdsN sl nr ns p l = some q → ∀ g ∈ l, ∀ r ∈ g.rs, 0 ≤ r.i
  | [], p, q, h => fun x hx => by simp at hx
  | y :: l, p, q, h => by
    unfold gdsN at h
    obtain ⟨r, hr, h⟩ := Option.bind_eq_some_iff.1 h
    unfold gdN at hr
    split at hr
    · rename_i hb
      intro g hg
      rcases List.mem_cons.1 hg with rfl | hg
      · unfold rowsB at hb
        rw [Bool.and_eq_true] at hb
        exact rowsR_i hb.2
      · exact gdsN_i sl nr ns l r q h g hg
    · cases hr
theorem stsN_i (sl : Int) (nr ns : Nat) : ∀ (l : List StM) (p q : Int), stsN sl nr ns p l = some q → ∀ s ∈ l, ∀ g ∈ s.gs, ∀ r ∈ g.rs, 0 ≤ r.i
  | [], p, q, h => fun x hx => by simp at hx
  | y :: l, p, q, h => by
    unfold stsN at h
    split at h
    · cases h
    · obtain ⟨r, hr, h⟩ := Option.bind_eq_some_iff.1 h
      intro s hs
      rcases List.mem_cons.1 hs with rfl | hs
      · exact gdsN_i sl nr ns _ p r hr
      · exact stsN_i sl nr ns l r q h s hs
theorem form_i {t : TbM} (h : formB t = true) : (∀ s ∈ t.ts, ∀ g ∈ s.gs, ∀ r ∈ g.rs, 0 ≤ r.i) ∧ (0 ≤ t.sl ∧ t.sl ≤ 4) ∧ t.ts.length ≤ 12 := by
  unfold formB at h
  rw [Bool.and_eq_true, Bool.and_eq_true] at h
  obtain ⟨⟨_, h2⟩, h3⟩ := h
  refine ⟨?_, ?_⟩
  · unfold endB at h3
    split at h3
    · rename_i q hq
      exact stsN_i _ _ _ _ 0 q hq
    · cases h3
  · unfold sizesB withinB at h2
    simp only [Bool.and_eq_true, decide_eq_true_eq] at h2
    omega
theorem OwnK.lies {w V : World} {bs : List (Nat × Nat × Array Value)} {v : Value} {zs : List Int} (h : OwnK w V bs 98 1 v (zs.map uvals)) : ∃ a c, v = .slice a zs.length c ∧ W.Lies V a zs.length zs := by
  obtain ⟨a, c, h1, h2⟩ := h.sl
  rw [List.length_map] at h1
  refine ⟨a, c, h1, rfl, fun e => ?_, fun ad e j hj => ?_⟩
  · rcases Nat.eq_zero_or_pos zs.length with h0 | h0
    · exact h0
    · obtain ⟨b, o, e2, _⟩ := h2.2.2 0 (by rw [List.length_map]; exact h0)
      rw [e] at e2; cases e2
  · obtain ⟨b, o, e2, h3⟩ := h2.2.2 j (by rw [List.length_map]; exact hj)
    rw [e] at e2
    obtain rfl : ad = ⟨b, o, none⟩ := Option.some.inj e2
    have h4 := h3 0 (by omega)
    rw [Nat.mul_one, Nat.add_zero] at h4
    rw [Addr.add_mid, h4]
    simp [uvals, List.getD_eq_getElem?_getD, hj]
theorem gdZ_le (g : GdM) (h : g.rs.length ≤ 8) : (gdZ g).length ≤ 58 := by
  have := rowsZ_le g.rs
  unfold gdZ
  rw [List.length_append]
  simp only [List.length_cons, List.length_nil]
  omega
theorem gdsZ_le : ∀ l : List GdM, (∀ g ∈ l, g.rs.length ≤ 8) → ((l.map gdZ).flatten).length ≤ 58 * l.length
  | [], _ => by simp
  | g :: l, h => by
    have := gdZ_le g (h g (List.mem_cons_self ..))
    have := gdsZ_le l (fun x hx => h x (List.mem_cons_of_mem _ hx))
    simp only [List.map_cons, List.flatten_cons, List.length_append, List.length_cons]
    omega
theorem stsZ_le : ∀ l : List StM, (∀ s ∈ l, s.gs.length ≤ 12 ∧ ∀ g ∈ s.gs, GdB g) → ((l.map stZ).flatten).length ≤ 700 * l.length
  | [], _ => by simp
  | s :: l, h => by
    have h1 := h s (List.mem_cons_self ..)
    have h2 := gdsZ_le s.gs (fun g hg => (h1.2 g hg).2.1)
    have := stsZ_le l (fun x hx => h x (List.mem_cons_of_mem _ hx))
    simp only [List.map_cons, List.flatten_cons, List.length_append, List.length_cons, stZ]
    omega
theorem insZ_le : ∀ l : List InM, ((l.map inZ).flatten).length = 2 * l.length
  | [] => by simp
  | d :: l => by
    have := insZ_le l
    simp only [List.map_cons, List.flatten_cons, List.length_append, List.length_cons, inZ, List.length_nil]
    omega
set_option maxRecDepth 100000 in
set_option maxHeartbeats 4000000 in
theorem content_any (t : TbM) (w : World) (hl : TbL w t) (hf : formB t = true) : Calls Tryd.prog 15 #[.agg t.vals] w fun e w' => e = .returned (.string (W.bytes (W.text1 t.x.data.toList ++ W.putL (W.nats (contZ t))))) ∧ Below w.heap.size w w' := by
  have hb1 := below_new w (.cells t.vals 26)
  have hn1 := heap_new w (.cells t.vals 26)
  obtain ⟨W1, e1⟩ : ∃ W, w.alloc (.cells t.vals 26) = W := ⟨_, rfl⟩
  have E1 : Hid (w.alloc (.cells t.vals 26) = W1) := e1
  rw [e1] at hb1 hn1
  have HB1 : Hid (Below w.heap.size w W1) := hb1
  have HN1 : Hid (W1.heap[w.heap.size]? = some (.cells t.vals 26 (0, 0))) := hn1
  have HS1 : Hid (W1.heap.size = w.heap.size + 1) := by show _ = _; rw [← e1]; exact size_alloc _ _
  clear hb1 e1 hn1
  obtain ⟨⟨hr12, hc1024, hd4096⟩, _⟩ := form_w hf
  obtain ⟨hii, ⟨hs0, hs4⟩, ht12⟩ := form_i hf
  have HFB : Hid (∀ s ∈ t.ts, s.gs.length ≤ 12 ∧ ∀ g ∈ s.gs, GdB g) := form_b hf
  have HII : Hid (∀ s ∈ t.ts, ∀ g ∈ s.gs, ∀ r ∈ g.rs, 0 ≤ r.i) := hii
  have HTL : Hid (TbL w t) := hl
  have HDI : Hid (∀ d ∈ t.ds, B8 d.k ∧ I64 d.a) := hl.Di
  obtain ⟨B0, eB0⟩ : ∃ q : List (Nat × Nat × Array Value), [(w.heap.size, 26, t.vals)] = q := ⟨_, rfl⟩
  have HTC : Hid (∀ V zs b, Wr w V b B0 zs → V.heap[w.heap.size]? = some (.cells t.vals 26 (0, 0))) := fun V zs b h => by rw [← eB0] at h; exact h.box
  have HW0 : Hid (Wr w (W1.alloc (.cells #[.slice none 0 0] 79)) W1.heap.size B0 []) := by
    have h1 := (OwnK.nil HB1.out 98 1).add w.heap.size 26 t.vals HN1.out (Nat.le_refl _) (by simp [Value.ownBlock])
    have h2 := (h1.on (below_new W1 (.cells #[.slice none 0 0] 79))).add W1.heap.size 79 #[.slice none 0 0] (heap_new _ _) HB1.out.size (by simp [Value.ownBlock])
    rw [← eB0]
    exact ⟨⟨_, h2⟩, fun p hp => by rw [List.mem_singleton.1 hp, HS1.out]; show w.heap.size ≠ w.heap.size + 1; omega⟩
  obtain ⟨b, eb⟩ : ∃ q, w.heap.size + 1 = q := ⟨_, rfl⟩
  rw [HS1.out, eb] at HW0
  have HEB : Hid (w.heap.size + 1 = b) := eb
  obtain ⟨W2, e2⟩ : ∃ W, W1.alloc (.cells #[.slice none 0 0] 79) = W := ⟨_, rfl⟩
  have E2 : Hid (W1.alloc (.cells #[.slice none 0 0] 79) = W2) := e2
  rw [e2] at HW0
  have x1 : W2.cell? ⟨w.heap.size, 1, none⟩ = some (.slice t.ra t.rs.length t.rc) := cell_of (HTC.out _ _ _ HW0.out) 1
  have cS := wsigned_any b t.rs [] t.ra t.rc B0 W2 w HW0.out hl.R hl.Ri (by simp only [List.length_nil]; omega)
  rw [List.nil_append] at cS
  have HFI : Hid (W.Fits (contZ t)) := by
    refine A64.fits (A64.app (A64.app (A64.app ?_ (u_64 _)) (A64.one ⟨by omega, by omega⟩)) (A64.flat fun x hx => ?_))
    · exact A64.app (A64.app (A64.app (sg_64 hl.Ri (by omega)) (A64.one ⟨by omega, by omega⟩)) (sg_64 hl.Ci (by omega))) (A64.one ⟨by omega, by omega⟩)
    · obtain ⟨s, hs, rfl⟩ := List.mem_map.1 hx
      intro n hn
      rcases List.mem_cons.1 hn with rfl | hn
      · have := (HFB.out s hs).1; omega
      · refine A64.flat (fun z hz => ?_) n hn
        obtain ⟨g, hg, rfl⟩ := List.mem_map.1 hz
        exact gd_64 ((hl.Ti s hs).2 g hg) ((HFB.out s hs).2 g hg) (HII.out s hs g hg)
  have HCN : Hid ((contZ t).length ≤ 30000) := by
    have h1 := stsZ_le t.ts HFB.out
    show _ ≤ _
    unfold contZ hdZ sgZ
    simp only [List.length_append, List.length_cons, List.length_nil, List.length_map, insZ_le]
    omega
  have hx16 : t.x.size ≤ 16 := by
    unfold formB at hf
    rw [Bool.and_eq_true, Bool.and_eq_true] at hf
    have := hf.1.1
    unfold nameB at this
    simp only [Bool.and_eq_true, decide_eq_true_eq] at this
    omega
  have HTS : Hid ((W.bytes ((⟨#[]⟩ : ByteArray).data.toList ++ W.text1 t.x.data.toList)).size ≤ 1000) := by
    have h1 := W.text1_size t.x.data.toList (by rw [W.len_of]; omega)
    rw [W.len_of] at h1
    show _ ≤ _
    rw [← W.len_of]
    simp [W.bytes]
    omega
  obtain ⟨ANS, eANS⟩ : ∃ q, W.bytes (W.text1 t.x.data.toList ++ W.putL (W.nats (contZ t))) = q := ⟨_, rfl⟩
  have HANS : Hid (W.bytes (W.text1 t.x.data.toList ++ W.putL (W.nats (contZ t))) = ANS) := eANS
  rw [eANS]
  clear hl hf hii eb e2 eANS eB0
  go_enter Tryd.func15, Tryd.ntmps15
  go_upto_region 2 with fail
  rw [E1.out, E2.out, HEB.out]
  clear E1
  clear E2 HEB HB1 HN1 HS1
  go_wp2_with fail
  refine cS.mono ?_
  rintro e w3 ⟨rfl, hw3⟩
  have HW3 : Hid (Wr w w3 b B0 (sgZ t.rs)) := hw3
  have hL3 : (sgZ t.rs).length ≤ 13 := by unfold sgZ; rw [List.length_cons, List.length_map]; omega
  obtain ⟨Z1, eZ1⟩ : ∃ q, sgZ t.rs = q := ⟨_, rfl⟩
  rw [eZ1] at HW3 hL3
  have HZ1 : Hid (sgZ t.rs = Z1) := eZ1
  have x2 : w3.cell? ⟨w.heap.size, 2, none⟩ = some (.int .i64 t.sl) := cell_of (HTC.out _ _ _ HW3.out) 2
  clear cS hw3 HW0 x1 eZ1
  have HA4 : Hid (Wr w (w3.alloc (.cells (iA [t.sl]) 3)) b ((w3.heap.size, 3, iA [t.sl]) :: B0) Z1) := HW3.out.add (below_new _ _) _ _ _ (Nat.le_refl _) (heap_new _ _)
  have cP4 := wput_any b w3.heap.size [t.sl] Z1 B0 (w3.alloc (.cells (iA [t.sl]) 3)) w HA4.out (by intro n hn; rw [List.mem_singleton] at hn; omega) (by rw [List.length_singleton]; omega)
  clear HA4
  go_wp2_with (refine wpList_slice1v rfl 104 3 (.tmp 14) rfl (iA [t.sl]) (.int .i64 t.sl) rfl rfl 1 _ Tryd.underlying104 8 inf3 rfl rfl (by decide) (by decide) ?_)
  refine cP4.mono ?_
  rintro e w4 ⟨rfl, hq4⟩
  have HW4 : Hid (Wr w w4 b B0 (Z1 ++ [t.sl])) := hq4.less
  clear cP4 hq4
  have x3 : w4.cell? ⟨w.heap.size, 3, none⟩ = some (.slice t.ca t.cs.length t.cc) := cell_of (HTC.out _ _ _ HW4.out) 3
  have cC := wsigned_any b t.cs (Z1 ++ [t.sl]) t.ca t.cc B0 w4 w HW4.out HTL.out.C HTL.out.Ci (by rw [List.length_append, List.length_singleton]; omega)
  clear x2 HW3
  go_wp2_with fail
  refine cC.mono ?_
  rintro e w5 ⟨rfl, hw5⟩
  have HW5 : Hid (Wr w w5 b B0 (Z1 ++ [t.sl] ++ sgZ t.cs)) := hw5
  have hL5 : (Z1 ++ [t.sl] ++ sgZ t.cs).length ≤ 1040 := by rw [List.length_append, List.length_append, List.length_singleton]; unfold sgZ; rw [List.length_cons, List.length_map]; omega
  obtain ⟨Z2, eZ2⟩ : ∃ q, Z1 ++ [t.sl] ++ sgZ t.cs = q := ⟨_, rfl⟩
  rw [eZ2] at HW5 hL5
  have HZ2 : Hid (hdZ t = Z2 ++ [(t.ds.length : Int)]) := by show _ = _; unfold hdZ; rw [HZ1.out, eZ2]
  have x4 : w5.cell? ⟨w.heap.size, 4, none⟩ = some (.slice t.da t.ds.length t.dc) := cell_of (HTC.out _ _ _ HW5.out) 4
  have hdm : (t.ds.length : Int) ≤ 4096 := by omega
  clear cC hw5 HW4 x3 eZ2
  have HA6 : Hid (Wr w (w5.alloc (.cells (iA [(t.ds.length : Int)]) 3)) b ((w5.heap.size, 3, iA [(t.ds.length : Int)]) :: B0) Z2) := HW5.out.add (below_new _ _) _ _ _ (Nat.le_refl _) (heap_new _ _)
  have cP6 := wput_any b w5.heap.size [(t.ds.length : Int)] Z2 B0 (w5.alloc (.cells (iA [(t.ds.length : Int)]) 3)) w HA6.out (by intro n hn; rw [List.mem_singleton] at hn; omega) (by rw [List.length_singleton]; omega)
  clear HA6
  go_wp2_with (refine wpList_slice1v rfl 104 3 (.tmp 22) rfl (iA [(t.ds.length : Int)]) (.int .i64 (t.ds.length : Int)) rfl rfl 1 _ Tryd.underlying104 8 inf3 rfl rfl (by decide) (by decide) ?_)
  refine cP6.mono ?_
  rintro e w6 ⟨rfl, hq6⟩
  have HW6 : Hid (Wr w w6 b B0 (Z2 ++ [(t.ds.length : Int)])) := hq6.less
  clear cP6 hq6
  obtain ⟨Z3, eZ3⟩ : ∃ q, Z2 ++ [(t.ds.length : Int)] = q := ⟨_, rfl⟩
  have hL6 : Z3.length ≤ 1041 := by rw [← eZ3, List.length_append, List.length_singleton]; omega
  have HDS : Hid (SlAt w 2 t.da t.dc (t.ds.map InM.vals)) := HTL.out.D
  have y4 : w6.cell? ⟨w.heap.size, 4, none⟩ = some (.slice t.da t.ds.length t.dc) := cell_of (HTC.out _ _ _ HW6.out) 4
  rw [eZ3] at HW6
  have HZ3 : Hid (hdZ t = Z3) := by show _ = _; rw [HZ2.out, eZ3]
  have HZ4 : Hid (contZ t = Z3 ++ ((t.ds.map inZ).flatten).map u64 ++ [(t.ts.length : Int)] ++ (t.ts.map stZ).flatten) := by show _ = _; unfold contZ; rw [HZ3.out]
  obtain ⟨ds, eds⟩ : ∃ q, t.ds = q := ⟨_, rfl⟩
  obtain ⟨da, eda⟩ : ∃ q, t.da = q := ⟨_, rfl⟩
  rw [eds, eda] at HDS y4
  rw [eds] at hd4096 HZ4 HDI
  have HW7 : Hid (Wr w w6 b B0 (Z3 ++ ((ds.take 0).map inZ).flatten.map u64)) := by show Wr _ _ _ _ _; have := HW6.out; simpa using this
  clear HW5 HW6 x4 hdm eZ3 eds eda HZ2 HZ3 HZ1
  go_wp2_with fail
  go_loopw [28] (fun q wr => ∃ (i : Nat), i ≤ ds.length ∧ q = .int .i64 i ∧ Hid (Wr w wr b B0 (Z3 ++ ((ds.take i).map inZ).flatten.map u64))) (fun q _ => ds.length - (intOf q).toNat)
  case atStart => exact ⟨0, by omega, rfl, HW7⟩
  case round =>
    obtain ⟨i, hi, rfl, HWR⟩ := hrel
    by_cases hlt : i < ds.length
    · have hlt' : (i : Int) < (ds.length : Int) := by omega
      have hmx : (i : Int) + 1 ≤ 9223372036854775807 := by have h1 := HDS.out.1; have h2 := HDS.out.2.1; rw [List.length_map] at h1; omega
      obtain ⟨bb, o, ea, hat⟩ := (HDS.out.on (mapz InM.sz _) HWR.out.below).2.2 i (by rw [List.length_map]; exact hlt)
      simp only [List.getElem_map] at hat
      have HMEM : Hid (ds[i] ∈ ds) := List.getElem_mem hlt
      have HD : Hid (((ds.take (i + 1)).map inZ).flatten.map u64 = ((ds.take i).map inZ).flatten.map u64 ++ [ds[i].k, ds[i].a].map u64) := by show _ = _; rw [List.take_succ_eq_append_getElem hlt, List.map_append, List.flatten_append, List.map_singleton, List.flatten_singleton, List.map_append]; rfl
      obtain ⟨d, ed⟩ : ∃ d, ds[i] = d := ⟨_, rfl⟩
      rw [ed] at hat HMEM HD
      have HRG : Hid (wr.rangeAt bb (o + i * 2) d.vals.toList) := fun j v hv => by
        have hj : j < 2 := (List.getElem?_eq_some_iff.1 hv).1
        rw [hat j hj, ← hv]; simp
      have HZ : Hid ((wr.alloc (.cells #[.int .u8 0, .int .i64 0] 44)).heap[wr.heap.size]? = some (.cells #[.int .u8 0, .int .i64 0] 44 (0, 0))) := heap_new _ _
      have HWX : Hid (Below wr.heap.size wr ((wr.alloc (.cells #[.int .u8 0, .int .i64 0] 44)).setRow wr.heap.size d.vals)) := below_row (below_new _ _) (Nat.le_refl _) _
      have HNX : Hid (((wr.alloc (.cells #[.int .u8 0, .int .i64 0] 44)).setRow wr.heap.size d.vals).heap[wr.heap.size]? = some (.cells d.vals 44 (0, 0))) := setRow_heap _ _ _ _ _ _ HZ.out
      subst ea
      clear hat ed
      go_upto_region 9 with (first | (refine wpList_load_mid rfl 44 (.tmp 30) rfl bb (o + i * 2) rfl d.vals.toList _ HRG.out Tryd.underlying44 rfl (by show _ = some 2; exact size61') ?_; rw [Array.toArray_toList]) | (refine wpList_store_row rfl 44 (.tmp 5) (.tmp 31) rfl wr.heap.size d.vals rfl rfl 44 #[.int .u8 0, .int .i64 0] HZ.out size61' rfl (allIn d) ?_))
      generalize World.setRow _ _ _ = WX at HWX HNX ⊢
      clear HZ HRG
      have HWY : Hid (Wr w WX b ((wr.heap.size, 44, d.vals) :: B0) (Z3 ++ ((ds.take i).map inZ).flatten.map u64)) := HWR.out.add HWX.out _ _ _ (Nat.le_refl _) HNX.out
      have hdi := (HTL.out.Di d)
      have hb8 : B8 d.k ∧ I64 d.a := HDI.out d HMEM.out
      obtain ⟨⟨hk0, hk1⟩, ha⟩ := hb8
      have x0 : WX.cell? ⟨wr.heap.size, 0, none⟩ = some (.int .u8 d.k) := cell_of HNX.out 0
      have x1 : WX.cell? ⟨wr.heap.size, 1, none⟩ = some (.int .i64 d.a) := cell_of HNX.out 1
      have hzl : (Z3 ++ ((ds.take i).map inZ).flatten.map u64).length ≤ 10000 := by rw [List.length_append, List.length_map, insZ_le, List.length_take]; omega
      obtain ⟨Z5, eZ5⟩ : ∃ q, Z3 ++ ((ds.take i).map inZ).flatten.map u64 = q := ⟨_, rfl⟩
      have HZ5 : Hid (Z3 ++ ((ds.take (i + 1)).map inZ).flatten.map u64 = Z5 ++ [d.k, d.a].map u64) := by show _ = _; rw [HD.out, ← List.append_assoc, eZ5]
      rw [eZ5] at HWY hzl
      have HA : Hid (Wr w (WX.alloc (.cells (iA [d.k, d.a]) 3)) b ((WX.heap.size, 3, iA [d.k, d.a]) :: (wr.heap.size, 44, d.vals) :: B0) Z5) := HWY.out.add (below_new _ _) _ _ _ (Nat.le_refl _) (heap_new _ _)
      have cP := wput_u b WX.heap.size [d.k, d.a] Z5 ((wr.heap.size, 44, d.vals) :: B0) (WX.alloc (.cells (iA [d.k, d.a]) 3)) w HA.out (by simp only [List.length_cons, List.length_nil]; omega)
      clear HWR HWX HNX HWY HA hdi ha eZ5 HD HMEM
      go_wp2_with fail
      refine cP.mono ?_
      rintro e w9 ⟨rfl, hw9⟩
      have HW9 : Hid (Wr w w9 b B0 (Z3 ++ ((ds.take (i + 1)).map inZ).flatten.map u64)) := by rw [HZ5.out]; exact hw9.less.less
      clear cP hw9 x0 x1
      go_wp2_with fail
      exact ⟨⟨i + 1, hlt, rfl, HW9⟩, by simp only [intOf]; omega⟩
    · obtain rfl : i = ds.length := by omega
      have hnot : ¬ (ds.length : Int) < (ds.length : Int) := by omega
      rename World => V8
      have HW8 : Hid (Wr w V8 b B0 (Z3 ++ (ds.map inZ).flatten.map u64)) := by have := HWR.out; rw [List.take_length] at this; exact this
      have hzl : (Z3 ++ (ds.map inZ).flatten.map u64).length ≤ 10000 := by rw [List.length_append, List.length_map, insZ_le]; omega
      obtain ⟨Z5, eZ5⟩ : ∃ q, Z3 ++ (ds.map inZ).flatten.map u64 = q := ⟨_, rfl⟩
      rw [eZ5] at HW8 hzl HZ4
      have x5 : V8.cell? ⟨w.heap.size, 5, none⟩ = some (.slice t.ta t.ts.length t.tc) := cell_of (HTC.out _ _ _ HW8.out) 5
      have htm : (t.ts.length : Int) ≤ 12 := by omega
      clear HWR eZ5 HW7 y4
      have HA9 : Hid (Wr w (V8.alloc (.cells (iA [(t.ts.length : Int)]) 3)) b ((V8.heap.size, 3, iA [(t.ts.length : Int)]) :: B0) Z5) := HW8.out.add (below_new _ _) _ _ _ (Nat.le_refl _) (heap_new _ _)
      have cP9 := wput_any b V8.heap.size [(t.ts.length : Int)] Z5 B0 (V8.alloc (.cells (iA [(t.ts.length : Int)]) 3)) w HA9.out (by intro n hn; rw [List.mem_singleton] at hn; omega) (by rw [List.length_singleton]; omega)
      clear HA9
      go_wp2_with (refine wpList_slice1v rfl 104 3 (.tmp 42) rfl (iA [(t.ts.length : Int)]) (.int .i64 (t.ts.length : Int)) rfl rfl 1 _ Tryd.underlying104 8 inf3 rfl rfl (by decide) (by decide) ?_)
      refine cP9.mono ?_
      rintro e w9 ⟨rfl, hq9⟩
      have HW9 : Hid (Wr w w9 b B0 (Z5 ++ [(t.ts.length : Int)])) := hq9.less
      clear cP9 hq9
      obtain ⟨Z6, eZ6⟩ : ∃ q, Z5 ++ [(t.ts.length : Int)] = q := ⟨_, rfl⟩
      have hL9 : Z6.length ≤ 10001 := by rw [← eZ6, List.length_append, List.length_singleton]; omega
      have y5 : w9.cell? ⟨w.heap.size, 5, none⟩ = some (.slice t.ta t.ts.length t.tc) := cell_of (HTC.out _ _ _ HW9.out) 5
      have HTT : Hid (SlAt w 1 t.ta t.tc (t.ts.map StM.vals)) := HTL.out.T
      have HSI : Hid (∀ s ∈ t.ts, StL w s) := HTL.out.Ti
      rw [eZ6] at HW9 HZ4
      obtain ⟨ts, ets⟩ : ∃ q, t.ts = q := ⟨_, rfl⟩
      obtain ⟨ta, eta⟩ : ∃ q, t.ta = q := ⟨_, rfl⟩
      rw [ets, eta] at HTT y5
      rw [ets] at HSI HFB HII HZ4 ht12
      have HWA : Hid (Wr w w9 b B0 (Z6 ++ ((ts.take 0).map stZ).flatten)) := by show Wr _ _ _ _ _; have := HW9.out; simpa using this
      clear HW8 HW9 x5 htm eZ6 ets eta
      go_wp2_with fail
      go_loopw [48] (fun q wr => ∃ (i : Nat), i ≤ ts.length ∧ q = .int .i64 i ∧ Hid (Wr w wr b B0 (Z6 ++ ((ts.take i).map stZ).flatten))) (fun q _ => ts.length - (intOf q).toNat)
      case atStart => exact ⟨0, by omega, rfl, HWA⟩
      case round =>
        obtain ⟨i, hi, rfl, HWR⟩ := hrel
        by_cases hlt : i < ts.length
        · rename World => V
          have hlt' : (i : Int) < (ts.length : Int) := by omega
          have hmx : (i : Int) + 1 ≤ 9223372036854775807 := by omega
          obtain ⟨bb, o, ea, hat⟩ := (HTT.out.on (mapz StM.sz _) HWR.out.below).2.2 i (by rw [List.length_map]; exact hlt)
          simp only [List.getElem_map] at hat
          have hsl := HSI.out ts[i] (List.getElem_mem hlt)
          have hfb := HFB.out ts[i] (List.getElem_mem hlt)
          have hin := HII.out ts[i] (List.getElem_mem hlt)
          have hzs := stsZ_le (ts.take i) (fun s hs => HFB.out s (List.mem_of_mem_take hs))
          rw [List.length_take] at hzs
          have HD : Hid (((ts.take (i + 1)).map stZ).flatten = ((ts.take i).map stZ).flatten ++ ((ts[i].gs.length : Int) :: (ts[i].gs.map gdZ).flatten)) := by show _ = _; rw [List.take_succ_eq_append_getElem hlt, List.map_append, List.flatten_append, List.map_singleton, List.flatten_singleton]; rfl
          obtain ⟨x, es⟩ : ∃ x, ts[i] = x := ⟨_, rfl⟩
          rw [es] at hat hsl HD hfb hin
          have hcc := hat 0 (by omega)
          have cs : V.cell? ⟨bb, o + i, none⟩ = some (.slice x.a x.gs.length x.c) := by rw [Nat.mul_one, Nat.add_zero] at hcc; exact hcc
          have HSG : Hid (SlAt w 5 x.a x.c (x.gs.map GdM.vals)) := hsl.1
          have HGI : Hid (∀ g ∈ x.gs, GdL w g ∧ GdB g ∧ ∀ r ∈ g.rs, 0 ≤ r.i) := fun g hg => ⟨hsl.2 g hg, hfb.2 g hg, hin g hg⟩
          have hg12 := hfb.1
          have hzz : (Z6 ++ ((ts.take i).map stZ).flatten).length ≤ 20000 := by rw [List.length_append]; omega
          obtain ⟨Z7, eZ7⟩ : ∃ q, Z6 ++ ((ts.take i).map stZ).flatten = q := ⟨_, rfl⟩
          rw [eZ7] at HWR hzz
          subst ea
          obtain ⟨gs, egs⟩ : ∃ q, x.gs = q := ⟨_, rfl⟩
          obtain ⟨sa, esa⟩ : ∃ q, x.a = q := ⟨_, rfl⟩
          rw [egs, esa] at HSG cs
          rw [egs] at HGI HD hg12
          have HZ7 : Hid (Z6 ++ ((ts.take (i + 1)).map stZ).flatten = Z7 ++ [(gs.length : Int)] ++ (gs.map gdZ).flatten) := by show _ = _; rw [HD.out, ← List.append_assoc, eZ7]; simp
          have hgm : (gs.length : Int) ≤ 12 := by omega
          clear hat es hcc hsl hfb hin hzs eZ7 egs esa HD
          have HA10 : Hid (Wr w (V.alloc (.cells (iA [(gs.length : Int)]) 3)) b ((V.heap.size, 3, iA [(gs.length : Int)]) :: B0) Z7) := HWR.out.add (below_new _ _) _ _ _ (Nat.le_refl _) (heap_new _ _)
          have cP10 := wput_any b V.heap.size [(gs.length : Int)] Z7 B0 (V.alloc (.cells (iA [(gs.length : Int)]) 3)) w HA10.out (by intro n hn; rw [List.mem_singleton] at hn; omega) (by rw [List.length_singleton]; omega)
          clear HA10
          go_wp2_with (refine wpList_slice1v rfl 104 3 (.tmp 53) rfl (iA [(gs.length : Int)]) (.int .i64 (gs.length : Int)) rfl rfl 1 _ Tryd.underlying104 8 inf3 rfl rfl (by decide) (by decide) ?_)
          refine cP10.mono ?_
          rintro e w10 ⟨rfl, hq10⟩
          have HW10 : Hid (Wr w w10 b B0 (Z7 ++ [(gs.length : Int)])) := hq10.less
          clear cP10 hq10
          obtain ⟨Z8, eZ8⟩ : ∃ q, Z7 ++ [(gs.length : Int)] = q := ⟨_, rfl⟩
          have hL10 : Z8.length ≤ 20001 := by rw [← eZ8, List.length_append, List.length_singleton]; omega
          rw [eZ8] at HW10 HZ7
          have HWB : Hid (Wr w w10 b B0 (Z8 ++ ((gs.take 0).map gdZ).flatten)) := by show Wr _ _ _ _ _; have := HW10.out; simpa using this
          clear HWR HW10 cs hgm eZ8 hzz
          go_wp2_with fail
          go_loopw [58] (fun q wr => ∃ (j : Nat), j ≤ gs.length ∧ q = .int .i64 j ∧ Hid (Wr w wr b B0 (Z8 ++ ((gs.take j).map gdZ).flatten))) (fun q _ => gs.length - (intOf q).toNat)
          case atStart => exact ⟨0, by omega, rfl, HWB⟩
          case round =>
            obtain ⟨j, hj, rfl, HW2⟩ := hrel
            by_cases hltj : j < gs.length
            · have hltj' : (j : Int) < (gs.length : Int) := by omega
              have hmxj : (j : Int) + 1 ≤ 9223372036854775807 := by have h1 := HSG.out.1; have h2 := HSG.out.2.1; rw [List.length_map] at h1; omega
              obtain ⟨b2, o2, ea, hat⟩ := (HSG.out.on (mapz GdM.sz _) HW2.out.below).2.2 j (by rw [List.length_map]; exact hltj)
              simp only [List.getElem_map] at hat
              have HMEM : Hid (gs[j] ∈ gs) := List.getElem_mem hltj
              have HD2 : Hid (((gs.take (j + 1)).map gdZ).flatten = ((gs.take j).map gdZ).flatten ++ gdZ gs[j]) := by show _ = _; rw [List.take_succ_eq_append_getElem hltj, List.map_append, List.flatten_append, List.map_singleton, List.flatten_singleton]
              obtain ⟨y, ed⟩ : ∃ y, gs[j] = y := ⟨_, rfl⟩
              rw [ed] at hat HMEM HD2
              have HRG : Hid (wr.rangeAt b2 (o2 + j * 5) y.vals.toList) := fun j9 v hv => by
                have hj9 : j9 < 5 := (List.getElem?_eq_some_iff.1 hv).1
                rw [hat j9 hj9, ← hv]; simp
              have HZ : Hid ((wr.alloc (.cells #[.int .i64 0, .int .i64 0, .int .u16 0, .int .u16 0, .slice none 0 0] 51)).heap[wr.heap.size]? = some (.cells #[.int .i64 0, .int .i64 0, .int .u16 0, .int .u16 0, .slice none 0 0] 51 (0, 0))) := heap_new _ _
              have HWX : Hid (Below wr.heap.size wr ((wr.alloc (.cells #[.int .i64 0, .int .i64 0, .int .u16 0, .int .u16 0, .slice none 0 0] 51)).setRow wr.heap.size y.vals)) := below_row (below_new _ _) (Nat.le_refl _) _
              have HNX : Hid (((wr.alloc (.cells #[.int .i64 0, .int .i64 0, .int .u16 0, .int .u16 0, .slice none 0 0] 51)).setRow wr.heap.size y.vals).heap[wr.heap.size]? = some (.cells y.vals 51 (0, 0))) := setRow_heap _ _ _ _ _ _ HZ.out
              subst ea
              clear hat ed
              go_upto_region 19 with (first | (refine wpList_load_mid rfl 51 (.tmp 60) rfl b2 (o2 + j * 5) rfl y.vals.toList _ HRG.out Tryd.underlying51 rfl (by show _ = some 5; exact size68') ?_; rw [Array.toArray_toList]) | (refine wpList_store_row rfl 51 (.tmp 9) (.tmp 61) rfl wr.heap.size y.vals rfl rfl 51 #[.int .i64 0, .int .i64 0, .int .u16 0, .int .u16 0, .slice none 0 0] HZ.out size68' rfl (allGd y) ?_))
              generalize World.setRow _ _ _ = WX at HWX HNX ⊢
              clear HZ HRG
              have HWY : Hid (Wr w WX b B0 (Z8 ++ ((gs.take j).map gdZ).flatten)) := HW2.out.on HWX.out
              obtain ⟨hyl, hyb, hyi⟩ := HGI.out y HMEM.out
              have hzg := gdsZ_le (gs.take j) (fun g hg => (HGI.out g (List.mem_of_mem_take hg)).2.1.2.1)
              rw [List.length_take] at hzg
              have cG := wguard_any b y (Z8 ++ ((gs.take j).map gdZ).flatten) B0 WX w HWY.out hyl hyb hyi (by rw [List.length_append]; omega)
              clear HW2 HMEM HWX hyl hyb hyi hzg HWY
              go_wp2_with (refine wpList_load_row rfl 51 (.tmp 9) rfl wr.heap.size rfl 51 y.vals (0, 0) _ HNX.out Tryd.underlying51 rfl size68' ?_)
              refine cG.mono ?_
              rintro e w12 ⟨rfl, hw12⟩
              have HWC : Hid (Wr w w12 b B0 (Z8 ++ ((gs.take (j + 1)).map gdZ).flatten)) := by show Wr _ _ _ _ _; rw [HD2.out, ← List.append_assoc]; exact hw12
              clear cG hw12 HNX HD2
              go_wp2_with fail
              exact ⟨⟨j + 1, hltj, rfl, HWC⟩, by simp only [intOf]; omega⟩
            · obtain rfl : j = gs.length := by omega
              have hnot : ¬ (gs.length : Int) < (gs.length : Int) := by omega
              have HWC : Hid (Wr w wr b B0 (Z6 ++ ((ts.take (i + 1)).map stZ).flatten)) := by have := HW2.out; rw [List.take_length, ← HZ7.out] at this; exact this
              go_wp2_with fail
              exact ⟨⟨i + 1, hlt, rfl, HWC⟩, by simp only [intOf]; omega⟩
        · obtain rfl : i = ts.length := by omega
          have hnot : ¬ (ts.length : Int) < (ts.length : Int) := by omega
          rename World => V
          have HWE : Hid (Wr w V b B0 (contZ t)) := by have := HWR.out; rw [List.take_length, ← HZ4.out] at this; exact this
          go_upto_region 22 with fail
          obtain ⟨vv, hOE⟩ := HWE.out.H
          obtain ⟨na, nc, rfl, hLi⟩ := hOE.lies
          have HLi : Hid (W.Lies V na (contZ t).length (contZ t)) := hLi
          have HFT : Hid (W.Fits (contZ t)) := HFI.out
          have HCL : Hid ((contZ t).length ≤ 30000) := HCN.out
          have HFA : Hid (∀ v : World, Below V.heap.size V v → v.cell? ⟨w.heap.size, 0, none⟩ = some (.string t.x) ∧ v.cell? ⟨b, 0, none⟩ = some (.slice na (contZ t).length nc)) := fun v hv => by
            have g1 := (HTC.out _ _ _ HWE.out)
            have g2 := hOE.box
            exact ⟨cell_of ((hv.block _ (Array.getElem?_eq_some_iff.1 g1).1).trans g1) 0, cell_of ((hv.block _ (Array.getElem?_eq_some_iff.1 g2).1).trans g2) 0⟩
          have HBV : Hid (Below w.heap.size w V) := HWE.out.below
          have cT := W.putText_any ⟨#[]⟩ t.x (by decide) (by omega) V.drew
          obtain ⟨CZ, eCZ⟩ : ∃ q, contZ t = q := ⟨_, rfl⟩
          rw [eCZ] at HLi HFT HCL HFA HANS
          clear hOE hLi HWR HWE eCZ HZ4
          refine wp_region_held_drew (S := fun v => Below V.heap.size V v) (by kernel_rfl) ⟨rfl, rfl, rfl, Nat.le_refl _, fun _ _ => rfl⟩ (fun hHeld => ?_)
          refine wpAnyH_take (i := 0) (v := ?_) rfl (by kernel_rfl) (by kernel_rfl) (by kernel_rfl) (fun _ _ _ h => h) (Or.inl ⟨by rfl, ?_⟩) (by assumption) ?_
          rotate_left
          · (intro v hv; go_simp; try (with_reducible rfl))
          try simp [Act.put]
          refine wpAnyH_take (i := 1) (v := ?_) rfl (by kernel_rfl) (by kernel_rfl) (by kernel_rfl) (fun _ _ _ h => h) (Or.inl ⟨by rfl, ?_⟩) (by assumption) ?_
          rotate_left
          · (intro v hv; obtain ⟨a0, a1⟩ := HFA.out v hv; go_simp; try (with_reducible rfl))
          try simp [Act.put]
          refine wpAnyH_take (i := 3) (v := ?_) rfl (by kernel_rfl) (by kernel_rfl) (by kernel_rfl) (fun _ _ _ h => h) (Or.inl ⟨by rfl, ?_⟩) (by assumption) ?_
          rotate_left
          · (intro v hv; go_simp; try (with_reducible rfl))
          try simp [Act.put]
          refine wpAnyH_take (i := 4) (v := ?_) rfl (by kernel_rfl) (by kernel_rfl) (by kernel_rfl) (fun _ _ _ h => h) (Or.inl ⟨by rfl, ?_⟩) (by assumption) ?_
          rotate_left
          · (intro v hv; obtain ⟨a0, a1⟩ := HFA.out v hv; go_simp; try (with_reducible rfl))
          try simp [Act.put]
          refine wpAnyH_ready (rs := [2]) (by kernel_rfl) (by simp) ?_
          refine AllReadyH.cons rfl (fun K hK => ?_) AllReadyH.nil
          go_simp
          refine cT.mono ?_
          rintro e w13 ⟨rfl, hb13⟩
          have hb13' : Below V.heap.size V w13 := ⟨hb13.os, hb13.tape, hb13.output, hb13.size, hb13.block⟩
          refine hK.out _ _ hb13' (fun hHeld => ?_)
          clear hK K cT hb13
          try simp [Act.put]
          have hsz : (W.bytes ((⟨#[]⟩ : ByteArray).data.toList ++ W.text1 t.x.data.toList)).size ≤ 1000 := HTS.out
          have cQ := W.put_lies (W.bytes ((⟨#[]⟩ : ByteArray).data.toList ++ W.text1 t.x.data.toList)) na CZ.length nc CZ w13 (HLi.out.below hb13') (by have := HCL.out; omega) HFT.out
          refine wpAnyH_ready (rs := [5]) (by kernel_rfl) (by simp) ?_
          refine AllReadyH.cons rfl (fun K hK => ?_) AllReadyH.nil
          go_simp
          refine cQ.mono ?_
          rintro e w14 ⟨rfl, hb14⟩
          have hb14' : Below V.heap.size V w14 := below2 hb13' hb14
          refine hK.out _ _ hb14' (fun hHeld => ?_)
          clear hK K cQ hb14
          try simp [Act.put]
          refine wpAnyH_take (i := 6) (v := ?_) rfl (by kernel_rfl) (by kernel_rfl) (by kernel_rfl) (fun _ _ _ h => h) (Or.inl ⟨by rfl, ?_⟩) (by assumption) ?_
          rotate_left
          · (intro v hv; go_simp; try (with_reducible rfl))
          try simp [Act.put]
          refine wpAnyH_done (by kernel_rfl) ?_ _
          have HB14 : Hid (Below w.heap.size w w14) := below2 HBV.out hb14'
          go_wp2_with fail
          go_ret
          exact ⟨by rw [← HANS.out]; simp [W.bytes], HB14.out⟩
end Go.Proofs.YteedmmljahgpjabDoor
