import Derived.Test.YteedmmljahgpjabGreatDoorM29
/-
  The document's rows: what is wrong with a row's spans.
-/
namespace Go.Proofs.YteedmmljahgpjabGreatDoor
open Go.RowKit
set_option linter.unusedVariables false
set_option linter.unusedSimpArgs false
def spD (t : TbM) (x : Sp) : Int := (spanE t (fun _ => 0) x.f.toNat x.t.toNat).1
def spsD (t : TbM) : List Sp → Int
  | [] => 0
  | x :: l => if spD t x == 0 then spsD t l else spD t x
def hasR (r : RowM) (i : Nat) : List Sp := (((prts (partsN r.k r.o)).zip (spL r)).drop i).filterMap (fun q => if q.1 then some q.2 else none)
theorem hasR_0 (r : RowM) : hasR r 0 = hasL r := by
  unfold hasR hasL hasI
  rw [List.drop_zero, List.take_of_length_le (by simp [prts, spL])]
theorem hasR_4 (r : RowM) : hasR r 4 = [] := by
  unfold hasR
  rw [List.drop_of_length_le (by simp [prts, spL])]; rfl
theorem hasR_s (r : RowM) (i : Nat) (hi : i < 4) : hasR r i = (if (prts (partsN r.k r.o)).getD i false then [(spL r).getD i ⟨0, 0⟩] else []) ++ hasR r (i + 1) := by
  obtain ⟨p, ep⟩ : ∃ p, partsN r.k r.o = p := ⟨_, rfl⟩
  unfold hasR
  rw [ep]
  match i, hi with
  | 0, _ => cases h : p.a <;> simp [prts, spL, h]
  | 1, _ => cases h : p.b <;> simp [prts, spL, h]
  | 2, _ => cases h : p.c <;> simp [prts, spL, h]
  | 3, _ => cases h : p.d <;> simp [prts, spL, h]
theorem hasR_mem {r : RowM} {i : Nat} {x : Sp} (h : x ∈ hasR r i) : x ∈ hasL r := by
  rw [← hasR_0]
  unfold hasR at h ⊢
  obtain ⟨q, h1, h2⟩ := List.mem_filterMap.1 h
  exact List.mem_filterMap.2 ⟨q, by rw [List.drop_zero]; exact List.mem_of_mem_drop h1, h2⟩
theorem rspan_sp (t : TbM) (x : Sp) (w : World) (hl : TbL w t) (hm : t.ds.length ≤ 4096) (hx : SpW t x) : Calls Tryz.prog 17 #[.agg t.vals, .agg x.vals] w fun e w' => e = .returned (.int .i64 (spD t x)) ∧ Below w.heap.size w w' := by
  obtain ⟨f, b⟩ := x
  obtain ⟨h0, h1, h2⟩ := hx
  simp only at h0 h1 h2
  obtain ⟨n, rfl⟩ := Int.eq_ofNat_of_zero_le h0
  obtain ⟨m, rfl⟩ := Int.eq_ofNat_of_zero_le (show 0 ≤ b by omega)
  exact rspan_any' t n m w hl (by omega) (by omega) hm
set_option maxRecDepth 100000 in
set_option maxHeartbeats 4000000 in
theorem rrows_any (t : TbM) (r : RowM) (w : World) (hl : TbL w t) (hm : t.ds.length ≤ 4096) (hx : ∀ x ∈ hasL r, SpW t x) : Calls Tryz.prog 19 #[.agg t.vals, .agg r.vals] w fun e w' => e = .returned (.int .i64 (spsD t (hasL r))) ∧ Below w.heap.size w w' := by
  obtain ⟨W2, e2⟩ : ∃ W, (w.alloc (.cells t.vals 27)).alloc (.cells r.vals 66) = W := ⟨_, rfl⟩
  have E2 : Hid ((w.alloc (.cells t.vals 27)).alloc (.cells r.vals 66) = W2) := e2
  obtain ⟨hn1, hn2, hb2, hs2⟩ := two_box e2
  have HB2 : Hid (Below w.heap.size w W2) := hb2
  have HN1 : Hid (W2.heap[w.heap.size]? = some (.cells t.vals 27 (0, 0))) := hn1
  have HN2 : Hid (W2.heap[w.heap.size + 1]? = some (.cells r.vals 66 (0, 0))) := hn2
  clear e2
  have HL : Hid (TbL W2 t) := hl.on hb2
  have HSX : Hid (∀ x ∈ hasL r, SpW t x) := hx
  have HMM : Hid (t.ds.length ≤ 4096) := hm
  clear hn1 hn2 hb2 hs2 hl hx hm
  obtain ⟨ANS, eA⟩ : ∃ q, spsD t (hasL r) = q := ⟨_, rfl⟩
  have HA : Hid (spsD t (hasR r 0) = ANS) := by show _ = _; rw [hasR_0]; exact eA
  rw [eA]
  clear eA
  have cH := rhas_any r W2
  go_enter Tryz.func19, Tryz.ntmps19
  go_upto_region 1 with fail
  rw [E2.out]
  clear E2
  obtain ⟨B1, eB1⟩ : ∃ b, w.heap.size + 1 = b := ⟨_, rfl⟩
  rw [eB1] at HN2 ⊢
  clear eB1
  go_wp2_with (refine wpList_load_row rfl 66 (.tmp 3) rfl B1 rfl 66 r.vals (0, 0) _ HN2.out Tryz.underlying66 rfl size85' ?_)
  refine cH.mono ?_
  rintro e w5 ⟨HC, rfl, hh, hge, hb5⟩
  have hn5 : w5.heap[B1]? = some (.cells r.vals 66 (0, 0)) := (hb5.block _ (hp_lt HN2.out)).trans HN2.out
  have s3 : w5.cell? ⟨B1, 3, none⟩ = some (.int .i64 r.sd.f) := cell_of hn5 3
  have s4 : w5.cell? ⟨B1, 4, none⟩ = some (.int .i64 r.sd.t) := cell_of hn5 4
  have s5 : w5.cell? ⟨B1, 5, none⟩ = some (.int .i64 r.qt.f) := cell_of hn5 5
  have s6 : w5.cell? ⟨B1, 6, none⟩ = some (.int .i64 r.qt.t) := cell_of hn5 6
  have s7 : w5.cell? ⟨B1, 7, none⟩ = some (.int .i64 r.pr.f) := cell_of hn5 7
  have s8 : w5.cell? ⟨B1, 8, none⟩ = some (.int .i64 r.pr.t) := cell_of hn5 8
  have s9 : w5.cell? ⟨B1, 9, none⟩ = some (.int .i64 r.vl.f) := cell_of hn5 9
  have s10 : w5.cell? ⟨B1, 10, none⟩ = some (.int .i64 r.vl.t) := cell_of hn5 10
  have HH : Hid (w5.heap[HC]? = some (.cells (partsN r.k r.o).vals 4 (0, 0))) := hh
  have HB5 : Hid (Below W2.heap.size W2 w5) := hb5
  have HSV : Hid ((w5.alloc (.cells (spV r) 46)).heap[w5.heap.size]? = some (.cells (spV r) 46 (0, 0))) := heap_new _ _
  have HS6 : Hid (Below w5.heap.size w5 (w5.alloc (.cells (spV r) 46))) := below_new _ _
  clear cH hh hge hb5 hn5 HN2
  go_upto_region 3 with fail
  clear s3 s4 s5 s6 s7 s8 s9 s10
  rw [show (w5.alloc (.cells #[.int .i64 r.sd.f, .int .i64 r.sd.t, .int .i64 r.qt.f, .int .i64 r.qt.t, .int .i64 r.pr.f, .int .i64 r.pr.t, .int .i64 r.vl.f, .int .i64 r.vl.t] 46)) = w5.alloc (.cells (spV r) 46) from rfl]
  generalize w5.alloc (.cells (spV r) 46) = W6 at HSV HS6 ⊢
  generalize w5.heap.size = SB at HSV ⊢
  have HH6 : Hid (W6.heap[HC]? = some (.cells (partsN r.k r.o).vals 4 (0, 0))) := (HS6.out.block _ (hp_lt HH.out)).trans HH.out
  have HB6 : Hid (Below W2.heap.size W2 W6) := below2 HB5.out HS6.out
  clear HH HB5 HS6
  go_wp2_with fail
  go_loopw [7] (fun q wr => ∃ (i : Nat), i ≤ 4 ∧ q = .int .i64 i ∧ Hid (Below W6.heap.size W6 wr) ∧ Hid (spsD t (hasR r i) = ANS)) (fun q _ => 4 - (intOf q).toNat)
  case atStart => exact ⟨0, by omega, rfl, Below.refl _ _, HA⟩
  case round =>
    obtain ⟨i, hi, rfl, HBR, HSR⟩ := hrel
    by_cases hlt : i < 4
    · have hlt' : (i : Int) < 4 := by omega
      have hmx : (i : Int) + 1 ≤ 9223372036854775807 := by omega
      have cP := cell_on (par_cell HH6.out i hlt) HBR.out
      obtain ⟨q1, q2⟩ := spn_cell HSV.out i hlt
      have hR := HSR.out
      rw [hasR_s r i hlt] at hR
      have hME : ∀ x, x ∈ hasR r i → SpW t x := fun x hx => HSX.out x (hasR_mem hx)
      rw [hasR_s r i hlt] at hME
      obtain ⟨d, ed⟩ : ∃ d, (spL r).getD i ⟨0, 0⟩ = d := ⟨_, rfl⟩
      rw [ed] at q1 q2 hR hME
      obtain ⟨bp, ebp⟩ : ∃ b, (prts (partsN r.k r.o)).getD i false = b := ⟨_, rfl⟩
      rw [ebp] at cP hR hME
      clear ed ebp
      cases bp with
      | false =>
        have HN : Hid (spsD t (hasR r (i + 1)) = ANS) := by show _ = _; simpa using hR
        clear hR hME q1 q2
        go_wp2_with fail
        exact ⟨⟨i + 1, hlt, rfl, HBR, HN⟩, by simp only [intOf]; omega⟩
      | true =>
        have hSD : SpW t d := hME d (by simp)
        have hR2 : (if spD t d == 0 then spsD t (hasR r (i + 1)) else spD t d) = ANS := by simpa [spsD] using hR
        have HR2 := hid_of hR2
        have HFA : Hid (∀ v : World, Below wr.heap.size wr v → v.heap[w.heap.size]? = some (.cells t.vals 27 (0, 0))) := fun v hv => ((below2 HB6.out (below2 HBR.out hv)).block _ (hp_lt HN1.out)).trans HN1.out
        have HFD : Hid (∀ v : World, Below wr.heap.size wr v → v.rangeAt SB (i * 2) d.vals.toList) := fun v hv j x hx => by
          have hj : j < 2 := (List.getElem?_eq_some_iff.1 hx).1
          obtain rfl | rfl : j = 0 ∨ j = 1 := by omega
          · cases hx; exact cell_on q1 (below2 HBR.out hv)
          · cases hx; exact cell_on q2 (below2 HBR.out hv)
        have cS := rspan_sp t d wr.drew ((HL.out.on (below2 HB6.out HBR.out)).on ⟨rfl, rfl, rfl, Nat.le_refl _, fun _ _ => rfl⟩) HMM.out hSD
        obtain ⟨E, eE⟩ : ∃ E, spD t d = E := ⟨_, rfl⟩
        rw [eE] at cS HR2
        clear hR hME q1 q2 hSD hR2 eE
        go_upto_region 7 with fail
        clear cP
        refine wp_region_held_drew (S := fun v => Below wr.heap.size wr v) (by kernel_rfl) ⟨rfl, rfl, rfl, Nat.le_refl _, fun _ _ => rfl⟩ (fun hHeld => ?_)
        refine wpAnyH_take (i := 0) (v := .agg t.vals) rfl (by kernel_rfl) (by kernel_rfl) (by kernel_rfl) (fun _ _ _ h => h) (yl_row (by rfl) 27 (.tmp 2) rfl w.heap.size rfl 27 t.vals (0, 0) _ HFA.out Tryz.underlying27 rfl size26') (by assumption) ?_
        try simp [Act.put]
        refine wpAnyH_take (i := 1) (v := ?_) rfl (by kernel_rfl) (by kernel_rfl) (by kernel_rfl) (fun _ _ _ h => h) (Or.inl ⟨by rfl, ?_⟩) (by assumption) ?_
        rotate_left
        · (intro v hv; go_simp; try (with_reducible rfl))
        try simp [Act.put]
        refine wpAnyH_take (i := 2) (v := ?_) rfl (by kernel_rfl) (by kernel_rfl) (by kernel_rfl) (fun _ _ _ h => h) (Or.inl ⟨by rfl, ?_⟩) (by assumption) ?_
        rotate_left
        · (intro v hv; go_simp; try (with_reducible rfl))
        try simp [Act.put]
        refine wpAnyH_take (i := 3) (v := ?_) rfl (by kernel_rfl) (by kernel_rfl) (by kernel_rfl) (fun _ _ _ h => h) (Or.inl ⟨by rfl, ?_⟩) (by assumption) ?_
        rotate_left
        · (intro v hv; go_simp; try (with_reducible rfl))
        try simp [Act.put]
        refine wpAnyH_take (i := 4) (v := .agg d.vals) rfl (by kernel_rfl) (by kernel_rfl) (by kernel_rfl) (fun _ _ _ h => h) (yl_mid (by rfl) 46 (.tmp 31) rfl SB (i * 2) rfl d.vals _ HFD.out Tryz.underlying46 rfl (by show _ = some 2; exact size65')) (by assumption) ?_
        try simp [Act.put]
        refine wpAnyH_ready (rs := [5]) (by kernel_rfl) (by simp) ?_
        refine AllReadyH.cons rfl (fun K hK => ?_) AllReadyH.nil
        go_simp
        refine cS.mono ?_
        rintro e w7 ⟨rfl, hb7⟩
        have hB7 : Below wr.heap.size wr w7 := ⟨hb7.os, hb7.tape, hb7.output, hb7.size, hb7.block⟩
        have HB7 : Hid (Below W6.heap.size W6 w7) := below2 HBR.out hB7
        refine hK.out _ _ hB7 (fun hHeld => ?_)
        clear hK K cS hb7 hB7
        try simp [Act.put]
        refine wpAnyH_take (i := 6) (v := ?_) rfl (by kernel_rfl) (by kernel_rfl) (by kernel_rfl) (fun _ _ _ h => h) (Or.inl ⟨by rfl, ?_⟩) (by assumption) ?_
        rotate_left
        · (intro v hv; go_simp; try (with_reducible rfl))
        try simp [Act.put]
        refine wpAnyH_done (by kernel_rfl) ?_ _
        cases hE : (E != 0) with
        | true =>
          have HN : Hid (ANS = E) := by show _ = _; rw [← HR2.out, if_neg (by simpa using hE)]
          go_wp2_with fail
          go_ret
          exact ⟨by rw [HN.out]; rfl, below2 HB2.out (below2 HB6.out HB7.out)⟩
        | false =>
          have HN : Hid (spsD t (hasR r (i + 1)) = ANS) := by show _ = _; rw [← HR2.out, if_pos (by simpa using hE)]
          go_wp2_with fail
          exact ⟨⟨i + 1, hlt, rfl, HB7, HN⟩, by simp only [intOf]; omega⟩
    · obtain rfl : i = 4 := by omega
      have HN : Hid (ANS = 0) := by show _ = _; rw [← HSR.out, hasR_4]; rfl
      go_wp2_with fail
      go_ret
      exact ⟨by rw [HN.out]; rfl, below2 HB2.out (below2 HB6.out HBR.out)⟩
end Go.Proofs.YteedmmljahgpjabGreatDoor

/-
  Heights ahead are noughts: the checker's answer span by span.
-/
namespace Go.Proofs.YteedmmljahgpjabGreatDoor
open Go.RowKit
set_option linter.unusedVariables false
set_option linter.unusedSimpArgs false
/-- The same from a place on. -/
def Agr (a : Nat) (h h' : Nat → Int) : Prop := ∀ j, a ≤ j → h j = h' j
def Zr (b : Nat) (h : Nat → Int) : Prop := ∀ j, b < j → h j = 0
theorem Agr.mono {a b : Nat} {h h' : Nat → Int} (k : Agr a h h') (hab : a ≤ b) : Agr b h h' := fun j hj => k j (Nat.le_trans hab hj)
theorem Agr.upd {a : Nat} {h h' : Nat → Int} (k : Agr a h h') (p : Nat) (x : Int) : Agr a (upd h p x) (upd h' p x) := fun j hj => by
  unfold Go.Proofs.YteedmmljahgpjabGreatDoor.upd
  split
  · rfl
  · exact k j hj
theorem Agr.comeB {a : Nat} {h h' : Nat → Int} (k : Agr a h h') {p : Nat} (hp : a ≤ p) (x : Int) : comeB h p x = comeB h' p x := by
  unfold Go.Proofs.YteedmmljahgpjabGreatDoor.comeB; rw [k p hp]
theorem Agr.comeH {a : Nat} {h h' : Nat → Int} (k : Agr a h h') (p : Nat) (x : Int) : Agr a (comeH h p x) (comeH h' p x) := by
  unfold Go.Proofs.YteedmmljahgpjabGreatDoor.comeH
  split
  · exact k.upd p _
  · exact k
theorem Agr.and2 {a : Nat} {h h' : Nat → Int} (k : Agr a h h') {p q : Nat} (hp : a ≤ p) (hq : a ≤ q) (x y : Int) : (and2 h p x q y).1 = (and2 h' p x q y).1 ∧ Agr a (and2 h p x q y).2 (and2 h' p x q y).2 := by
  unfold Go.Proofs.YteedmmljahgpjabGreatDoor.and2
  rw [k.comeB hp x]
  split
  · exact ⟨(k.comeH p x).comeB hq y, (k.comeH p x).comeH q y⟩
  · exact ⟨rfl, k.comeH p x⟩
theorem Zr.comeH {b : Nat} {h : Nat → Int} (k : Zr b h) {p : Nat} (hp : p ≤ b) (x : Int) : Zr b (comeH h p x) := by
  unfold Go.Proofs.YteedmmljahgpjabGreatDoor.comeH
  split
  · intro j hj
    unfold Go.Proofs.YteedmmljahgpjabGreatDoor.upd
    rw [if_neg (by omega)]
    exact k j hj
  · exact k
theorem Zr.and2 {b : Nat} {h : Nat → Int} (k : Zr b h) {p q : Nat} (hp : p ≤ b) (hq : q ≤ b) (x y : Int) : Zr b (and2 h p x q y).2 := by
  unfold Go.Proofs.YteedmmljahgpjabGreatDoor.and2
  split
  · exact (k.comeH hp x).comeH hq y
  · exact k.comeH hp x
def Jmp (d : InM) (a b : Nat) : Prop := (d.k = 6 ∨ d.k = 7 ∨ d.k = 8 ∨ d.k = 9) → a + 1 ≤ d.a.toNat ∧ d.a.toNat ≤ b
theorem jmp_of {t : TbM} {d : InM} {a b : Nat} (h : standB t d a b = true) : Jmp d a b := fun e => by
  have hwb : withinB ((a : Int) + 1) d.a (b : Int) = true := by
    unfold standB at h
    rcases e with e | e | e | e <;> simpa [e] using h
  unfold withinB at hwb
  simp at hwb
  omega
theorem goF_agr {a b : Nat} {h h' : Nat → Int} {d : InM} {x : Int} (k : Agr (a + 1) h h') (j : Jmp d a b) : (goF h d a x).1 = (goF h' d a x).1 ∧ Agr (a + 1) (goF h d a x).2 (goF h' d a x).2 := by
  unfold goF
  cases e5 : (d.k == 5) with
  | true =>
    simp only [if_true]
    split
    · split
      · exact ⟨k.comeB (Nat.le_refl _) _, k.comeH _ _⟩
      · exact ⟨rfl, k⟩
    · split
      · exact ⟨k.comeB (Nat.le_refl _) _, k.comeH _ _⟩
      · exact ⟨rfl, k⟩
  | false =>
    simp only [Bool.false_eq_true, if_false]
    cases e6 : (d.k == 6) with
    | true =>
      simp only [if_true]
      exact k.and2 (j (.inl (by simpa using e6))).1 (Nat.le_refl _) _ _
    | false =>
      simp only [Bool.false_eq_true, if_false]
      cases e7 : (d.k == 7) with
      | true =>
        simp only [if_true]
        exact k.and2 (j (.inr (.inl (by simpa using e7)))).1 (Nat.le_refl _) _ _
      | false =>
        simp only [Bool.false_eq_true, if_false]
        cases e8 : (d.k == 8) with
        | true =>
          simp only [if_true]
          exact k.and2 (j (.inr (.inr (.inl (by simpa using e8))))).1 (Nat.le_refl _) _ _
        | false =>
          simp only [Bool.false_eq_true, if_false]
          cases e9 : (d.k == 9) with
          | true =>
            simp only [if_true]
            exact ⟨k.comeB (j (.inr (.inr (.inr (by simpa using e9))))).1 _, k.comeH _ _⟩
          | false =>
            simp only [Bool.false_eq_true, if_false]
            exact ⟨k.comeB (Nat.le_refl _) _, k.comeH _ _⟩
theorem goF_zr {a b : Nat} {h : Nat → Int} {d : InM} {x : Int} (k : Zr b h) (hab : a + 1 ≤ b) (j : Jmp d a b) : Zr b (goF h d a x).2 := by
  unfold goF
  cases e5 : (d.k == 5) with
  | true =>
    simp only [if_true]
    split
    · split
      · exact k.comeH hab _
      · exact k
    · split
      · exact k.comeH hab _
      · exact k
  | false =>
    simp only [Bool.false_eq_true, if_false]
    cases e6 : (d.k == 6) with
    | true =>
      simp only [if_true]
      exact k.and2 (j (.inl (by simpa using e6))).2 hab _ _
    | false =>
      simp only [Bool.false_eq_true, if_false]
      cases e7 : (d.k == 7) with
      | true =>
        simp only [if_true]
        exact k.and2 (j (.inr (.inl (by simpa using e7)))).2 hab _ _
      | false =>
        simp only [Bool.false_eq_true, if_false]
        cases e8 : (d.k == 8) with
        | true =>
          simp only [if_true]
          exact k.and2 (j (.inr (.inr (.inl (by simpa using e8))))).2 hab _ _
        | false =>
          simp only [Bool.false_eq_true, if_false]
          cases e9 : (d.k == 9) with
          | true =>
            simp only [if_true]
            exact k.comeH (j (.inr (.inr (.inr (by simpa using e9))))).2 _
          | false =>
            simp only [Bool.false_eq_true, if_false]
            exact k.comeH hab _
theorem fitsL_agr {ds : List InM} {b : Nat} : ∀ (n a : Nat) (h h' : Nat → Int), a + n = b → (∀ j, a ≤ j → j < b → Jmp (ds.getD j ⟨0, 0⟩) j b) → Agr a h h' → (fitsL ds n a h).1 = (fitsL ds n a h').1
  | 0, a, h, h', _, _, k => by simp only [fitsL]; rw [k a (Nat.le_refl _)]
  | n + 1, a, h, h', e, j, k => by
    simp only [fitsL]
    rw [k a (Nat.le_refl _)]
    split
    · rfl
    · obtain ⟨g1, g2⟩ := goF_agr (x := h' a - 1) (k.mono (Nat.le_succ a)) (j a (Nat.le_refl _) (by omega))
      rw [g1]
      split
      · exact fitsL_agr n (a + 1) _ _ (by omega) (fun i h1 h2 => j i (by omega) h2) g2
      · rfl
theorem fitsL_zr {ds : List InM} {b : Nat} : ∀ (n a : Nat) (h : Nat → Int), a + n = b → (∀ j, a ≤ j → j < b → Jmp (ds.getD j ⟨0, 0⟩) j b) → Zr b h → Zr b (fitsL ds n a h).2
  | 0, a, h, _, _, k => k
  | n + 1, a, h, e, j, k => by
    simp only [fitsL]
    split
    · exact k
    · have hz := goF_zr (x := h a - 1) k (by omega) (j a (Nat.le_refl _) (by omega))
      split
      · exact fitsL_zr n (a + 1) _ (by omega) (fun i h1 h2 => j i (by omega) h2) hz
      · exact hz
theorem span_agr {t : TbM} {h : Nat → Int} {f b : Nat} (hfb : f < b) (k : Zr f h) : (spanE t h f b).1 = (spanE t (fun _ => 0) f b).1 ∧ Zr b (spanE t h f b).2 := by
  unfold spanE
  cases hs : standsL t b (b - f) f with
  | false => exact ⟨rfl, fun j hj => k j (by omega)⟩
  | true =>
    have hj : ∀ j, f ≤ j → j < b → Jmp (t.ds.getD j ⟨0, 0⟩) j b := fun j h1 h2 => jmp_of (standsL_all _ _ hs j h1 (by omega))
    have ha : Agr f (upd h f 1) (upd (fun _ => 0) f 1) := fun j hj => by
      unfold Go.Proofs.YteedmmljahgpjabGreatDoor.upd
      split
      · rfl
      · exact k j (by omega)
    have h1 := fitsL_agr (ds := t.ds) (b - f) f _ _ (show f + (b - f) = b by omega) hj ha
    have hz : Zr b (upd h f 1) := fun j hj => by
      unfold Go.Proofs.YteedmmljahgpjabGreatDoor.upd
      rw [if_neg (by omega)]
      exact k j (by omega)
    have h2 := fitsL_zr (ds := t.ds) (b - f) f _ (show f + (b - f) = b by omega) hj hz
    simp only [if_true]
    rw [h1]
    split
    · exact ⟨rfl, h2⟩
    · exact ⟨rfl, h2⟩
/-- One thing behind another, the heights ahead noughts. -/
def Nxt (E : (Nat → Int) → Int × (Nat → Int)) (D : Int) (p q : Int) : Prop := ∀ h, Zr p.toNat h → (E h).1 = D ∧ (D = 0 → Zr q.toNat (E h).2)
theorem sp_nxt {t : TbM} {x : Sp} (h0 : 0 ≤ x.f) (h1 : x.f < x.t) : Nxt (fun h => spanE t h x.f.toNat x.t.toNat) (spD t x) x.f x.t := fun h k => by
  obtain ⟨a, b⟩ := span_agr (t := t) (h := h) (show x.f.toNat < x.t.toNat by omega) k
  exact ⟨a, fun _ => b⟩
theorem lies_le : ∀ (l : List Sp) (p q : Int), liesN p l = some q → p ≤ q
  | [], p, q, h => by simp [liesN] at h; omega
  | x :: l, p, q, h => by
    simp only [liesN] at h
    split at h
    · cases h
    · rename_i hc
      simp at hc
      have := lies_le l _ _ h
      omega
theorem lies_cons {x : Sp} {l : List Sp} {p q : Int} (h : liesN p (x :: l) = some q) : x.f = p ∧ x.f < x.t ∧ liesN x.t l = some q := by
  simp only [liesN] at h
  split at h
  · cases h
  · rename_i hc
    simp at hc
    exact ⟨hc.1, hc.2, h⟩
theorem sps_nxt {t : TbM} : ∀ (l : List Sp) (p q : Int), 0 ≤ p → liesN p l = some q → Nxt (fun h => spansE t h l) (spsD t l) p q
  | [], p, q, _, h => by
    simp [liesN] at h
    subst h
    exact fun h k => ⟨rfl, fun _ => k⟩
  | x :: l, p, q, hp, h => by
    obtain ⟨h1, h2, h3⟩ := lies_cons h
    subst h1
    have hs := sp_nxt (t := t) hp h2
    have hl := sps_nxt (t := t) l x.t q (by omega) h3
    intro g k
    obtain ⟨a, b⟩ := hs g k
    simp only [spansE, spsD]
    simp only at a b
    rw [a]
    by_cases e : spD t x = 0
    · rw [if_pos (by simpa using e), if_pos (by simpa using e)]
      exact hl _ (b e)
    · rw [if_neg (by simpa using e), if_neg (by simpa using e)]
      exact ⟨a, fun e' => absurd e' e⟩
def rwsD (t : TbM) : List RowM → Int
  | [] => 0
  | r :: l => if spsD t (hasL r) == 0 then rwsD t l else spsD t (hasL r)
theorem rws_nxt {t : TbM} : ∀ (l : List RowM) (p q : Int), 0 ≤ p → liesN p (l.map hasL).flatten = some q → Nxt (fun h => rowsE t h l) (rwsD t l) p q
  | [], p, q, _, h => by
    simp [liesN] at h
    subst h
    exact fun h k => ⟨rfl, fun _ => k⟩
  | r :: l, p, q, hp, h => by
    rw [List.map_cons, List.flatten_cons, liesN_app] at h
    obtain ⟨m, hm1, hm2⟩ := Option.bind_eq_some_iff.1 h
    have hs := sps_nxt (t := t) _ p m hp hm1
    have hl := rws_nxt (t := t) l m q (by have := lies_le _ _ _ hm1; omega) hm2
    intro g k
    obtain ⟨a, b⟩ := hs g k
    simp only [rowsE, rwsD]
    simp only at a b
    rw [a]
    by_cases e : spsD t (hasL r) = 0
    · rw [if_pos (by simpa using e), if_pos (by simpa using e)]
      exact hl _ (b e)
    · rw [if_neg (by simpa using e), if_neg (by simpa using e)]
      exact ⟨a, fun e' => absurd e' e⟩
def gdD (t : TbM) (g : GdM) : Int := if spD t g.wh == 0 then (if (readsN t.ds g.wh).1 == g.fd then (if (readsN t.ds g.wh).2 == g.rg then rwsD t g.rs else 193) else 193) else spD t g.wh
theorem gd_nxt {t : TbM} {sl : Int} {nr ns : Nat} (g : GdM) (p q : Int) (hp : 0 ≤ p) (h : gdN sl nr ns g p = some q) : Nxt (fun h => gdE t h g) (gdD t g) p q := by
  unfold gdN at h
  split at h
  · unfold gSp at h
    obtain ⟨h1, h2, h3⟩ := lies_cons h
    subst h1
    have hs := sp_nxt (t := t) hp h2
    have hl := rws_nxt (t := t) g.rs g.wh.t q (by omega) h3
    intro hh k
    obtain ⟨a, b⟩ := hs hh k
    simp only [gdE, gdD]
    simp only at a b
    rw [a]
    cases e : (spD t g.wh == 0) with
    | true =>
      have e' : spD t g.wh = 0 := by simpa using e
      simp only [if_true]
      cases e1 : ((readsN t.ds g.wh).1 == g.fd) with
      | true =>
        simp only [if_true]
        cases e2 : ((readsN t.ds g.wh).2 == g.rg) with
        | true =>
          simp only [if_true]
          exact hl _ (b e')
        | false =>
          simp only [Bool.false_eq_true, if_false]
          exact ⟨by first | rfl | trivial, fun k => by cases k⟩
      | false =>
        simp only [Bool.false_eq_true, if_false]
        exact ⟨by first | rfl | trivial, fun k => by cases k⟩
    | false =>
      have e' : ¬ spD t g.wh = 0 := by simpa using e
      simp only [Bool.false_eq_true, if_false]
      exact ⟨a, fun k => absurd k e'⟩
  · cases h
theorem gd_le {sl : Int} {nr ns : Nat} {g : GdM} {p q : Int} (h : gdN sl nr ns g p = some q) : p ≤ q := by
  unfold gdN at h
  split at h
  · exact lies_le _ _ _ h
  · cases h
def gdsD (t : TbM) : List GdM → Int
  | [] => 0
  | g :: l => if gdD t g == 0 then gdsD t l else gdD t g
theorem gds_nxt {t : TbM} {sl : Int} {nr ns : Nat} : ∀ (l : List GdM) (p q : Int), 0 ≤ p → gdsN sl nr ns p l = some q → Nxt (fun h => gdsE t h l) (gdsD t l) p q ∧ p ≤ q
  | [], p, q, _, h => by
    simp [gdsN] at h
    subst h
    exact ⟨fun h k => ⟨rfl, fun _ => k⟩, Int.le_refl _⟩
  | g :: l, p, q, hp, h => by
    simp only [gdsN] at h
    obtain ⟨m, hm1, hm2⟩ := Option.bind_eq_some_iff.1 h
    have hs := gd_nxt (t := t) g p m hp hm1
    have hle := gd_le hm1
    obtain ⟨hl, hle2⟩ := gds_nxt (t := t) l m q (by omega) hm2
    refine ⟨fun hh k => ?_, by omega⟩
    obtain ⟨a, b⟩ := hs hh k
    simp only [gdsE, gdsD]
    simp only at a b
    rw [a]
    by_cases e : gdD t g = 0
    · rw [if_pos (by simpa using e), if_pos (by simpa using e)]
      exact hl _ (b e)
    · rw [if_neg (by simpa using e), if_neg (by simpa using e)]
      exact ⟨a, fun e' => absurd e' e⟩
def stsD (t : TbM) : List StM → Int
  | [] => 0
  | s :: l => if gdsD t s.gs == 0 then stsD t l else gdsD t s.gs
theorem sts_nxt {t : TbM} {sl : Int} {nr ns : Nat} : ∀ (l : List StM) (p q : Int), 0 ≤ p → stsN sl nr ns p l = some q → Nxt (fun h => stsE t h l) (stsD t l) p q
  | [], p, q, _, h => by
    simp [stsN] at h
    subst h
    exact fun h k => ⟨rfl, fun _ => k⟩
  | s :: l, p, q, hp, h => by
    simp only [stsN] at h
    split at h
    · cases h
    · obtain ⟨m, hm1, hm2⟩ := Option.bind_eq_some_iff.1 h
      obtain ⟨hs, hle⟩ := gds_nxt (t := t) s.gs p m hp hm1
      have hl := sts_nxt (t := t) l m q (by omega) hm2
      intro hh k
      obtain ⟨a, b⟩ := hs hh k
      simp only [stsE, stsD]
      simp only at a b
      rw [a]
      by_cases e : gdsD t s.gs = 0
      · rw [if_pos (by simpa using e), if_pos (by simpa using e)]
        exact hl _ (b e)
      · rw [if_neg (by simpa using e), if_neg (by simpa using e)]
        exact ⟨a, fun e' => absurd e' e⟩
theorem checkD_eq (t : TbM) : checkE t = if formB t then stsD t t.ts else 190 := by
  unfold checkE
  cases hf : formB t with
  | false => rfl
  | true =>
    simp only [if_true]
    unfold formB at hf
    simp only [Bool.and_eq_true] at hf
    have he := hf.2
    unfold endB at he
    split at he
    · rename_i q hq
      exact (sts_nxt (t := t) t.ts 0 q (Int.le_refl _) hq (fun _ => 0) (fun _ _ => rfl)).1
    · cases he
end Go.Proofs.YteedmmljahgpjabGreatDoor
