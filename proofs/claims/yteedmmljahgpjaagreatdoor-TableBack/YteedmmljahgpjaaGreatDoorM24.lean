import Derived.Test.YteedmmljahgpjaaGreatDoorUd
import Derived.Deep.RegionHeld
/-
  The reader: a rule; a state.
-/
namespace Go.Proofs.YteedmmljahgpjaaGreatDoor
open Go.RowKit
set_option linter.unusedVariables false
set_option linter.unusedSimpArgs false
structure GdP where
  wh : Sp
  fd : Int
  rg : Int
  rs : List RowM
def RelG (g : GdP) (x : Array Value) (nb : List Bx) : Prop := ∃ a, x = GdM.vals ⟨g.wh, g.fd, g.rg, a, g.rs.length, g.rs⟩ ∧ Keep nb (fun V => SlAt V 11 a g.rs.length (g.rs.map RowM.vals))
def ruleR (ds : List InM) (l : List UInt8) (q : RS) (p : Int) : Option (GdP × RS × Int) :=
  (lenR q l p).bind fun d => (uptoR 8 l d.2.2).bind fun n => (listR (stR l) n.1.toNat d.2.1 n.2).map fun r => (⟨d.1, (readsN ds d.1).1, (readsN ds d.1).2, r.1⟩, r.2)
def IsT (q : RS) (t : TbM) : Prop := q.x0 = .string t.x ∧ q.x1 = .slice t.ra t.rs.length t.rc ∧ q.x2 = .int .i64 t.sl ∧ q.x3 = .slice t.ca t.cs.length t.cc ∧ q.x4 = .slice t.da t.ds.length t.dc ∧ q.x5 = .slice t.ta t.ts.length t.tc
theorem IsT.on {q q' : RS} {t : TbM} (h : IsT q t) (k : Same6 q q') : IsT q' t := ⟨k.1.trans h.1, k.2.1.trans h.2.1, k.2.2.1.trans h.2.2.1, k.2.2.2.1.trans h.2.2.2.1, k.2.2.2.2.1.trans h.2.2.2.2.1, k.2.2.2.2.2.trans h.2.2.2.2.2⟩
theorem rowsR_6 {l : List UInt8} : ∀ (n : Nat) {q q2 : RS} {p p2 : Int} {al : List RowM}, listR (stR l) n q p = some (al, q2, p2) → Same6 q q2 ∧ q.sp ≤ q2.sp ∧ q2.sp ≤ q.sp + 16384 * n ∧ al.length = n
  | 0, q, q2, p, p2, al, h => by
    unfold listR at h
    injection h with h
    injection h with a b
    injection b with b c
    subst a b
    exact ⟨Same6.refl _, Int.le_refl _, by simp, rfl⟩
  | n + 1, q, q2, p, p2, al, h => by
    unfold listR at h
    obtain ⟨⟨d, q1, p1⟩, h1, h2⟩ := Option.bind_eq_some_iff.1 h
    obtain ⟨⟨y, q3, p3⟩, h3, h4⟩ := Option.map_eq_some_iff.1 h2
    have hq : q3 = q2 := by injection h4 with a b; injection b
    have hal : d :: y = al := by injection h4
    subst hq hal
    obtain ⟨a1, a2, a3⟩ := rowR_6 h1
    obtain ⟨b1, b2, b3, b4⟩ := rowsR_6 n h3
    simp only at b1 b2 b3
    exact ⟨a1.trans b1, by omega, by omega, by rw [List.length_cons, b4]⟩
theorem ruleR_6 {ds : List InM} {l : List UInt8} {q q2 : RS} {p p2 : Int} {g : GdP} (h : ruleR ds l q p = some (g, q2, p2)) : Same6 q q2 ∧ q.sp ≤ q2.sp ∧ q2.sp ≤ q.sp + 200000 := by
  unfold ruleR at h
  obtain ⟨⟨d, q1, p1⟩, h1, h2⟩ := Option.bind_eq_some_iff.1 h
  obtain ⟨⟨n, pn⟩, hn, h2⟩ := Option.bind_eq_some_iff.1 h2
  obtain ⟨⟨y, q3, p3⟩, h3, h4⟩ := Option.map_eq_some_iff.1 h2
  have hq : q3 = q2 := by injection h4 with a b; injection b
  subst hq
  have := uptoR_bd hn
  obtain ⟨a1, a2, a3⟩ := lenR_6 h1
  obtain ⟨b1, b2, b3, _⟩ := rowsR_6 _ h3
  simp only at b1 b2 b3
  exact ⟨a1.trans b1, by omega, by omega⟩
theorem Rd.row2 {w0 V : World} {mz R g : Nat} {bs bs' : List Bx} {q : RS} {s : ByteArray} {p : Int} (h : Rd w0 mz V R bs q s p) (hg : w0.heap.size ≤ g) (hR : g ≠ R) (cs : Array Value) (hsub : ∀ b ∈ bs', b ∈ bs) (hN : ∀ b ∈ bs', b.1 ≠ g) : Rd w0 mz (V.setRow g cs) R bs' q s p :=
  ⟨(setRow_other _ _ _ _ (Ne.symm hR)).trans h.H, below_row h.B hg _, h.G, fun b hb => ⟨(setRow_other _ _ _ _ (hN b hb)).trans (h.K b (hsub b hb)).1, (h.K b (hsub b hb)).2⟩, fun b hb => h.L b (hsub b hb), by have := h.M; unfold World.setRow; simpa using this⟩
set_option maxRecDepth 100000 in
set_option maxHeartbeats 4000000 in
theorem rrule_any (R : Nat) (bs : List Bx) (q : RS) (s : ByteArray) (p : Int) (t : TbM) (w : World) {mz : Nat} (w0 : World) (h : Rd w0 mz w R bs q s p) (hmz : mz = w.heap.size) (hs : s.size ≤ 1099511627776) (hq : 0 ≤ q.sp ∧ q.sp ≤ 300000000000) (hqt : IsT q t) (bs0 : List Bx) (hsub : ∀ b ∈ bs0, b ∈ bs) (hK : Keep bs0 (fun V => TbL V t)) : Calls Tryz.prog 136 #[.pointer (some ⟨R, 0, none⟩)] w fun e w' => OutS w0 mz R bs s RelG Value.agg w.heap.size (ruleR t.ds s.data.toList q p) e w' := by
  have hmf : ∀ (fn : Fn) (first cap : Array Value) (w : World), (Instr.makeFunc fn first cap).run Tryz.prog w = .ok (.func fn first cap) w := fun _ _ _ _ => rfl
  have HW0 : Hid (w0.heap.size ≤ w.heap.size) := h.B.size
  have HWR : Hid (w.heap.size ≠ R) := by have := h.lt; show _ ≠ _; omega
  have HFR : Hid (∀ b ∈ bs, b.1 ≠ w.heap.size) := h.fresh
  have HR1 : Hid (Rd w0 mz (w.alloc (.cells #[.int .i64 0, .int .i64 0, .int .u16 0, .int .u16 0, .slice none 0 0] 68)) R ((w.heap.size, 68, #[.int .i64 0, .int .i64 0, .int .u16 0, .int .u16 0, .slice none 0 0]) :: bs) q s p) := h.add (below_new _ _) _ _ _ (Nat.le_refl _) (heap_new _ _)
  have HMZ : Hid (mz = w.heap.size) := hmz
  obtain ⟨W1, e1⟩ : ∃ W, w.alloc (.cells #[.int .i64 0, .int .i64 0, .int .u16 0, .int .u16 0, .slice none 0 0] 68) = W := ⟨_, rfl⟩
  have E1 : Hid (w.alloc (.cells #[.int .i64 0, .int .i64 0, .int .u16 0, .int .u16 0, .slice none 0 0] 68) = W1) := e1
  rw [e1] at HR1
  have HQT : Hid (IsT q t) := hqt
  have HSB : Hid (∀ b ∈ bs0, b ∈ bs) := hsub
  have HKT : Hid (Keep bs0 (fun V => TbL V t)) := hK
  unfold ruleR
  clear h e1 hqt hsub hK hmz
  cases hL : lenR q s.data.toList p with
  | none =>
    have cL := len_no HR1.out hs ⟨hq.1, by omega⟩ hL
    show Calls Tryz.prog 136 #[.pointer (some ⟨R, 0, none⟩)] w (fun e w' => e = pan pf ∧ Below w0.heap.size w0 w')
    go_enter Tryz.func136, Tryz.ntmps136
    go_upto_region 1 with fail
    rw [E1.out]
    clear E1
    go_wp2_with fail
    refine cL.mono ?_
    rintro e w2 ⟨rfl, hb⟩
    exact ⟨rfl, rfl, hb⟩
  | some dq =>
    obtain ⟨d, q1, p1⟩ := dq
    have cL := len_ok HR1.out hs ⟨hq.1, by omega⟩ hL
    obtain ⟨hS1, hq10, hq11⟩ := lenR_6 hL
    have HS1 : Hid (Same6 q q1) := hS1
    show Calls Tryz.prog 136 #[.pointer (some ⟨R, 0, none⟩)] w (OutS w0 mz R bs s RelG Value.agg w.heap.size (Option.bind (uptoR 8 s.data.toList p1) _))
    cases hn : uptoR 8 s.data.toList p1 with
    | none =>
      show Calls Tryz.prog 136 #[.pointer (some ⟨R, 0, none⟩)] w (fun e w' => e = pan pf ∧ Below w0.heap.size w0 w')
      clear hL hS1
      go_enter Tryz.func136, Tryz.ntmps136
      go_upto_region 1 with fail
      rw [E1.out]
      clear E1
      go_wp2_with fail
      refine cL.mono ?_
      rintro e w2 ⟨rfl, hr2⟩
      have hf2 := hr2.fresh
      have HZ : Hid ((w2.alloc (.cells #[.int .i64 0, .int .i64 0] 65)).heap[w2.heap.size]? = some (.cells #[.int .i64 0, .int .i64 0] 65 (0, 0))) := heap_new _ _
      have hbx : Below w2.heap.size w2 ((w2.alloc (.cells #[.int .i64 0, .int .i64 0] 65)).setRow w2.heap.size d.vals) := below_row (below_new _ _) (Nat.le_refl _) _
      have hR3 := hr2.add hbx w2.heap.size 65 d.vals (Nat.le_refl _) (setRow_heap _ _ _ _ _ _ HZ.out)
      have HR3 : Hid (Rd w0 mz ((w2.alloc (.cells #[.int .i64 0, .int .i64 0] 65)).setRow w2.heap.size d.vals) R ((w2.heap.size, 65, d.vals) :: (w.heap.size, 68, #[.int .i64 0, .int .i64 0, .int .u16 0, .int .u16 0, .slice none 0 0]) :: bs) q1 s p1) := hR3
      clear cL hr2 hbx hR3
      go_upto_region 2 with (refine wpList_store_row rfl 65 (.tmp 3) (.tmp 5) rfl w2.heap.size d.vals rfl rfl 65 #[.int .i64 0, .int .i64 0] HZ.out size65' rfl (allSp d) ?_)
      obtain ⟨g3, eg3⟩ : ∃ g, w2.heap.size = g := ⟨_, rfl⟩
      rw [eg3] at HR3 hf2 ⊢
      generalize World.setRow _ _ _ = W3 at HR3 ⊢
      clear HZ eg3
      have HFA : Hid (∀ v : World, v.heap[g3]? = some (.cells d.vals 65 (0, 0)) → v.cell? ⟨g3, 0, none⟩ = some (.int .i64 d.f) ∧ v.cell? ⟨g3, 1, none⟩ = some (.int .i64 d.t)) := fun v hv => ⟨cell_of hv 0, cell_of hv 1⟩
      have HRd : Hid (Rd w0 mz W3.drew R ((g3, 65, d.vals) :: (w.heap.size, 68, #[.int .i64 0, .int .i64 0, .int .u16 0, .int .u16 0, .slice none 0 0]) :: bs) q1 s p1) := HR3.out.on ⟨rfl, rfl, rfl, Nat.le_refl _, fun _ _ => rfl⟩
      refine wp_region_held_drew (S := fun v => v.heap[g3]? = some (.cells d.vals 65 (0, 0))) (by kernel_rfl) HRd.out.box (fun hHeld => ?_)
      have cU := upto_no HRd.out hs (by omega) hn
      refine wpAnyH_take (i := 0) (v := ?_) rfl (by kernel_rfl) (by kernel_rfl) (by kernel_rfl) (fun _ _ _ h => h) (Or.inl ⟨by rfl, ?_⟩) (by assumption) ?_
      rotate_left
      · (intro v hv; go_simp; try (with_reducible rfl))
      try simp [Act.put]
      refine wpAnyH_take (i := 1) (v := ?_) rfl (by kernel_rfl) (by kernel_rfl) (by kernel_rfl) (fun _ _ _ h => h) (Or.inl ⟨by rfl, ?_⟩) (by assumption) ?_
      rotate_left
      · (intro v hv; go_simp; try (with_reducible rfl))
      try simp [Act.put]
      refine wpAnyH_take (i := 2) (v := ?_) rfl (by kernel_rfl) (by kernel_rfl) (by kernel_rfl) (fun _ _ _ h => h) (Or.inl ⟨by rfl, ?_⟩) (by assumption) ?_
      rotate_left
      · (intro v hv; go_simp; try (with_reducible rfl))
      try simp [Act.put]
      refine wpAnyH_take (i := 3) (v := ?_) rfl (by kernel_rfl) (by kernel_rfl) (by kernel_rfl) (fun _ _ _ h => h) (Or.inl ⟨by rfl, ?_⟩) (by assumption) ?_
      rotate_left
      · (intro v hv; obtain ⟨b0, b1⟩ := HFA.out v hv; go_simp; try (with_reducible rfl))
      try simp [Act.put]
      refine wpAnyH_take (i := 4) (v := ?_) rfl (by kernel_rfl) (by kernel_rfl) (by kernel_rfl) (fun _ _ _ h => h) (Or.inl ⟨by rfl, ?_⟩) (by assumption) ?_
      rotate_left
      · (intro v hv; go_simp; try (with_reducible rfl))
      try simp [Act.put]
      refine wpAnyH_take (i := 6) (v := ?_) rfl (by kernel_rfl) (by kernel_rfl) (by kernel_rfl) (fun _ _ _ h => h) (Or.inl ⟨by rfl, ?_⟩) (by assumption) ?_
      rotate_left
      · (intro v hv; go_simp; try (with_reducible rfl))
      try simp [Act.put]
      refine wpAnyH_take (i := 7) (v := ?_) rfl (by kernel_rfl) (by kernel_rfl) (by kernel_rfl) (fun _ _ _ h => h) (Or.inl ⟨by rfl, ?_⟩) (by assumption) ?_
      rotate_left
      · (intro v hv; go_simp; try (with_reducible rfl))
      try simp [Act.put]
      refine wpAnyH_ready (rs := [5]) (by kernel_rfl) (by simp) ?_
      refine AllReadyH.cons rfl (fun K hK => ?_) AllReadyH.nil
      go_simp
      refine cU.mono ?_
      rintro e w4 ⟨rfl, hb⟩
      exact ⟨rfl, rfl, hb⟩
    | some np =>
      obtain ⟨n, p2⟩ := np
      obtain ⟨hn0, hn8⟩ := uptoR_bd hn
      obtain ⟨k, rfl⟩ := Int.eq_ofNat_of_zero_le hn0
      show Calls Tryz.prog 136 #[.pointer (some ⟨R, 0, none⟩)] w (OutS w0 mz R bs s RelG Value.agg w.heap.size (Option.map _ (listR (stR s.data.toList) k q1 p2)))
      have hk8 : k ≤ 8 := by omega
      cases hrs : listR (stR s.data.toList) k q1 p2 with
      | none =>
        show Calls Tryz.prog 136 #[.pointer (some ⟨R, 0, none⟩)] w (fun e w' => e = pan pf ∧ Below w0.heap.size w0 w')
        clear hL hS1
        go_enter Tryz.func136, Tryz.ntmps136
        go_upto_region 1 with fail
        rw [E1.out]
        clear E1
        go_wp2_with fail
        refine cL.mono ?_
        rintro e w2 ⟨rfl, hr2⟩
        have hf2 := hr2.fresh
        have HZ : Hid ((w2.alloc (.cells #[.int .i64 0, .int .i64 0] 65)).heap[w2.heap.size]? = some (.cells #[.int .i64 0, .int .i64 0] 65 (0, 0))) := heap_new _ _
        have hbx : Below w2.heap.size w2 ((w2.alloc (.cells #[.int .i64 0, .int .i64 0] 65)).setRow w2.heap.size d.vals) := below_row (below_new _ _) (Nat.le_refl _) _
        have hR3 := hr2.add hbx w2.heap.size 65 d.vals (Nat.le_refl _) (setRow_heap _ _ _ _ _ _ HZ.out)
        have HR3 : Hid (Rd w0 mz ((w2.alloc (.cells #[.int .i64 0, .int .i64 0] 65)).setRow w2.heap.size d.vals) R ((w2.heap.size, 65, d.vals) :: (w.heap.size, 68, #[.int .i64 0, .int .i64 0, .int .u16 0, .int .u16 0, .slice none 0 0]) :: bs) q1 s p1) := hR3
        clear cL hr2 hbx hR3
        go_upto_region 2 with (refine wpList_store_row rfl 65 (.tmp 3) (.tmp 5) rfl w2.heap.size d.vals rfl rfl 65 #[.int .i64 0, .int .i64 0] HZ.out size65' rfl (allSp d) ?_)
        obtain ⟨g3, eg3⟩ : ∃ g, w2.heap.size = g := ⟨_, rfl⟩
        rw [eg3] at HR3 hf2 ⊢
        generalize World.setRow _ _ _ = W3 at HR3 ⊢
        clear HZ eg3
        have HFA : Hid (∀ v : World, v.heap[g3]? = some (.cells d.vals 65 (0, 0)) → v.cell? ⟨g3, 0, none⟩ = some (.int .i64 d.f) ∧ v.cell? ⟨g3, 1, none⟩ = some (.int .i64 d.t)) := fun v hv => ⟨cell_of hv 0, cell_of hv 1⟩
        have HRd : Hid (Rd w0 mz W3.drew R ((g3, 65, d.vals) :: (w.heap.size, 68, #[.int .i64 0, .int .i64 0, .int .u16 0, .int .u16 0, .slice none 0 0]) :: bs) q1 s p1) := HR3.out.on ⟨rfl, rfl, rfl, Nat.le_refl _, fun _ _ => rfl⟩
        refine wp_region_held_drew (S := fun v => v.heap[g3]? = some (.cells d.vals 65 (0, 0))) (by kernel_rfl) HRd.out.box (fun hHeld => ?_)
        have cU := upto_ok HRd.out hs (by omega) hn
        refine wpAnyH_take (i := 0) (v := ?_) rfl (by kernel_rfl) (by kernel_rfl) (by kernel_rfl) (fun _ _ _ h => h) (Or.inl ⟨by rfl, ?_⟩) (by assumption) ?_
        rotate_left
        · (intro v hv; go_simp; try (with_reducible rfl))
        try simp [Act.put]
        refine wpAnyH_take (i := 1) (v := ?_) rfl (by kernel_rfl) (by kernel_rfl) (by kernel_rfl) (fun _ _ _ h => h) (Or.inl ⟨by rfl, ?_⟩) (by assumption) ?_
        rotate_left
        · (intro v hv; go_simp; try (with_reducible rfl))
        try simp [Act.put]
        refine wpAnyH_take (i := 2) (v := ?_) rfl (by kernel_rfl) (by kernel_rfl) (by kernel_rfl) (fun _ _ _ h => h) (Or.inl ⟨by rfl, ?_⟩) (by assumption) ?_
        rotate_left
        · (intro v hv; go_simp; try (with_reducible rfl))
        try simp [Act.put]
        refine wpAnyH_take (i := 3) (v := ?_) rfl (by kernel_rfl) (by kernel_rfl) (by kernel_rfl) (fun _ _ _ h => h) (Or.inl ⟨by rfl, ?_⟩) (by assumption) ?_
        rotate_left
        · (intro v hv; obtain ⟨b0, b1⟩ := HFA.out v hv; go_simp; try (with_reducible rfl))
        try simp [Act.put]
        refine wpAnyH_take (i := 4) (v := ?_) rfl (by kernel_rfl) (by kernel_rfl) (by kernel_rfl) (fun _ _ _ h => h) (Or.inl ⟨by rfl, ?_⟩) (by assumption) ?_
        rotate_left
        · (intro v hv; go_simp; try (with_reducible rfl))
        try simp [Act.put]
        refine wpAnyH_take (i := 6) (v := ?_) rfl (by kernel_rfl) (by kernel_rfl) (by kernel_rfl) (fun _ _ _ h => h) (Or.inl ⟨by rfl, ?_⟩) (by assumption) ?_
        rotate_left
        · (intro v hv; go_simp; try (with_reducible rfl))
        try simp [Act.put]
        refine wpAnyH_take (i := 7) (v := ?_) rfl (by kernel_rfl) (by kernel_rfl) (by kernel_rfl) (fun _ _ _ h => h) (Or.inl ⟨by rfl, ?_⟩) (by assumption) ?_
        rotate_left
        · (intro v hv; go_simp; try (with_reducible rfl))
        try simp [Act.put]
        refine wpAnyH_ready (rs := [5]) (by kernel_rfl) (by simp) ?_
        refine AllReadyH.cons rfl (fun K hK => ?_) AllReadyH.nil
        go_simp
        refine cU.mono ?_
        rintro e w4 ⟨rfl, hr4⟩
        have cR := rows_any (n := k) hr4 hs hk8 ⟨by omega, by omega⟩
        rw [hrs] at cR
        replace cR : Calls Tryz.prog 151 #[.int .i64 k, .func (.func 152) #[.pointer (some ⟨R, 0, none⟩)] #[]] w4 (fun e w' => e = pan pf ∧ Below w0.heap.size w0 w') := cR
        refine hK.out _ _ hr4.box (fun hHeld => ?_)
        clear hK K cU hr4
        try simp [Act.put]
        refine wpAnyH_ready (rs := [8]) (by kernel_rfl) (by simp) ?_
        refine AllReadyH.cons rfl (fun K hK => ?_) AllReadyH.nil
        go_simp
        refine cR.mono ?_
        rintro e w5 ⟨rfl, hb⟩
        exact ⟨rfl, rfl, hb⟩
      | some rq =>
        obtain ⟨rows, q3, p3⟩ := rq
        obtain ⟨hS3, _, _, hlen⟩ := rowsR_6 k hrs
        have HS3 : Hid (Same6 q1 q3) := hS3
        show Calls Tryz.prog 136 #[.pointer (some ⟨R, 0, none⟩)] w (fun e w' => ∃ x nb, e = .returned (.agg x) ∧ RelG ⟨d, (readsN t.ds d).1, (readsN t.ds d).2, rows⟩ x nb ∧ Rd w0 mz w' R (nb ++ bs) q3 s p3 ∧ (∀ b ∈ nb, w.heap.size ≤ b.1) ∧ w.heap.size ≤ w'.heap.size)
        clear hL hS1 hS3
        go_enter Tryz.func136, Tryz.ntmps136
        go_upto_region 1 with fail
        rw [E1.out]
        clear E1
        go_wp2_with fail
        refine cL.mono ?_
        rintro e w2 ⟨rfl, hr2⟩
        have hf2 := hr2.fresh
        have HZ : Hid ((w2.alloc (.cells #[.int .i64 0, .int .i64 0] 65)).heap[w2.heap.size]? = some (.cells #[.int .i64 0, .int .i64 0] 65 (0, 0))) := heap_new _ _
        have hbx : Below w2.heap.size w2 ((w2.alloc (.cells #[.int .i64 0, .int .i64 0] 65)).setRow w2.heap.size d.vals) := below_row (below_new _ _) (Nat.le_refl _) _
        have hR3 := hr2.add hbx w2.heap.size 65 d.vals (Nat.le_refl _) (setRow_heap _ _ _ _ _ _ HZ.out)
        have HR3 : Hid (Rd w0 mz ((w2.alloc (.cells #[.int .i64 0, .int .i64 0] 65)).setRow w2.heap.size d.vals) R ((w2.heap.size, 65, d.vals) :: (w.heap.size, 68, #[.int .i64 0, .int .i64 0, .int .u16 0, .int .u16 0, .slice none 0 0]) :: bs) q1 s p1) := hR3
        clear cL hr2 hbx hR3
        go_upto_region 2 with (refine wpList_store_row rfl 65 (.tmp 3) (.tmp 5) rfl w2.heap.size d.vals rfl rfl 65 #[.int .i64 0, .int .i64 0] HZ.out size65' rfl (allSp d) ?_)
        obtain ⟨g3, eg3⟩ : ∃ g, w2.heap.size = g := ⟨_, rfl⟩
        rw [eg3] at HR3 hf2 ⊢
        generalize World.setRow _ _ _ = W3 at HR3 ⊢
        clear HZ eg3
        have HFA : Hid (∀ v : World, v.heap[g3]? = some (.cells d.vals 65 (0, 0)) → v.cell? ⟨g3, 0, none⟩ = some (.int .i64 d.f) ∧ v.cell? ⟨g3, 1, none⟩ = some (.int .i64 d.t)) := fun v hv => ⟨cell_of hv 0, cell_of hv 1⟩
        have HRd : Hid (Rd w0 mz W3.drew R ((g3, 65, d.vals) :: (w.heap.size, 68, #[.int .i64 0, .int .i64 0, .int .u16 0, .int .u16 0, .slice none 0 0]) :: bs) q1 s p1) := HR3.out.on ⟨rfl, rfl, rfl, Nat.le_refl _, fun _ _ => rfl⟩
        refine wp_region_held_drew (S := fun v => v.heap[g3]? = some (.cells d.vals 65 (0, 0))) (by kernel_rfl) HRd.out.box (fun hHeld => ?_)
        have cU := upto_ok HRd.out hs (by omega) hn
        refine wpAnyH_take (i := 0) (v := ?_) rfl (by kernel_rfl) (by kernel_rfl) (by kernel_rfl) (fun _ _ _ h => h) (Or.inl ⟨by rfl, ?_⟩) (by assumption) ?_
        rotate_left
        · (intro v hv; go_simp; try (with_reducible rfl))
        try simp [Act.put]
        refine wpAnyH_take (i := 1) (v := ?_) rfl (by kernel_rfl) (by kernel_rfl) (by kernel_rfl) (fun _ _ _ h => h) (Or.inl ⟨by rfl, ?_⟩) (by assumption) ?_
        rotate_left
        · (intro v hv; go_simp; try (with_reducible rfl))
        try simp [Act.put]
        refine wpAnyH_take (i := 2) (v := ?_) rfl (by kernel_rfl) (by kernel_rfl) (by kernel_rfl) (fun _ _ _ h => h) (Or.inl ⟨by rfl, ?_⟩) (by assumption) ?_
        rotate_left
        · (intro v hv; go_simp; try (with_reducible rfl))
        try simp [Act.put]
        refine wpAnyH_take (i := 3) (v := ?_) rfl (by kernel_rfl) (by kernel_rfl) (by kernel_rfl) (fun _ _ _ h => h) (Or.inl ⟨by rfl, ?_⟩) (by assumption) ?_
        rotate_left
        · (intro v hv; obtain ⟨b0, b1⟩ := HFA.out v hv; go_simp; try (with_reducible rfl))
        try simp [Act.put]
        refine wpAnyH_take (i := 4) (v := ?_) rfl (by kernel_rfl) (by kernel_rfl) (by kernel_rfl) (fun _ _ _ h => h) (Or.inl ⟨by rfl, ?_⟩) (by assumption) ?_
        rotate_left
        · (intro v hv; go_simp; try (with_reducible rfl))
        try simp [Act.put]
        refine wpAnyH_take (i := 6) (v := ?_) rfl (by kernel_rfl) (by kernel_rfl) (by kernel_rfl) (fun _ _ _ h => h) (Or.inl ⟨by rfl, ?_⟩) (by assumption) ?_
        rotate_left
        · (intro v hv; go_simp; try (with_reducible rfl))
        try simp [Act.put]
        refine wpAnyH_take (i := 7) (v := ?_) rfl (by kernel_rfl) (by kernel_rfl) (by kernel_rfl) (fun _ _ _ h => h) (Or.inl ⟨by rfl, ?_⟩) (by assumption) ?_
        rotate_left
        · (intro v hv; go_simp; try (with_reducible rfl))
        try simp [Act.put]
        refine wpAnyH_ready (rs := [5]) (by kernel_rfl) (by simp) ?_
        refine AllReadyH.cons rfl (fun K hK => ?_) AllReadyH.nil
        go_simp
        refine cU.mono ?_
        rintro e w4 ⟨rfl, hr4⟩
        have cR := rows_any (n := k) hr4 hs hk8 ⟨by omega, by omega⟩
        rw [hrs] at cR
        have HL4 : Hid (w.heap.size < w4.heap.size) := (Array.getElem?_eq_some_iff.1 hr4.less.box).1
        refine hK.out _ _ hr4.box (fun hHeld => ?_)
        clear hK K cU hr4
        try simp [Act.put]
        refine wpAnyH_ready (rs := [8]) (by kernel_rfl) (by simp) ?_
        refine AllReadyH.cons rfl (fun K hK => ?_) AllReadyH.nil
        go_simp
        refine cR.mono ?_
        rintro e w5 ⟨ra, xs, nb, nbs, rfl, hrel, hxl, hkp, hr5, hf5, hs5⟩
        obtain ⟨rfl, rfl⟩ := rels_R hrel
        rw [List.nil_append] at hr5
        have HKP : Hid (Keep nb (fun V => SlAt V 11 ra k (rows.map RowM.vals))) := hkp
        have HF5 : Hid (∀ b ∈ nb, w.heap.size < b.1) := fun b hb => Nat.lt_of_lt_of_le HL4.out (hf5 b (by simp [hb]))
        have hb3 : w5.heap[g3]? = some (.cells d.vals 65 (0, 0)) := (hr5.K (g3, 65, d.vals) (by simp)).1
        subst hlen
        have cG := rguard_any R (nb ++ ((g3, 65, d.vals) :: (w.heap.size, 68, #[.int .i64 0, .int .i64 0, .int .u16 0, .int .u16 0, .slice none 0 0]) :: bs)) q3 s p3 d ra rows.length rows t w5 w0 hr5 ((HQT.out.on HS1.out).on HS3.out) bs0 (fun b hb => by simp [HSB.out b hb]) HKT.out
        refine hK.out _ _ hb3 (fun hHeld => ?_)
        clear hK K cR hr5 hrel hxl hkp hf5 hs5 hb3
        try simp [Act.put]
        refine wpAnyH_ready (rs := [9]) (by kernel_rfl) (by simp) ?_
        refine AllReadyH.cons rfl (fun K hK => ?_) AllReadyH.nil
        go_simp
        refine cG.mono ?_
        rintro e w6 ⟨rfl, hr6⟩
        have hb3 : w6.heap[g3]? = some (.cells d.vals 65 (0, 0)) := (hr6.K (g3, 65, d.vals) (by simp)).1
        have HN6 : Hid (w6.heap[w.heap.size]? = some (.cells #[.int .i64 0, .int .i64 0, .int .u16 0, .int .u16 0, .slice none 0 0] 68 (0, 0))) := (hr6.K (w.heap.size, 68, #[.int .i64 0, .int .i64 0, .int .u16 0, .int .u16 0, .slice none 0 0]) (by simp)).1
        obtain ⟨GV, eGV⟩ : ∃ q, GdM.vals ⟨d, (readsN t.ds d).1, (readsN t.ds d).2, ra, rows.length, rows⟩ = q := ⟨_, rfl⟩
        have HGV : Hid (GdM.vals ⟨d, (readsN t.ds d).1, (readsN t.ds d).2, ra, rows.length, rows⟩ = GV ∧ GV.size = 5 ∧ GV.all (·.oneCell') = true) := ⟨eGV, by rw [← eGV]; rfl, by rw [← eGV]; exact allGd _⟩
        rw [eGV]
        have HRS : Hid (Rd w0 mz (w6.setRow w.heap.size GV) R (nb ++ bs) q3 s p3) := hr6.row2 HW0.out HWR.out _ (fun b hb => by rcases List.mem_append.1 hb with hb | hb <;> simp [hb]) (fun b hb => by
          rcases List.mem_append.1 hb with hb | hb
          · have := HF5.out b hb; omega
          · exact HFR.out b hb)
        have HNS : Hid ((w6.setRow w.heap.size GV).heap[w.heap.size]? = some (.cells GV 68 (0, 0))) := setRow_heap _ _ _ _ _ _ HN6.out
        have HG3 : Hid ((w6.setRow w.heap.size GV).heap[g3]? = some (.cells d.vals 65 (0, 0))) := (setRow_other _ _ _ _ (fun e => hf2 (w.heap.size, 68, #[.int .i64 0, .int .i64 0, .int .u16 0, .int .u16 0, .slice none 0 0]) (by simp) e.symm)).trans hb3
        refine hK.out _ _ hb3 (fun hHeld => ?_)
        clear hK K cG hr6 hb3 eGV
        try simp [Act.put]
        refine wpAnyH_ready (rs := [10]) (by kernel_rfl) (by simp) ?_
        refine AllReadyH.cons rfl (fun K hK => ?_) AllReadyH.nil
        rw [if_pos (by rfl)]
        refine wp_store_row 68 (.tmp 2) (.tmp 15) rfl w.heap.size GV rfl rfl 68 #[.int .i64 0, .int .i64 0, .int .u16 0, .int .u16 0, .slice none 0 0] HN6.out (by rw [HGV.out.2.1]; exact size68') (by rw [HGV.out.2.1]; rfl) HGV.out.2.2 ?_
        refine hK.out _ _ HG3.out (fun hHeld => ?_)
        clear hK K
        try simp [Act.put]
        refine wpAnyH_done (by kernel_rfl) ?_ _
        go_wp2_with fail
        refine bodyPost_ret (results_cell_row rfl _ _ w.heap.size 68 GV (0, 0) _ rfl HNS.out Tryz.underlying68 rfl (by rw [HGV.out.2.1]; exact size68')) rfl ?_
        exact ⟨GV, nb, rfl, ⟨ra, HGV.out.1.symm, HKP.out⟩, HRS.out, fun b hb => Nat.le_of_lt (HF5.out b hb), by have := HRS.out.M; rw [HMZ.out] at this; exact this⟩
end Go.Proofs.YteedmmljahgpjaaGreatDoor

/-
  The reader: a state; lists of numbers, instructions, states.
-/
namespace Go.Proofs.YteedmmljahgpjaaGreatDoor
open Go.RowKit
set_option linter.unusedVariables false
set_option linter.unusedSimpArgs false
theorem rules_any {mz R n : Nat} {bs : List Bx} {q : RS} {s : ByteArray} {p : Int} {t : TbM} {w w0 : World} (h : Rd w0 mz w R bs q s p) (hs : s.size ≤ 1099511627776) (hn : n ≤ 12) (hq : 0 ≤ q.sp ∧ q.sp ≤ 200000000000) (hqt : IsT q t) (bs0 : List Bx) (hsub : ∀ b ∈ bs0, b ∈ bs) (hK : Keep bs0 (fun V => TbL V t)) : Calls Tryz.prog 135 #[.int .i64 n, .func (.func 136) #[.pointer (some ⟨R, 0, none⟩)] #[]] w (OutL w0 mz R bs s RelG 5 n w.heap.size (listR (ruleR t.ds s.data.toList) n q p)) :=
  list135_any (ruleR t.ds s.data.toList) RelG Value.agg (fun i q' => (0 ≤ q'.sp ∧ q'.sp ≤ q.sp + 200000 * i) ∧ Same6 q q') R n bs q s p w w0 h (by omega) ⟨⟨hq.1, by simp⟩, Same6.refl _⟩ (fun a x nb _ => rfl) (fun a x nb hx => by obtain ⟨y, rfl, _⟩ := hx; exact ⟨rfl, allGd _⟩)
    (fun i q1 p1 a q' p' hi hq1 hst => by
      obtain ⟨a1, a2, a3⟩ := ruleR_6 hst
      exact ⟨by omega, hq1.2.trans a1⟩)
    (fun i V bs1 q1 p1 hi hq1 hsb hV => rrule_any R bs1 q1 s p1 t V w0 hV rfl hs ⟨hq1.1.1, by omega⟩ (hqt.on hq1.2) bs0 (fun b hb => hsb b (hsub b hb)) hK)
def stateR (ds : List InM) (l : List UInt8) (q : RS) (p : Int) : Option (List GdP × RS × Int) := (uptoR 12 l p).bind fun n => listR (ruleR ds l) n.1.toNat q n.2
theorem rulesR_6 {ds : List InM} {l : List UInt8} : ∀ (n : Nat) {q q2 : RS} {p p2 : Int} {al : List GdP}, listR (ruleR ds l) n q p = some (al, q2, p2) → Same6 q q2 ∧ q.sp ≤ q2.sp ∧ q2.sp ≤ q.sp + 200000 * n ∧ al.length = n
  | 0, q, q2, p, p2, al, h => by
    unfold listR at h
    injection h with h
    injection h with a b
    injection b with b c
    subst a b
    exact ⟨Same6.refl _, Int.le_refl _, by simp, rfl⟩
  | n + 1, q, q2, p, p2, al, h => by
    unfold listR at h
    obtain ⟨⟨d, q1, p1⟩, h1, h2⟩ := Option.bind_eq_some_iff.1 h
    obtain ⟨⟨y, q3, p3⟩, h3, h4⟩ := Option.map_eq_some_iff.1 h2
    have hq : q3 = q2 := by injection h4 with a b; injection b
    have hal : d :: y = al := by injection h4
    subst hq hal
    obtain ⟨a1, a2, a3⟩ := ruleR_6 h1
    obtain ⟨b1, b2, b3, b4⟩ := rulesR_6 n h3
    simp only at b1 b2 b3
    exact ⟨a1.trans b1, by omega, by omega, by rw [List.length_cons, b4]⟩
theorem stateR_6 {ds : List InM} {l : List UInt8} {q q2 : RS} {p p2 : Int} {al : List GdP} (h : stateR ds l q p = some (al, q2, p2)) : Same6 q q2 ∧ q.sp ≤ q2.sp ∧ q2.sp ≤ q.sp + 2400000 := by
  unfold stateR at h
  obtain ⟨⟨n, pn⟩, hn, h2⟩ := Option.bind_eq_some_iff.1 h
  have := uptoR_bd hn
  obtain ⟨a, b, c, _⟩ := rulesR_6 _ h2
  simp only at c
  exact ⟨a, b, by omega⟩
def RelS (gs : List GdP) (x : Array Value) (nb : List Bx) : Prop := ∃ a xs nb1 nbs, x = #[.slice a gs.length gs.length] ∧ nb = nb1 ++ nbs ∧ Rels RelG gs xs nbs ∧ xs.length = gs.length ∧ Keep nb1 (fun V => SlAt V 5 a gs.length xs)
set_option maxRecDepth 100000 in
set_option maxHeartbeats 4000000 in
theorem rstate_any (R : Nat) (bs : List Bx) (q : RS) (s : ByteArray) (p : Int) (t : TbM) (w : World) {mz : Nat} (w0 : World) (h : Rd w0 mz w R bs q s p) (hmz : mz = w.heap.size) (hs : s.size ≤ 1099511627776) (hq : 0 ≤ q.sp ∧ q.sp ≤ 200000000000) (hqt : IsT q t) (bs0 : List Bx) (hsub : ∀ b ∈ bs0, b ∈ bs) (hK : Keep bs0 (fun V => TbL V t)) : Calls Tryz.prog 116 #[.pointer (some ⟨R, 0, none⟩)] w fun e w' => OutS w0 mz R bs s RelS mkS w.heap.size (stateR t.ds s.data.toList q p) e w' := by
  have hmf : ∀ (fn : Fn) (first cap : Array Value) (w : World), (Instr.makeFunc fn first cap).run Tryz.prog w = .ok (.func fn first cap) w := fun _ _ _ _ => rfl
  have HMZ : Hid (mz = w.heap.size) := hmz
  unfold stateR
  cases hn : uptoR 12 s.data.toList p with
  | none =>
    have cU := upto_no h hs (by omega) hn
    show Calls Tryz.prog 116 #[.pointer (some ⟨R, 0, none⟩)] w (fun e w' => e = pan pf ∧ Below w0.heap.size w0 w')
    clear h
    go_enter Tryz.func116, Tryz.ntmps116
    go_wp2_with fail
    refine cU.mono ?_
    rintro e w2 ⟨rfl, hb⟩
    exact ⟨rfl, rfl, hb⟩
  | some np =>
    obtain ⟨n, p2⟩ := np
    obtain ⟨hn0, hn12⟩ := uptoR_bd hn
    obtain ⟨k, rfl⟩ := Int.eq_ofNat_of_zero_le hn0
    have hk12 : k ≤ 12 := by omega
    have cU := upto_ok h hs (by omega) hn
    show Calls Tryz.prog 116 #[.pointer (some ⟨R, 0, none⟩)] w (OutS w0 mz R bs s RelS mkS w.heap.size (listR (ruleR t.ds s.data.toList) k q p2))
    cases hrs : listR (ruleR t.ds s.data.toList) k q p2 with
    | none =>
      show Calls Tryz.prog 116 #[.pointer (some ⟨R, 0, none⟩)] w (fun e w' => e = pan pf ∧ Below w0.heap.size w0 w')
      clear h
      go_enter Tryz.func116, Tryz.ntmps116
      go_wp2_with fail
      refine cU.mono ?_
      rintro e w2 ⟨rfl, hr2⟩
      have cR := rules_any (n := k) hr2 hs hk12 hq hqt bs0 hsub hK
      rw [hrs] at cR
      replace cR : Calls Tryz.prog 135 #[.int .i64 k, .func (.func 136) #[.pointer (some ⟨R, 0, none⟩)] #[]] w2 (fun e w' => e = pan pf ∧ Below w0.heap.size w0 w') := cR
      clear cU hr2 hK hsub hqt
      go_wp2_with fail
      refine cR.mono ?_
      rintro e w3 ⟨rfl, hb⟩
      exact ⟨rfl, rfl, hb⟩
    | some rq =>
      obtain ⟨gs, q3, p3⟩ := rq
      obtain ⟨_, _, _, hlen⟩ := rulesR_6 k hrs
      show Calls Tryz.prog 116 #[.pointer (some ⟨R, 0, none⟩)] w (fun e w' => ∃ x nb, e = .returned (mkS x) ∧ RelS gs x nb ∧ Rd w0 mz w' R (nb ++ bs) q3 s p3 ∧ (∀ b ∈ nb, w.heap.size ≤ b.1) ∧ w.heap.size ≤ w'.heap.size)
      clear h
      go_enter Tryz.func116, Tryz.ntmps116
      go_wp2_with fail
      refine cU.mono ?_
      rintro e w2 ⟨rfl, hr2⟩
      have cR := rules_any (n := k) hr2 hs hk12 hq hqt bs0 hsub hK
      rw [hrs] at cR
      have HM2 : Hid (w.heap.size ≤ w2.heap.size) := by have := hr2.M; rw [HMZ.out] at this; exact this
      clear cU hr2 hK hsub hqt
      go_wp2_with fail
      refine cR.mono ?_
      rintro e w5 ⟨ra, xs, nb, nbs, rfl, hrel, hxl, hkp, hr5, hf5, hs5⟩
      have HR5 : Hid (Rd w0 mz w5 R ((nb ++ nbs) ++ bs) q3 s p3) := by rw [List.append_assoc]; exact hr5
      have HRL : Hid (Rels RelG gs xs nbs ∧ xs.length = k ∧ Keep nb (fun V => SlAt V 5 ra k xs) ∧ (∀ b ∈ nb ++ nbs, w.heap.size ≤ b.1) ∧ w.heap.size ≤ w5.heap.size) := ⟨hrel, hxl, hkp, fun b hb => Nat.le_trans HM2.out (hf5 b hb), Nat.le_trans HM2.out hs5⟩
      clear cR hr5 hrel hxl hkp hf5 hs5
      go_wp2_with fail
      go_ret
      subst hlen
      exact ⟨#[.slice ra gs.length gs.length], nb ++ nbs, rfl, ⟨ra, xs, nb, nbs, rfl, rfl, HRL.out.1, HRL.out.2.1, HRL.out.2.2.1⟩, HR5.out, HRL.out.2.2.2.1, HRL.out.2.2.2.2⟩
theorem states_any {mz R n : Nat} {bs : List Bx} {q : RS} {s : ByteArray} {p : Int} {t : TbM} {w w0 : World} (h : Rd w0 mz w R bs q s p) (hs : s.size ≤ 1099511627776) (hn : n ≤ 12) (hq : 0 ≤ q.sp ∧ q.sp ≤ 100000000000) (hqt : IsT q t) (bs0 : List Bx) (hsub : ∀ b ∈ bs0, b ∈ bs) (hK : Keep bs0 (fun V => TbL V t)) : Calls Tryz.prog 115 #[.int .i64 n, .func (.func 116) #[.pointer (some ⟨R, 0, none⟩)] #[]] w (OutL w0 mz R bs s RelS 1 n w.heap.size (listR (stateR t.ds s.data.toList) n q p)) :=
  list115_any (stateR t.ds s.data.toList) RelS mkS (fun i q' => (0 ≤ q'.sp ∧ q'.sp ≤ q.sp + 2400000 * i) ∧ Same6 q q') R n bs q s p w w0 h (by omega) ⟨⟨hq.1, by simp⟩, Same6.refl _⟩ (fun a x nb hx => by obtain ⟨_, _, _, _, rfl, _⟩ := hx; rfl) (fun a x nb hx => by obtain ⟨_, _, _, _, rfl, _⟩ := hx; exact ⟨rfl, by simp [Value.oneCell']⟩)
    (fun i q1 p1 a q' p' hi hq1 hst => by
      obtain ⟨a1, a2, a3⟩ := stateR_6 hst
      exact ⟨by omega, hq1.2.trans a1⟩)
    (fun i V bs1 q1 p1 hi hq1 hsb hV => rstate_any R bs1 q1 s p1 t V w0 hV rfl hs ⟨hq1.1.1, by omega⟩ (hqt.on hq1.2) bs0 (fun b hb => hsb b (hsub b hb)) hK)
theorem ints_any {mz R n : Nat} {bs : List Bx} {q : RS} {s : ByteArray} {p : Int} {w w0 : World} (h : Rd w0 mz w R bs q s p) (hs : s.size ≤ 1099511627776) (hn : n ≤ 100000) : Calls Tryz.prog 110 #[.int .i64 n, .func (.func 112) #[.pointer (some ⟨R, 0, none⟩)] #[]] w (OutL w0 mz R bs s RelI 1 n w.heap.size (listR (stI s.data.toList) n q p)) :=
  list110_any (stI s.data.toList) RelI mkS (fun _ _ => True) R n bs q s p w w0 h hn trivial (fun a x nb hx => by obtain ⟨rfl, _⟩ := hx; rfl) (fun a x nb hx => by obtain ⟨rfl, _⟩ := hx; exact ⟨rfl, by simp [nvals, Value.oneCell']⟩)
    (fun _ _ _ _ _ _ _ _ _ => trivial) (fun i V bs1 q1 p1 hi _ _ hV => stepI hV hs)
theorem instrs_any {mz R n : Nat} {bs : List Bx} {q : RS} {s : ByteArray} {p : Int} {w w0 : World} (h : Rd w0 mz w R bs q s p) (hs : s.size ≤ 1099511627776) (hn : n ≤ 100000) : Calls Tryz.prog 113 #[.int .i64 n, .func (.func 114) #[.pointer (some ⟨R, 0, none⟩)] #[]] w (OutL w0 mz R bs s RelD 2 n w.heap.size (listR (stD s.data.toList) n q p)) :=
  list113_any (stD s.data.toList) RelD Value.agg (fun _ _ => True) R n bs q s p w w0 h hn trivial (fun a x nb _ => rfl) (fun a x nb hx => by obtain ⟨rfl, _⟩ := hx; exact ⟨rfl, allIn _⟩)
    (fun _ _ _ _ _ _ _ _ _ => trivial) (fun i V bs1 q1 p1 hi _ _ hV => stepD hV hs)
end Go.Proofs.YteedmmljahgpjaaGreatDoor
