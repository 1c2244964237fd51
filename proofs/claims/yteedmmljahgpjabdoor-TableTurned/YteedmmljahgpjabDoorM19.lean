import Derived.Test.YteedmmljahgpjabDoorUc
import Derived.Deep.RegionHeld
/-
  The reader: the steps of its lists; a guard of what was read.
-/
namespace Go.Proofs.YteedmmljahgpjabDoor
open Go.RowKit
set_option linter.unusedVariables false
set_option linter.unusedSimpArgs false
def mkS (x : Array Value) : Value := x.getD 0 undef
def RelI (n : Int) (x : Array Value) (nb : List Bx) : Prop := x = nvals n ∧ nb = []
def RelD (d : InM) (x : Array Value) (nb : List Bx) : Prop := x = d.vals ∧ nb = []
def RelR (r : RowM) (x : Array Value) (nb : List Bx) : Prop := x = r.vals ∧ nb = []
def stI (l : List UInt8) (q : RS) (p : Int) : Option (Int × RS × Int) := (signR l p).map fun n => (n.1, q, n.2)
def stD (l : List UInt8) (q : RS) (p : Int) : Option (InM × RS × Int) := (instrR l p).map fun n => (n.1, q, n.2)
def stR (l : List UInt8) (q : RS) (p : Int) : Option (RowM × RS × Int) := rowR q l p
theorem stepI {R : Nat} {bs : List Bx} {q : RS} {s : ByteArray} {p : Int} {V w0 : World} (h : Rd w0 V.heap.size V R bs q s p) (hs : s.size ≤ 1099511627776) : Calls Tryd.prog 46 #[.pointer (some ⟨R, 0, none⟩)] V (OutS w0 V.heap.size R bs s RelI mkS V.heap.size (stI s.data.toList q p)) := by
  have c := rsigned_any R bs q s p V w0 h hs
  unfold stI
  cases hS : signR s.data.toList p with
  | none => rw [hS] at c; exact c
  | some n =>
    rw [hS] at c
    refine c.mono ?_
    rintro e w' ⟨rfl, hr⟩
    exact ⟨nvals n.1, [], rfl, ⟨rfl, rfl⟩, hr, by simp, hr.M⟩
theorem stepD {R : Nat} {bs : List Bx} {q : RS} {s : ByteArray} {p : Int} {V w0 : World} (h : Rd w0 V.heap.size V R bs q s p) (hs : s.size ≤ 1099511627776) : Calls Tryd.prog 48 #[.pointer (some ⟨R, 0, none⟩)] V (OutS w0 V.heap.size R bs s RelD Value.agg V.heap.size (stD s.data.toList q p)) := by
  have c := rinstr_any R bs q s p V w0 h hs
  unfold stD
  cases hS : instrR s.data.toList p with
  | none => rw [hS] at c; exact c
  | some n =>
    rw [hS] at c
    refine c.mono ?_
    rintro e w' ⟨rfl, hr⟩
    exact ⟨n.1.vals, [], rfl, ⟨rfl, rfl⟩, hr, by simp, hr.M⟩
theorem stepR {R : Nat} {bs : List Bx} {q : RS} {s : ByteArray} {p : Int} {V w0 : World} (h : Rd w0 V.heap.size V R bs q s p) (hs : s.size ≤ 1099511627776) (hq : 0 ≤ q.sp ∧ q.sp ≤ 500000000000) : Calls Tryd.prog 77 #[.pointer (some ⟨R, 0, none⟩)] V (OutS w0 V.heap.size R bs s RelR Value.agg V.heap.size (stR s.data.toList q p)) := by
  have c := rrow_any R bs q s p V w0 h hs hq
  unfold stR
  cases hS : rowR q s.data.toList p with
  | none => rw [hS] at c; exact c
  | some n =>
    obtain ⟨r, q2, p2⟩ := n
    rw [hS] at c
    refine c.mono ?_
    rintro e w' ⟨rfl, hr⟩
    exact ⟨r.vals, [], rfl, ⟨rfl, rfl⟩, hr, by simp, hr.M⟩
/-- What was read of a table, but for how far. -/
def Same6 (q q' : RS) : Prop := q'.x0 = q.x0 ∧ q'.x1 = q.x1 ∧ q'.x2 = q.x2 ∧ q'.x3 = q.x3 ∧ q'.x4 = q.x4 ∧ q'.x5 = q.x5
theorem Same6.refl (q : RS) : Same6 q q := ⟨rfl, rfl, rfl, rfl, rfl, rfl⟩
theorem Same6.trans {a b c : RS} (h : Same6 a b) (k : Same6 b c) : Same6 a c := ⟨k.1.trans h.1, k.2.1.trans h.2.1, k.2.2.1.trans h.2.2.1, k.2.2.2.1.trans h.2.2.2.1, k.2.2.2.2.1.trans h.2.2.2.2.1, k.2.2.2.2.2.trans h.2.2.2.2.2⟩
theorem lenR_6 {q q2 : RS} {l : List UInt8} {p p2 : Int} {d : Sp} (h : lenR q l p = some (d, q2, p2)) : Same6 q q2 ∧ q.sp ≤ q2.sp ∧ q2.sp ≤ q.sp + 4096 := by
  refine ⟨?_, lenR_bd h⟩
  unfold lenR at h
  obtain ⟨⟨n, m⟩, h1, h2⟩ := Option.map_eq_some_iff.1 h
  have h5 : spR q n = q2 := by injection h2 with a b; injection b
  rw [← h5]
  exact ⟨rfl, rfl, rfl, rfl, rfl, rfl⟩
theorem spsR_6 {l : List UInt8} : ∀ (b : List Bool) {q q2 : RS} {p p2 : Int} {x : List Sp}, spsR b q l p = some (x, q2, p2) → Same6 q q2 ∧ q.sp ≤ q2.sp ∧ q2.sp ≤ q.sp + 4096 * b.length
  | [], q, q2, p, p2, x, h => by
    have h1 : q = q2 := by unfold spsR at h; injection h with h; injection h with a b; injection b
    rw [h1]
    exact ⟨Same6.refl _, Int.le_refl _, by simp⟩
  | c :: b, q, q2, p, p2, x, h => by
    unfold spsR at h
    split at h
    · obtain ⟨⟨d, q1, p1⟩, h1, h2⟩ := Option.bind_eq_some_iff.1 h
      obtain ⟨⟨y, q3, p3⟩, h3, h4⟩ := Option.map_eq_some_iff.1 h2
      have hq : q3 = q2 := by injection h4 with a b; injection b
      subst hq
      obtain ⟨a1, a2, a3⟩ := lenR_6 h1
      obtain ⟨b1, b2, b3⟩ := spsR_6 b h3
      simp only at b1 b2 b3
      exact ⟨a1.trans b1, by omega, by rw [List.length_cons]; omega⟩
    · obtain ⟨⟨y, q3, p3⟩, h3, h4⟩ := Option.map_eq_some_iff.1 h
      have hq : q3 = q2 := by injection h4 with a b; injection b
      subst hq
      obtain ⟨b1, b2, b3⟩ := spsR_6 b h3
      exact ⟨b1, b2, by rw [List.length_cons]; omega⟩
theorem rowR_6 {q q2 : RS} {l : List UInt8} {p p2 : Int} {r : RowM} (h : rowR q l p = some (r, q2, p2)) : Same6 q q2 ∧ q.sp ≤ q2.sp ∧ q2.sp ≤ q.sp + 16384 := by
  unfold rowR at h
  obtain ⟨k, _, h⟩ := Option.bind_eq_some_iff.1 h
  obtain ⟨o, _, h⟩ := Option.bind_eq_some_iff.1 h
  obtain ⟨i, _, h⟩ := Option.bind_eq_some_iff.1 h
  obtain ⟨⟨y, q3, p3⟩, h3, h4⟩ := Option.map_eq_some_iff.1 h
  have hq : q3 = q2 := by injection h4 with a b; injection b
  subst hq
  have := spsR_6 _ h3
  simpa [prts] using this
theorem rels_R {al : List RowM} {xs : List (Array Value)} {nbs : List Bx} (h : Rels RelR al xs nbs) : xs = al.map RowM.vals ∧ nbs = [] := by
  induction h with
  | nil => exact ⟨rfl, rfl⟩
  | snoc _ k ih => obtain ⟨rfl, rfl⟩ := k; obtain ⟨rfl, rfl⟩ := ih; exact ⟨by simp, rfl⟩
theorem rels_I {al : List Int} {xs : List (Array Value)} {nbs : List Bx} (h : Rels RelI al xs nbs) : xs = al.map nvals ∧ nbs = [] := by
  induction h with
  | nil => exact ⟨rfl, rfl⟩
  | snoc _ k ih => obtain ⟨rfl, rfl⟩ := k; obtain ⟨rfl, rfl⟩ := ih; exact ⟨by simp, rfl⟩
theorem rels_D {al : List InM} {xs : List (Array Value)} {nbs : List Bx} (h : Rels RelD al xs nbs) : xs = al.map InM.vals ∧ nbs = [] := by
  induction h with
  | nil => exact ⟨rfl, rfl⟩
  | snoc _ k ih => obtain ⟨rfl, rfl⟩ := k; obtain ⟨rfl, rfl⟩ := ih; exact ⟨by simp, rfl⟩
/-- The rows of a guard. -/
theorem rows_any {mz R n : Nat} {bs : List Bx} {q : RS} {s : ByteArray} {p : Int} {w w0 : World} (h : Rd w0 mz w R bs q s p) (hs : s.size ≤ 1099511627776) (hn : n ≤ 8) (hq : 0 ≤ q.sp ∧ q.sp ≤ 400000000000) : Calls Tryd.prog 76 #[.int .i64 n, .func (.func 77) #[.pointer (some ⟨R, 0, none⟩)] #[]] w (OutL w0 mz R bs s RelR 11 n w.heap.size (listR (stR s.data.toList) n q p)) :=
  list151_any (stR s.data.toList) RelR Value.agg (fun i q' => 0 ≤ q'.sp ∧ q'.sp ≤ q.sp + 16384 * i) R n bs q s p w w0 h (by omega) ⟨hq.1, by simp⟩ (fun a x nb _ => rfl) (fun a x nb hx => by rw [hx.1]; exact ⟨rfl, allRow a⟩)
    (fun i q1 p1 a q' p' hi hq1 hst => by have := rowR_6 hst; omega)
    (fun i V bs q1 p1 hi hq1 _ hV => stepR hV hs ⟨hq1.1, by omega⟩)
set_option maxRecDepth 100000 in
set_option maxHeartbeats 4000000 in
theorem rguard_any (R : Nat) (bs : List Bx) (q : RS) (s : ByteArray) (p : Int) (x : Sp) (a : Option Addr) (c : Nat) (rs : List RowM) (t : TbM) (w : World) {mz : Nat} (w0 : World) (h : Rd w0 mz w R bs q s p) (hq : q.x0 = .string t.x ∧ q.x1 = .slice t.ra t.rs.length t.rc ∧ q.x2 = .int .i64 t.sl ∧ q.x3 = .slice t.ca t.cs.length t.cc ∧ q.x4 = .slice t.da t.ds.length t.dc ∧ q.x5 = .slice t.ta t.ts.length t.tc) (bs0 : List Bx) (hsub : ∀ b ∈ bs0, b ∈ bs) (hK : Keep bs0 (fun V => TbL V t)) : Calls Tryd.prog 75 #[.pointer (some ⟨R, 0, none⟩), .agg x.vals, .slice a rs.length c] w fun e w' => e = .returned (.agg (GdM.vals ⟨x, (readsN t.ds x).1, (readsN t.ds x).2, a, c, rs⟩)) ∧ Rd w0 mz w' R bs q s p := by
  have hFR := h.fresh
  have hb1 := below_new w (.cells x.vals 48)
  have hs1 := size_alloc w (.cells x.vals 48)
  have hR1 := h.add hb1 w.heap.size 48 x.vals (Nat.le_refl _) (heap_new _ _)
  have hf1 := hR1.fresh
  obtain ⟨W1, e1⟩ : ∃ W, w.alloc (.cells x.vals 48) = W := ⟨_, rfl⟩
  have E1 : Hid (w.alloc (.cells x.vals 48) = W1) := e1
  rw [e1] at hR1 hs1 hf1
  have hR2 := hR1.add (below_new W1 (.cells #[.int .i64 0, .int .i64 0, .int .u16 0, .int .u16 0, .slice none 0 0] 51)) W1.heap.size 51 #[.int .i64 0, .int .i64 0, .int .u16 0, .int .u16 0, .slice none 0 0] (Nat.le_refl _) (heap_new _ _)
  obtain ⟨W2, e2⟩ : ∃ W, W1.alloc (.cells #[.int .i64 0, .int .i64 0, .int .u16 0, .int .u16 0, .slice none 0 0] 51) = W := ⟨_, rfl⟩
  have E2 : Hid (W1.alloc (.cells #[.int .i64 0, .int .i64 0, .int .u16 0, .int .u16 0, .slice none 0 0] 51) = W2) := e2
  rw [e2] at hR2
  obtain ⟨g2, eg⟩ : ∃ g, w.heap.size + 1 = g := ⟨_, rfl⟩
  rw [hs1, eg] at hR2 hf1
  have HEG : Hid (w.heap.size + 1 = g2) := eg
  have HR2 : Hid (Rd w0 mz W2 R ((g2, 51, #[.int .i64 0, .int .i64 0, .int .u16 0, .int .u16 0, .slice none 0 0]) :: (w.heap.size, 48, x.vals) :: bs) q s p) := hR2
  have HG2 : Hid (w0.heap.size ≤ g2 ∧ ∀ b ∈ ((w.heap.size, 48, x.vals) :: bs : List Bx), b.1 ≠ g2) := ⟨by have := h.B.size; omega, hf1⟩
  have HFA : Hid (∀ v : World, Below W2.heap.size W2 v → v.cell? ⟨R, 0, none⟩ = some (.string t.x) ∧ v.cell? ⟨R, 1, none⟩ = some (.slice t.ra t.rs.length t.rc) ∧ v.cell? ⟨R, 2, none⟩ = some (.int .i64 t.sl) ∧ v.cell? ⟨R, 3, none⟩ = some (.slice t.ca t.cs.length t.cc) ∧ v.cell? ⟨R, 4, none⟩ = some (.slice t.da t.ds.length t.dc) ∧ v.cell? ⟨R, 5, none⟩ = some (.slice t.ta t.ts.length t.tc) ∧ v.cell? ⟨w.heap.size, 0, none⟩ = some (.int .i64 x.f) ∧ v.cell? ⟨w.heap.size, 1, none⟩ = some (.int .i64 x.t)) := fun v hv => by
    have k := HR2.out.on hv
    have g := k.less.box
    obtain ⟨y0, y1, y2, y3, y4, y5⟩ := hq
    exact ⟨(cell_of k.H 0).trans (congrArg some y0), (cell_of k.H 1).trans (congrArg some y1), (cell_of k.H 2).trans (congrArg some y2), (cell_of k.H 3).trans (congrArg some y3), (cell_of k.H 4).trans (congrArg some y4), (cell_of k.H 5).trans (congrArg some y5), cell_of g 0, cell_of g 1⟩
  have HTB : Hid (TbL W2.drew t) := hK W2.drew fun b hb => ((HR2.out.less.less).K b (hsub b hb)).1
  have cR := reads_any t x W2.drew HTB.out
  obtain ⟨M, eM⟩ : ∃ M, readsN t.ds x = M := ⟨_, rfl⟩
  rw [eM] at cR ⊢
  unfold TbM.vals Sp.vals at cR
  clear h hR1 hR2 hs1 hb1 e1 e2 eg hf1 hFR eM hK hsub hq
  go_enter Tryd.func75, Tryd.ntmps75
  go_upto_region 1 with fail
  rw [E1.out, E2.out, HEG.out]
  clear E1 E2 HEG
  refine wp_region_held_drew (S := fun v => Below W2.heap.size W2 v) (by kernel_rfl) ⟨rfl, rfl, rfl, Nat.le_refl _, fun _ _ => rfl⟩ (fun hHeld => ?_)
  refine wpAnyH_take (i := 0) (v := ?_) rfl (by kernel_rfl) (by kernel_rfl) (by kernel_rfl) (fun _ _ _ h => h) (Or.inl ⟨by rfl, ?_⟩) (by assumption) ?_
  rotate_left
  · (intro v hv; go_simp; try (with_reducible rfl))
  try simp [Act.put]
  refine wpAnyH_take (i := 1) (v := ?_) rfl (by kernel_rfl) (by kernel_rfl) (by kernel_rfl) (fun _ _ _ h => h) (Or.inl ⟨by rfl, ?_⟩) (by assumption) ?_
  rotate_left
  · (intro v hv; go_simp; try (with_reducible rfl))
  try simp [Act.put]
  refine wpAnyH_take (i := 2) (v := ?_) rfl (by kernel_rfl) (by kernel_rfl) (by kernel_rfl) (fun _ _ _ h => h) (Or.inl ⟨by rfl, ?_⟩) (by assumption) ?_
  rotate_left
  · (intro v hv; go_simp; try (with_reducible rfl))
  try simp [Act.put]
  refine wpAnyH_take (i := 3) (v := ?_) rfl (by kernel_rfl) (by kernel_rfl) (by kernel_rfl) (fun _ _ _ h => h) (Or.inl ⟨by rfl, ?_⟩) (by assumption) ?_
  rotate_left
  · (intro v hv; obtain ⟨a0, a1, a2, a3, a4, a5, b0, b1⟩ := HFA.out v hv; go_simp; try (with_reducible rfl))
  try simp [Act.put]
  refine wpAnyH_take (i := 4) (v := ?_) rfl (by kernel_rfl) (by kernel_rfl) (by kernel_rfl) (fun _ _ _ h => h) (Or.inl ⟨by rfl, ?_⟩) (by assumption) ?_
  rotate_left
  · (intro v hv; obtain ⟨a0, a1, a2, a3, a4, a5, b0, b1⟩ := HFA.out v hv; go_simp; try (with_reducible rfl))
  try simp [Act.put]
  refine wpAnyH_ready (rs := [5]) (by kernel_rfl) (by simp) ?_
  refine AllReadyH.cons rfl (fun K hK => ?_) AllReadyH.nil
  go_simp
  refine cR.mono ?_
  rintro e w5 ⟨rfl, hb5⟩
  have hB5 : Below W2.heap.size W2 w5 := ⟨hb5.os, hb5.tape, hb5.output, hb5.size, hb5.block⟩
  refine hK.out _ _ hB5 (fun hHeld => ?_)
  clear hK K cR hb5
  try simp [Act.put]
  refine wpAnyH_take (i := 6) (v := ?_) rfl (by kernel_rfl) (by kernel_rfl) (by kernel_rfl) (fun _ _ _ h => h) (Or.inl ⟨by rfl, ?_⟩) (by assumption) ?_
  rotate_left
  · (intro v hv; go_simp; try (with_reducible rfl))
  try simp [Act.put]
  refine wpAnyH_take (i := 7) (v := ?_) rfl (by kernel_rfl) (by kernel_rfl) (by kernel_rfl) (fun _ _ _ h => h) (Or.inl ⟨by rfl, ?_⟩) (by assumption) ?_
  rotate_left
  · (intro v hv; go_simp; try (with_reducible rfl))
  try simp [Act.put]
  refine wpAnyH_take (i := 8) (v := ?_) rfl (by kernel_rfl) (by kernel_rfl) (by kernel_rfl) (fun _ _ _ h => h) (Or.inl ⟨by rfl, ?_⟩) (by assumption) ?_
  rotate_left
  · (intro v hv; go_simp; try (with_reducible rfl))
  try simp [Act.put]
  refine wpAnyH_take (i := 9) (v := ?_) rfl (by kernel_rfl) (by kernel_rfl) (by kernel_rfl) (fun _ _ _ h => h) (Or.inl ⟨by rfl, ?_⟩) (by assumption) ?_
  rotate_left
  · (intro v hv; go_simp; try (with_reducible rfl))
  try simp [Act.put]
  refine wpAnyH_take (i := 10) (v := ?_) rfl (by kernel_rfl) (by kernel_rfl) (by kernel_rfl) (fun _ _ _ h => h) (Or.inl ⟨by rfl, ?_⟩) (by assumption) ?_
  rotate_left
  · (intro v hv; go_simp; try (with_reducible rfl))
  try simp [Act.put]
  refine wpAnyH_done (by kernel_rfl) ?_ _
  have HR5 : Hid (Rd w0 mz w5 R ((g2, 51, #[.int .i64 0, .int .i64 0, .int .u16 0, .int .u16 0, .slice none 0 0]) :: (w.heap.size, 48, x.vals) :: bs) q s p) := HR2.out.on hB5
  obtain ⟨_, _, _, _, _, _, b0, b1⟩ := HFA.out w5 hB5
  have HN3 : Hid (w5.heap[g2]? = some (.cells #[.int .i64 0, .int .i64 0, .int .u16 0, .int .u16 0, .slice none 0 0] 51 (0, 0))) := HR5.out.box
  have HNR : Hid (w5.heap[w.heap.size]? = some (.cells x.vals 48 (0, 0))) := HR5.out.less.box
  have HRS : Hid (Rd w0 mz (w5.setRow g2 (GdM.vals ⟨x, M.1, M.2, a, c, rs⟩)) R bs q s p) := (HR5.out.row HG2.out.1 _ HG2.out.2).less
  have HNS : Hid ((w5.setRow g2 (GdM.vals ⟨x, M.1, M.2, a, c, rs⟩)).heap[g2]? = some (.cells (GdM.vals ⟨x, M.1, M.2, a, c, rs⟩) 51 (0, 0))) := setRow_heap _ _ _ _ _ _ HN3.out
  clear HFA hB5 hHeld HR2 HTB
  go_wp2_with (refine wpList_store_row rfl 51 (.tmp 6) (.tmp 22) rfl g2 (GdM.vals ⟨x, M.1, M.2, a, c, rs⟩) rfl rfl 51 #[.int .i64 0, .int .i64 0, .int .u16 0, .int .u16 0, .slice none 0 0] HN3.out size68' rfl (allGd _) ?_)
  exact bodyPost_ret (results_cell_row rfl _ _ g2 51 (GdM.vals ⟨x, M.1, M.2, a, c, rs⟩) (0, 0) _ rfl HNS.out Tryd.underlying51 rfl size68') rfl ⟨rfl, HRS.out⟩
end Go.Proofs.YteedmmljahgpjabDoor

/-
  The reader: a rule; a state.
-/
namespace Go.Proofs.YteedmmljahgpjabDoor
open Go.RowKit
set_option linter.unusedVariables false
set_option linter.unusedSimpArgs false
structure GdP where
  wh : Sp
  fd : Int
  rg : Int
  rs : List RowM
def RelG (g : GdP) (x : Array Value) (nb : List Bx) : Prop := ∃ a, x = GdM.vals ⟨g.wh, g.fd, g.rg, a, g.rs.length, g.rs⟩ ∧ Keep nb (fun V => SlAt V 11 a g.rs.length (g.rs.map RowM.vals))
def ruleR (ds : List InM) (l : List UInt8) (q : RS) (p : Int) : Option (GdP × RS × Int) :=
  (lenR q l p).bind fun d => (uptoR 8 l d.2.2).bind fun n => (listR (stR l) n.1.toNat d.2.1 n.2).map fun r => (⟨d.1, (readsN ds d.1).1, (readsN ds d.1).2, r.1⟩, r.2)
def IsT (q : RS) (t : TbM) : Prop := q.x0 = .string t.x ∧ q.x1 = .slice t.ra t.rs.length t.rc ∧ q.x2 = .int .i64 t.sl ∧ q.x3 = .slice t.ca t.cs.length t.cc ∧ q.x4 = .slice t.da t.ds.length t.dc ∧ q.x5 = .slice t.ta t.ts.length t.tc
theorem IsT.on {q q' : RS} {t : TbM} (h : IsT q t) (k : Same6 q q') : IsT q' t := ⟨k.1.trans h.1, k.2.1.trans h.2.1, k.2.2.1.trans h.2.2.1, k.2.2.2.1.trans h.2.2.2.1, k.2.2.2.2.1.trans h.2.2.2.2.1, k.2.2.2.2.2.trans h.2.2.2.2.2⟩
theorem rowsR_6 {l : List UInt8} : ∀ (n : Nat) {q q2 : RS} {p p2 : Int} {al : List RowM}, listR (stR l) n q p = some (al, q2, p2) → Same6 q q2 ∧ q.sp ≤ q2.sp ∧ q2.sp ≤ q.sp + 16384 * n ∧ al.length = n
  | 0, q, q2, p, p2, al, h => by
    unfold listR at h
    injection h with h
    injection h with a b
    injection b with b c
    subst a b
    exact ⟨Same6.refl _, Int.le_refl _, by simp, rfl⟩
  | n + 1, q, q2, p, p2, al, h => by
    unfold listR at h
    obtain ⟨⟨d, q1, p1⟩, h1, h2⟩ := Option.bind_eq_some_iff.1 h
    obtain ⟨⟨y, q3, p3⟩, h3, h4⟩ := Option.map_eq_some_iff.1 h2
    have hq : q3 = q2 := by injection h4 with a b; injection b
    have hal : d :: y = al := by injection h4
    subst hq hal
    obtain ⟨a1, a2, a3⟩ := rowR_6 h1
    obtain ⟨b1, b2, b3, b4⟩ := rowsR_6 n h3
    simp only at b1 b2 b3
    exact ⟨a1.trans b1, by omega, by omega, by rw [List.length_cons, b4]⟩
theorem ruleR_6 {ds : List InM} {l : List UInt8} {q q2 : RS} {p p2 : Int} {g : GdP} (h : ruleR ds l q p = some (g, q2, p2)) : Same6 q q2 ∧ q.sp ≤ q2.sp ∧ q2.sp ≤ q.sp + 200000 := by
  unfold ruleR at h
  obtain ⟨⟨d, q1, p1⟩, h1, h2⟩ := Option.bind_eq_some_iff.1 h
  obtain ⟨⟨n, pn⟩, hn, h2⟩ := Option.bind_eq_some_iff.1 h2
  obtain ⟨⟨y, q3, p3⟩, h3, h4⟩ := Option.map_eq_some_iff.1 h2
  have hq : q3 = q2 := by injection h4 with a b; injection b
  subst hq
  have := uptoR_bd hn
  obtain ⟨a1, a2, a3⟩ := lenR_6 h1
  obtain ⟨b1, b2, b3, _⟩ := rowsR_6 _ h3
  simp only at b1 b2 b3
  exact ⟨a1.trans b1, by omega, by omega⟩
theorem Rd.row2 {w0 V : World} {mz R g : Nat} {bs bs' : List Bx} {q : RS} {s : ByteArray} {p : Int} (h : Rd w0 mz V R bs q s p) (hg : w0.heap.size ≤ g) (hR : g ≠ R) (cs : Array Value) (hsub : ∀ b ∈ bs', b ∈ bs) (hN : ∀ b ∈ bs', b.1 ≠ g) : Rd w0 mz (V.setRow g cs) R bs' q s p :=
  ⟨(setRow_other _ _ _ _ (Ne.symm hR)).trans h.H, below_row h.B hg _, h.G, fun b hb => ⟨(setRow_other _ _ _ _ (hN b hb)).trans (h.K b (hsub b hb)).1, (h.K b (hsub b hb)).2⟩, fun b hb => h.L b (hsub b hb), by have := h.M; unfold World.setRow; simpa using this⟩
set_option maxRecDepth 100000 in
set_option maxHeartbeats 4000000 in
theorem rrule_any (R : Nat) (bs : List Bx) (q : RS) (s : ByteArray) (p : Int) (t : TbM) (w : World) {mz : Nat} (w0 : World) (h : Rd w0 mz w R bs q s p) (hmz : mz = w.heap.size) (hs : s.size ≤ 1099511627776) (hq : 0 ≤ q.sp ∧ q.sp ≤ 300000000000) (hqt : IsT q t) (bs0 : List Bx) (hsub : ∀ b ∈ bs0, b ∈ bs) (hK : Keep bs0 (fun V => TbL V t)) : Calls Tryd.prog 62 #[.pointer (some ⟨R, 0, none⟩)] w fun e w' => OutS w0 mz R bs s RelG Value.agg w.heap.size (ruleR t.ds s.data.toList q p) e w' := by
  have hmf : ∀ (fn : Fn) (first cap : Array Value) (w : World), (Instr.makeFunc fn first cap).run Tryd.prog w = .ok (.func fn first cap) w := fun _ _ _ _ => rfl
  have HW0 : Hid (w0.heap.size ≤ w.heap.size) := h.B.size
  have HWR : Hid (w.heap.size ≠ R) := by have := h.lt; show _ ≠ _; omega
  have HFR : Hid (∀ b ∈ bs, b.1 ≠ w.heap.size) := h.fresh
  have HR1 : Hid (Rd w0 mz (w.alloc (.cells #[.int .i64 0, .int .i64 0, .int .u16 0, .int .u16 0, .slice none 0 0] 51)) R ((w.heap.size, 51, #[.int .i64 0, .int .i64 0, .int .u16 0, .int .u16 0, .slice none 0 0]) :: bs) q s p) := h.add (below_new _ _) _ _ _ (Nat.le_refl _) (heap_new _ _)
  have HMZ : Hid (mz = w.heap.size) := hmz
  obtain ⟨W1, e1⟩ : ∃ W, w.alloc (.cells #[.int .i64 0, .int .i64 0, .int .u16 0, .int .u16 0, .slice none 0 0] 51) = W := ⟨_, rfl⟩
  have E1 : Hid (w.alloc (.cells #[.int .i64 0, .int .i64 0, .int .u16 0, .int .u16 0, .slice none 0 0] 51) = W1) := e1
  rw [e1] at HR1
  have HQT : Hid (IsT q t) := hqt
  have HSB : Hid (∀ b ∈ bs0, b ∈ bs) := hsub
  have HKT : Hid (Keep bs0 (fun V => TbL V t)) := hK
  unfold ruleR
  clear h e1 hqt hsub hK hmz
  cases hL : lenR q s.data.toList p with
  | none =>
    have cL := len_no HR1.out hs ⟨hq.1, by omega⟩ hL
    show Calls Tryd.prog 62 #[.pointer (some ⟨R, 0, none⟩)] w (fun e w' => e = pan pf ∧ Below w0.heap.size w0 w')
    go_enter Tryd.func62, Tryd.ntmps62
    go_upto_region 1 with fail
    rw [E1.out]
    clear E1
    go_wp2_with fail
    refine cL.mono ?_
    rintro e w2 ⟨rfl, hb⟩
    exact ⟨rfl, rfl, hb⟩
  | some dq =>
    obtain ⟨d, q1, p1⟩ := dq
    have cL := len_ok HR1.out hs ⟨hq.1, by omega⟩ hL
    obtain ⟨hS1, hq10, hq11⟩ := lenR_6 hL
    have HS1 : Hid (Same6 q q1) := hS1
    show Calls Tryd.prog 62 #[.pointer (some ⟨R, 0, none⟩)] w (OutS w0 mz R bs s RelG Value.agg w.heap.size (Option.bind (uptoR 8 s.data.toList p1) _))
    cases hn : uptoR 8 s.data.toList p1 with
    | none =>
      show Calls Tryd.prog 62 #[.pointer (some ⟨R, 0, none⟩)] w (fun e w' => e = pan pf ∧ Below w0.heap.size w0 w')
      clear hL hS1
      go_enter Tryd.func62, Tryd.ntmps62
      go_upto_region 1 with fail
      rw [E1.out]
      clear E1
      go_wp2_with fail
      refine cL.mono ?_
      rintro e w2 ⟨rfl, hr2⟩
      have hf2 := hr2.fresh
      have HZ : Hid ((w2.alloc (.cells #[.int .i64 0, .int .i64 0] 48)).heap[w2.heap.size]? = some (.cells #[.int .i64 0, .int .i64 0] 48 (0, 0))) := heap_new _ _
      have hbx : Below w2.heap.size w2 ((w2.alloc (.cells #[.int .i64 0, .int .i64 0] 48)).setRow w2.heap.size d.vals) := below_row (below_new _ _) (Nat.le_refl _) _
      have hR3 := hr2.add hbx w2.heap.size 48 d.vals (Nat.le_refl _) (setRow_heap _ _ _ _ _ _ HZ.out)
      have HR3 : Hid (Rd w0 mz ((w2.alloc (.cells #[.int .i64 0, .int .i64 0] 48)).setRow w2.heap.size d.vals) R ((w2.heap.size, 48, d.vals) :: (w.heap.size, 51, #[.int .i64 0, .int .i64 0, .int .u16 0, .int .u16 0, .slice none 0 0]) :: bs) q1 s p1) := hR3
      clear cL hr2 hbx hR3
      go_upto_region 2 with (refine wpList_store_row rfl 48 (.tmp 3) (.tmp 5) rfl w2.heap.size d.vals rfl rfl 48 #[.int .i64 0, .int .i64 0] HZ.out size65' rfl (allSp d) ?_)
      obtain ⟨g3, eg3⟩ : ∃ g, w2.heap.size = g := ⟨_, rfl⟩
      rw [eg3] at HR3 hf2 ⊢
      generalize World.setRow _ _ _ = W3 at HR3 ⊢
      clear HZ eg3
      have HFA : Hid (∀ v : World, v.heap[g3]? = some (.cells d.vals 48 (0, 0)) → v.cell? ⟨g3, 0, none⟩ = some (.int .i64 d.f) ∧ v.cell? ⟨g3, 1, none⟩ = some (.int .i64 d.t)) := fun v hv => ⟨cell_of hv 0, cell_of hv 1⟩
      have HRd : Hid (Rd w0 mz W3.drew R ((g3, 48, d.vals) :: (w.heap.size, 51, #[.int .i64 0, .int .i64 0, .int .u16 0, .int .u16 0, .slice none 0 0]) :: bs) q1 s p1) := HR3.out.on ⟨rfl, rfl, rfl, Nat.le_refl _, fun _ _ => rfl⟩
      refine wp_region_held_drew (S := fun v => v.heap[g3]? = some (.cells d.vals 48 (0, 0))) (by kernel_rfl) HRd.out.box (fun hHeld => ?_)
      have cU := upto_no HRd.out hs (by omega) hn
      refine wpAnyH_take (i := 0) (v := ?_) rfl (by kernel_rfl) (by kernel_rfl) (by kernel_rfl) (fun _ _ _ h => h) (Or.inl ⟨by rfl, ?_⟩) (by assumption) ?_
      rotate_left
      · (intro v hv; go_simp; try (with_reducible rfl))
      try simp [Act.put]
      refine wpAnyH_take (i := 1) (v := ?_) rfl (by kernel_rfl) (by kernel_rfl) (by kernel_rfl) (fun _ _ _ h => h) (Or.inl ⟨by rfl, ?_⟩) (by assumption) ?_
      rotate_left
      · (intro v hv; go_simp; try (with_reducible rfl))
      try simp [Act.put]
      refine wpAnyH_take (i := 2) (v := ?_) rfl (by kernel_rfl) (by kernel_rfl) (by kernel_rfl) (fun _ _ _ h => h) (Or.inl ⟨by rfl, ?_⟩) (by assumption) ?_
      rotate_left
      · (intro v hv; go_simp; try (with_reducible rfl))
      try simp [Act.put]
      refine wpAnyH_take (i := 3) (v := ?_) rfl (by kernel_rfl) (by kernel_rfl) (by kernel_rfl) (fun _ _ _ h => h) (Or.inl ⟨by rfl, ?_⟩) (by assumption) ?_
      rotate_left
      · (intro v hv; obtain ⟨b0, b1⟩ := HFA.out v hv; go_simp; try (with_reducible rfl))
      try simp [Act.put]
      refine wpAnyH_take (i := 4) (v := ?_) rfl (by kernel_rfl) (by kernel_rfl) (by kernel_rfl) (fun _ _ _ h => h) (Or.inl ⟨by rfl, ?_⟩) (by assumption) ?_
      rotate_left
      · (intro v hv; go_simp; try (with_reducible rfl))
      try simp [Act.put]
      refine wpAnyH_take (i := 6) (v := ?_) rfl (by kernel_rfl) (by kernel_rfl) (by kernel_rfl) (fun _ _ _ h => h) (Or.inl ⟨by rfl, ?_⟩) (by assumption) ?_
      rotate_left
      · (intro v hv; go_simp; try (with_reducible rfl))
      try simp [Act.put]
      refine wpAnyH_take (i := 7) (v := ?_) rfl (by kernel_rfl) (by kernel_rfl) (by kernel_rfl) (fun _ _ _ h => h) (Or.inl ⟨by rfl, ?_⟩) (by assumption) ?_
      rotate_left
      · (intro v hv; go_simp; try (with_reducible rfl))
      try simp [Act.put]
      refine wpAnyH_ready (rs := [5]) (by kernel_rfl) (by simp) ?_
      refine AllReadyH.cons rfl (fun K hK => ?_) AllReadyH.nil
      go_simp
      refine cU.mono ?_
      rintro e w4 ⟨rfl, hb⟩
      exact ⟨rfl, rfl, hb⟩
    | some np =>
      obtain ⟨n, p2⟩ := np
      obtain ⟨hn0, hn8⟩ := uptoR_bd hn
      obtain ⟨k, rfl⟩ := Int.eq_ofNat_of_zero_le hn0
      show Calls Tryd.prog 62 #[.pointer (some ⟨R, 0, none⟩)] w (OutS w0 mz R bs s RelG Value.agg w.heap.size (Option.map _ (listR (stR s.data.toList) k q1 p2)))
      have hk8 : k ≤ 8 := by omega
      cases hrs : listR (stR s.data.toList) k q1 p2 with
      | none =>
        show Calls Tryd.prog 62 #[.pointer (some ⟨R, 0, none⟩)] w (fun e w' => e = pan pf ∧ Below w0.heap.size w0 w')
        clear hL hS1
        go_enter Tryd.func62, Tryd.ntmps62
        go_upto_region 1 with fail
        rw [E1.out]
        clear E1
        go_wp2_with fail
        refine cL.mono ?_
        rintro e w2 ⟨rfl, hr2⟩
        have hf2 := hr2.fresh
        have HZ : Hid ((w2.alloc (.cells #[.int .i64 0, .int .i64 0] 48)).heap[w2.heap.size]? = some (.cells #[.int .i64 0, .int .i64 0] 48 (0, 0))) := heap_new _ _
        have hbx : Below w2.heap.size w2 ((w2.alloc (.cells #[.int .i64 0, .int .i64 0] 48)).setRow w2.heap.size d.vals) := below_row (below_new _ _) (Nat.le_refl _) _
        have hR3 := hr2.add hbx w2.heap.size 48 d.vals (Nat.le_refl _) (setRow_heap _ _ _ _ _ _ HZ.out)
        have HR3 : Hid (Rd w0 mz ((w2.alloc (.cells #[.int .i64 0, .int .i64 0] 48)).setRow w2.heap.size d.vals) R ((w2.heap.size, 48, d.vals) :: (w.heap.size, 51, #[.int .i64 0, .int .i64 0, .int .u16 0, .int .u16 0, .slice none 0 0]) :: bs) q1 s p1) := hR3
        clear cL hr2 hbx hR3
        go_upto_region 2 with (refine wpList_store_row rfl 48 (.tmp 3) (.tmp 5) rfl w2.heap.size d.vals rfl rfl 48 #[.int .i64 0, .int .i64 0] HZ.out size65' rfl (allSp d) ?_)
        obtain ⟨g3, eg3⟩ : ∃ g, w2.heap.size = g := ⟨_, rfl⟩
        rw [eg3] at HR3 hf2 ⊢
        generalize World.setRow _ _ _ = W3 at HR3 ⊢
        clear HZ eg3
        have HFA : Hid (∀ v : World, v.heap[g3]? = some (.cells d.vals 48 (0, 0)) → v.cell? ⟨g3, 0, none⟩ = some (.int .i64 d.f) ∧ v.cell? ⟨g3, 1, none⟩ = some (.int .i64 d.t)) := fun v hv => ⟨cell_of hv 0, cell_of hv 1⟩
        have HRd : Hid (Rd w0 mz W3.drew R ((g3, 48, d.vals) :: (w.heap.size, 51, #[.int .i64 0, .int .i64 0, .int .u16 0, .int .u16 0, .slice none 0 0]) :: bs) q1 s p1) := HR3.out.on ⟨rfl, rfl, rfl, Nat.le_refl _, fun _ _ => rfl⟩
        refine wp_region_held_drew (S := fun v => v.heap[g3]? = some (.cells d.vals 48 (0, 0))) (by kernel_rfl) HRd.out.box (fun hHeld => ?_)
        have cU := upto_ok HRd.out hs (by omega) hn
        refine wpAnyH_take (i := 0) (v := ?_) rfl (by kernel_rfl) (by kernel_rfl) (by kernel_rfl) (fun _ _ _ h => h) (Or.inl ⟨by rfl, ?_⟩) (by assumption) ?_
        rotate_left
        · (intro v hv; go_simp; try (with_reducible rfl))
        try simp [Act.put]
        refine wpAnyH_take (i := 1) (v := ?_) rfl (by kernel_rfl) (by kernel_rfl) (by kernel_rfl) (fun _ _ _ h => h) (Or.inl ⟨by rfl, ?_⟩) (by assumption) ?_
        rotate_left
        · (intro v hv; go_simp; try (with_reducible rfl))
        try simp [Act.put]
        refine wpAnyH_take (i := 2) (v := ?_) rfl (by kernel_rfl) (by kernel_rfl) (by kernel_rfl) (fun _ _ _ h => h) (Or.inl ⟨by rfl, ?_⟩) (by assumption) ?_
        rotate_left
        · (intro v hv; go_simp; try (with_reducible rfl))
        try simp [Act.put]
        refine wpAnyH_take (i := 3) (v := ?_) rfl (by kernel_rfl) (by kernel_rfl) (by kernel_rfl) (fun _ _ _ h => h) (Or.inl ⟨by rfl, ?_⟩) (by assumption) ?_
        rotate_left
        · (intro v hv; obtain ⟨b0, b1⟩ := HFA.out v hv; go_simp; try (with_reducible rfl))
        try simp [Act.put]
        refine wpAnyH_take (i := 4) (v := ?_) rfl (by kernel_rfl) (by kernel_rfl) (by kernel_rfl) (fun _ _ _ h => h) (Or.inl ⟨by rfl, ?_⟩) (by assumption) ?_
        rotate_left
        · (intro v hv; go_simp; try (with_reducible rfl))
        try simp [Act.put]
        refine wpAnyH_take (i := 6) (v := ?_) rfl (by kernel_rfl) (by kernel_rfl) (by kernel_rfl) (fun _ _ _ h => h) (Or.inl ⟨by rfl, ?_⟩) (by assumption) ?_
        rotate_left
        · (intro v hv; go_simp; try (with_reducible rfl))
        try simp [Act.put]
        refine wpAnyH_take (i := 7) (v := ?_) rfl (by kernel_rfl) (by kernel_rfl) (by kernel_rfl) (fun _ _ _ h => h) (Or.inl ⟨by rfl, ?_⟩) (by assumption) ?_
        rotate_left
        · (intro v hv; go_simp; try (with_reducible rfl))
        try simp [Act.put]
        refine wpAnyH_ready (rs := [5]) (by kernel_rfl) (by simp) ?_
        refine AllReadyH.cons rfl (fun K hK => ?_) AllReadyH.nil
        go_simp
        refine cU.mono ?_
        rintro e w4 ⟨rfl, hr4⟩
        have cR := rows_any (n := k) hr4 hs hk8 ⟨by omega, by omega⟩
        rw [hrs] at cR
        replace cR : Calls Tryd.prog 76 #[.int .i64 k, .func (.func 77) #[.pointer (some ⟨R, 0, none⟩)] #[]] w4 (fun e w' => e = pan pf ∧ Below w0.heap.size w0 w') := cR
        refine hK.out _ _ hr4.box (fun hHeld => ?_)
        clear hK K cU hr4
        try simp [Act.put]
        refine wpAnyH_ready (rs := [8]) (by kernel_rfl) (by simp) ?_
        refine AllReadyH.cons rfl (fun K hK => ?_) AllReadyH.nil
        go_simp
        refine cR.mono ?_
        rintro e w5 ⟨rfl, hb⟩
        exact ⟨rfl, rfl, hb⟩
      | some rq =>
        obtain ⟨rows, q3, p3⟩ := rq
        obtain ⟨hS3, _, _, hlen⟩ := rowsR_6 k hrs
        have HS3 : Hid (Same6 q1 q3) := hS3
        show Calls Tryd.prog 62 #[.pointer (some ⟨R, 0, none⟩)] w (fun e w' => ∃ x nb, e = .returned (.agg x) ∧ RelG ⟨d, (readsN t.ds d).1, (readsN t.ds d).2, rows⟩ x nb ∧ Rd w0 mz w' R (nb ++ bs) q3 s p3 ∧ (∀ b ∈ nb, w.heap.size ≤ b.1) ∧ w.heap.size ≤ w'.heap.size)
        clear hL hS1 hS3
        go_enter Tryd.func62, Tryd.ntmps62
        go_upto_region 1 with fail
        rw [E1.out]
        clear E1
        go_wp2_with fail
        refine cL.mono ?_
        rintro e w2 ⟨rfl, hr2⟩
        have hf2 := hr2.fresh
        have HZ : Hid ((w2.alloc (.cells #[.int .i64 0, .int .i64 0] 48)).heap[w2.heap.size]? = some (.cells #[.int .i64 0, .int .i64 0] 48 (0, 0))) := heap_new _ _
        have hbx : Below w2.heap.size w2 ((w2.alloc (.cells #[.int .i64 0, .int .i64 0] 48)).setRow w2.heap.size d.vals) := below_row (below_new _ _) (Nat.le_refl _) _
        have hR3 := hr2.add hbx w2.heap.size 48 d.vals (Nat.le_refl _) (setRow_heap _ _ _ _ _ _ HZ.out)
        have HR3 : Hid (Rd w0 mz ((w2.alloc (.cells #[.int .i64 0, .int .i64 0] 48)).setRow w2.heap.size d.vals) R ((w2.heap.size, 48, d.vals) :: (w.heap.size, 51, #[.int .i64 0, .int .i64 0, .int .u16 0, .int .u16 0, .slice none 0 0]) :: bs) q1 s p1) := hR3
        clear cL hr2 hbx hR3
        go_upto_region 2 with (refine wpList_store_row rfl 48 (.tmp 3) (.tmp 5) rfl w2.heap.size d.vals rfl rfl 48 #[.int .i64 0, .int .i64 0] HZ.out size65' rfl (allSp d) ?_)
        obtain ⟨g3, eg3⟩ : ∃ g, w2.heap.size = g := ⟨_, rfl⟩
        rw [eg3] at HR3 hf2 ⊢
        generalize World.setRow _ _ _ = W3 at HR3 ⊢
        clear HZ eg3
        have HFA : Hid (∀ v : World, v.heap[g3]? = some (.cells d.vals 48 (0, 0)) → v.cell? ⟨g3, 0, none⟩ = some (.int .i64 d.f) ∧ v.cell? ⟨g3, 1, none⟩ = some (.int .i64 d.t)) := fun v hv => ⟨cell_of hv 0, cell_of hv 1⟩
        have HRd : Hid (Rd w0 mz W3.drew R ((g3, 48, d.vals) :: (w.heap.size, 51, #[.int .i64 0, .int .i64 0, .int .u16 0, .int .u16 0, .slice none 0 0]) :: bs) q1 s p1) := HR3.out.on ⟨rfl, rfl, rfl, Nat.le_refl _, fun _ _ => rfl⟩
        refine wp_region_held_drew (S := fun v => v.heap[g3]? = some (.cells d.vals 48 (0, 0))) (by kernel_rfl) HRd.out.box (fun hHeld => ?_)
        have cU := upto_ok HRd.out hs (by omega) hn
        refine wpAnyH_take (i := 0) (v := ?_) rfl (by kernel_rfl) (by kernel_rfl) (by kernel_rfl) (fun _ _ _ h => h) (Or.inl ⟨by rfl, ?_⟩) (by assumption) ?_
        rotate_left
        · (intro v hv; go_simp; try (with_reducible rfl))
        try simp [Act.put]
        refine wpAnyH_take (i := 1) (v := ?_) rfl (by kernel_rfl) (by kernel_rfl) (by kernel_rfl) (fun _ _ _ h => h) (Or.inl ⟨by rfl, ?_⟩) (by assumption) ?_
        rotate_left
        · (intro v hv; go_simp; try (with_reducible rfl))
        try simp [Act.put]
        refine wpAnyH_take (i := 2) (v := ?_) rfl (by kernel_rfl) (by kernel_rfl) (by kernel_rfl) (fun _ _ _ h => h) (Or.inl ⟨by rfl, ?_⟩) (by assumption) ?_
        rotate_left
        · (intro v hv; go_simp; try (with_reducible rfl))
        try simp [Act.put]
        refine wpAnyH_take (i := 3) (v := ?_) rfl (by kernel_rfl) (by kernel_rfl) (by kernel_rfl) (fun _ _ _ h => h) (Or.inl ⟨by rfl, ?_⟩) (by assumption) ?_
        rotate_left
        · (intro v hv; obtain ⟨b0, b1⟩ := HFA.out v hv; go_simp; try (with_reducible rfl))
        try simp [Act.put]
        refine wpAnyH_take (i := 4) (v := ?_) rfl (by kernel_rfl) (by kernel_rfl) (by kernel_rfl) (fun _ _ _ h => h) (Or.inl ⟨by rfl, ?_⟩) (by assumption) ?_
        rotate_left
        · (intro v hv; go_simp; try (with_reducible rfl))
        try simp [Act.put]
        refine wpAnyH_take (i := 6) (v := ?_) rfl (by kernel_rfl) (by kernel_rfl) (by kernel_rfl) (fun _ _ _ h => h) (Or.inl ⟨by rfl, ?_⟩) (by assumption) ?_
        rotate_left
        · (intro v hv; go_simp; try (with_reducible rfl))
        try simp [Act.put]
        refine wpAnyH_take (i := 7) (v := ?_) rfl (by kernel_rfl) (by kernel_rfl) (by kernel_rfl) (fun _ _ _ h => h) (Or.inl ⟨by rfl, ?_⟩) (by assumption) ?_
        rotate_left
        · (intro v hv; go_simp; try (with_reducible rfl))
        try simp [Act.put]
        refine wpAnyH_ready (rs := [5]) (by kernel_rfl) (by simp) ?_
        refine AllReadyH.cons rfl (fun K hK => ?_) AllReadyH.nil
        go_simp
        refine cU.mono ?_
        rintro e w4 ⟨rfl, hr4⟩
        have cR := rows_any (n := k) hr4 hs hk8 ⟨by omega, by omega⟩
        rw [hrs] at cR
        have HL4 : Hid (w.heap.size < w4.heap.size) := (Array.getElem?_eq_some_iff.1 hr4.less.box).1
        refine hK.out _ _ hr4.box (fun hHeld => ?_)
        clear hK K cU hr4
        try simp [Act.put]
        refine wpAnyH_ready (rs := [8]) (by kernel_rfl) (by simp) ?_
        refine AllReadyH.cons rfl (fun K hK => ?_) AllReadyH.nil
        go_simp
        refine cR.mono ?_
        rintro e w5 ⟨ra, xs, nb, nbs, rfl, hrel, hxl, hkp, hr5, hf5, hs5⟩
        obtain ⟨rfl, rfl⟩ := rels_R hrel
        rw [List.nil_append] at hr5
        have HKP : Hid (Keep nb (fun V => SlAt V 11 ra k (rows.map RowM.vals))) := hkp
        have HF5 : Hid (∀ b ∈ nb, w.heap.size < b.1) := fun b hb => Nat.lt_of_lt_of_le HL4.out (hf5 b (by simp [hb]))
        have hb3 : w5.heap[g3]? = some (.cells d.vals 48 (0, 0)) := (hr5.K (g3, 48, d.vals) (by simp)).1
        subst hlen
        have cG := rguard_any R (nb ++ ((g3, 48, d.vals) :: (w.heap.size, 51, #[.int .i64 0, .int .i64 0, .int .u16 0, .int .u16 0, .slice none 0 0]) :: bs)) q3 s p3 d ra rows.length rows t w5 w0 hr5 ((HQT.out.on HS1.out).on HS3.out) bs0 (fun b hb => by simp [HSB.out b hb]) HKT.out
        refine hK.out _ _ hb3 (fun hHeld => ?_)
        clear hK K cR hr5 hrel hxl hkp hf5 hs5 hb3
        try simp [Act.put]
        refine wpAnyH_ready (rs := [9]) (by kernel_rfl) (by simp) ?_
        refine AllReadyH.cons rfl (fun K hK => ?_) AllReadyH.nil
        go_simp
        refine cG.mono ?_
        rintro e w6 ⟨rfl, hr6⟩
        have hb3 : w6.heap[g3]? = some (.cells d.vals 48 (0, 0)) := (hr6.K (g3, 48, d.vals) (by simp)).1
        have HN6 : Hid (w6.heap[w.heap.size]? = some (.cells #[.int .i64 0, .int .i64 0, .int .u16 0, .int .u16 0, .slice none 0 0] 51 (0, 0))) := (hr6.K (w.heap.size, 51, #[.int .i64 0, .int .i64 0, .int .u16 0, .int .u16 0, .slice none 0 0]) (by simp)).1
        obtain ⟨GV, eGV⟩ : ∃ q, GdM.vals ⟨d, (readsN t.ds d).1, (readsN t.ds d).2, ra, rows.length, rows⟩ = q := ⟨_, rfl⟩
        have HGV : Hid (GdM.vals ⟨d, (readsN t.ds d).1, (readsN t.ds d).2, ra, rows.length, rows⟩ = GV ∧ GV.size = 5 ∧ GV.all (·.oneCell') = true) := ⟨eGV, by rw [← eGV]; rfl, by rw [← eGV]; exact allGd _⟩
        rw [eGV]
        have HRS : Hid (Rd w0 mz (w6.setRow w.heap.size GV) R (nb ++ bs) q3 s p3) := hr6.row2 HW0.out HWR.out _ (fun b hb => by rcases List.mem_append.1 hb with hb | hb <;> simp [hb]) (fun b hb => by
          rcases List.mem_append.1 hb with hb | hb
          · have := HF5.out b hb; omega
          · exact HFR.out b hb)
        have HNS : Hid ((w6.setRow w.heap.size GV).heap[w.heap.size]? = some (.cells GV 51 (0, 0))) := setRow_heap _ _ _ _ _ _ HN6.out
        have HG3 : Hid ((w6.setRow w.heap.size GV).heap[g3]? = some (.cells d.vals 48 (0, 0))) := (setRow_other _ _ _ _ (fun e => hf2 (w.heap.size, 51, #[.int .i64 0, .int .i64 0, .int .u16 0, .int .u16 0, .slice none 0 0]) (by simp) e.symm)).trans hb3
        refine hK.out _ _ hb3 (fun hHeld => ?_)
        clear hK K cG hr6 hb3 eGV
        try simp [Act.put]
        refine wpAnyH_ready (rs := [10]) (by kernel_rfl) (by simp) ?_
        refine AllReadyH.cons rfl (fun K hK => ?_) AllReadyH.nil
        rw [if_pos (by rfl)]
        refine wp_store_row 51 (.tmp 2) (.tmp 15) rfl w.heap.size GV rfl rfl 51 #[.int .i64 0, .int .i64 0, .int .u16 0, .int .u16 0, .slice none 0 0] HN6.out (by rw [HGV.out.2.1]; exact size68') (by rw [HGV.out.2.1]; rfl) HGV.out.2.2 ?_
        refine hK.out _ _ HG3.out (fun hHeld => ?_)
        clear hK K
        try simp [Act.put]
        refine wpAnyH_done (by kernel_rfl) ?_ _
        go_wp2_with fail
        refine bodyPost_ret (results_cell_row rfl _ _ w.heap.size 51 GV (0, 0) _ rfl HNS.out Tryd.underlying51 rfl (by rw [HGV.out.2.1]; exact size68')) rfl ?_
        exact ⟨GV, nb, rfl, ⟨ra, HGV.out.1.symm, HKP.out⟩, HRS.out, fun b hb => Nat.le_of_lt (HF5.out b hb), by have := HRS.out.M; rw [HMZ.out] at this; exact this⟩
end Go.Proofs.YteedmmljahgpjabDoor
