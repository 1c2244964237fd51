import Derived.Test.YteedmmljahgpjabDoorTx
import Derived.Deep.RegionHeld
/-
  Encode of any table.
-/
namespace Go.Proofs.YteedmmljahgpjabDoor
open Go.RowKit
set_option linter.unusedVariables false
set_option linter.unusedSimpArgs false
def encL (t : TbM) : List UInt8 := W.text1 t.x.data.toList ++ W.putL (W.nats (contZ t))
def encS (t : TbM) : ByteArray := if checkE t == 0 then W.bytes (W.frS (encL t)) else ⟨#[]⟩
def encE (t : TbM) : Int := if checkE t == 0 then (W.frE (encL t) : Nat) else checkE t
set_option maxRecDepth 100000 in
set_option maxHeartbeats 4000000 in
theorem encode_any (t : TbM) (w : World) (hl : TbL w t) (htb : Tab w) : Calls Tryd.prog 6 #[.agg t.vals] w fun e w' => e = .returned (.tuple #[.string (encS t), .int .i64 (encE t)]) ∧ Below w.heap.size w w' := by
  have hb1 := below_new w (.cells t.vals 26)
  have hn1 := heap_new w (.cells t.vals 26)
  obtain ⟨W1, e1⟩ : ∃ W, w.alloc (.cells t.vals 26) = W := ⟨_, rfl⟩
  have E1 : Hid (w.alloc (.cells t.vals 26) = W1) := e1
  rw [e1] at hb1 hn1
  have HB1 : Hid (Below w.heap.size w W1) := hb1
  have HN1 : Hid (W1.heap[w.heap.size]? = some (.cells t.vals 26 (0, 0))) := hn1
  have HS1 : Hid (W1.heap.size = w.heap.size + 1) := by show _ = _; rw [← e1]; exact size_alloc _ _
  clear hb1 e1 hn1
  have cC := check_any t W1 (hl.on HB1.out) (htb.on HB1.out)
  have HTL : Hid (TbL w t) := hl
  unfold encS encE
  clear hl htb
  cases hz : (checkE t == 0) with
  | false =>
    have hq : (checkE t != 0) = true := by simp [bne, hz]
    rw [if_neg (by simp), if_neg (by simp)]
    obtain ⟨E, eE⟩ : ∃ q, checkE t = q := ⟨_, rfl⟩
    rw [eE] at cC hq hz ⊢
    clear eE
    go_enter Tryd.func6, Tryd.ntmps6
    go_upto_region 1 with fail
    rw [E1.out]
    clear E1
    go_wp2_with (refine wpList_load_row rfl 26 (.tmp 1) rfl w.heap.size rfl 26 t.vals (0, 0) _ HN1.out Tryd.underlying26 rfl size26' ?_)
    refine cC.mono ?_
    rintro e w2 ⟨rfl, hb2⟩
    have HB2 : Hid (Below w.heap.size w w2) := below2 HB1.out hb2
    clear cC hb2
    go_wp2_with fail
    go_ret2
    exact ⟨rfl, HB2.out⟩
  | true =>
    have hE : checkE t = 0 := by simpa using hz
    have hf := check_form hz
    rw [if_pos rfl, if_pos rfl]
    rw [hE] at cC
    obtain ⟨L, eL⟩ : ∃ q, encL t = q := ⟨_, rfl⟩
    have HL : Hid (W.bytes (W.text1 t.x.data.toList ++ W.putL (W.nats (contZ t))) = W.bytes L) := by show _ = _; rw [← eL]; rfl
    rw [eL]
    clear hE hz eL
    go_enter Tryd.func6, Tryd.ntmps6
    go_upto_region 1 with fail
    rw [E1.out]
    clear E1
    go_wp2_with (refine wpList_load_row rfl 26 (.tmp 1) rfl w.heap.size rfl 26 t.vals (0, 0) _ HN1.out Tryd.underlying26 rfl size26' ?_)
    refine cC.mono ?_
    rintro e w2 ⟨rfl, hb2⟩
    have HB2 : Hid (Below w.heap.size w w2) := below2 HB1.out hb2
    have HN2 : Hid (w2.heap[w.heap.size]? = some (.cells t.vals 26 (0, 0))) := (hb2.block _ (by rw [HS1.out]; omega)).trans HN1.out
    have cT := content_any t w2 (HTL.out.on HB2.out) hf
    rw [HL.out] at cT
    clear cC hb2 hf
    go_wp2_with (refine wpList_load_row rfl 26 (.tmp 1) rfl w.heap.size rfl 26 t.vals (0, 0) _ HN2.out Tryd.underlying26 rfl size26' ?_)
    refine cT.mono ?_
    rintro e w3 ⟨rfl, hb3⟩
    have HB3 : Hid (Below w.heap.size w w3) := below2 HB2.out hb3
    have cF := W.frame_any (W.bytes L) w3
    rw [show (W.bytes L).data.toList = L by simp [W.bytes]] at cF
    clear cT hb3
    go_wp2_with fail
    refine cF.mono ?_
    rintro e w4 ⟨rfl, hb4⟩
    have HB4 : Hid (Below w.heap.size w w4) := below2 HB3.out hb4
    clear cF hb4
    go_wp2_with fail
    go_ret2
    exact ⟨rfl, HB4.out⟩
end Go.Proofs.YteedmmljahgpjabDoor

/-
  The reader of bytes: its block; a number, a text, what is at most so great.
-/
namespace Go.Proofs.YteedmmljahgpjabDoor
open Go.RowKit
set_option linter.unusedVariables false
set_option linter.unusedSimpArgs false
structure RS where
  x0 : Value
  x1 : Value
  x2 : Value
  x3 : Value
  x4 : Value
  x5 : Value
  sp : Int
def rdA (q : RS) (s : ByteArray) (p : Int) : Array Value := #[q.x0, q.x1, q.x2, q.x3, q.x4, q.x5, .int .i64 q.sp, .string s, .int .i64 p]
/-- The reader, and boxes of which nothing changes. -/
structure Rd (w0 : World) (mz : Nat) (V : World) (R : Nat) (bs : List (Nat × Nat × Array Value)) (q : RS) (s : ByteArray) (p : Int) : Prop where
  H : V.heap[R]? = some (.cells (rdA q s p) 90 (0, 0))
  B : Below w0.heap.size w0 V
  G : w0.heap.size ≤ R
  K : ∀ b ∈ bs, V.heap[b.1]? = some (.cells b.2.2 b.2.1 (0, 0)) ∧ b.1 ≠ R
  L : ∀ b ∈ bs, w0.heap.size ≤ b.1
  M : mz ≤ V.heap.size
theorem Rd.lt {mz : Nat} {w0 V : World} {R : Nat} {bs : List (Nat × Nat × Array Value)} {q : RS} {s : ByteArray} {p : Int} (h : Rd w0 mz V R bs q s p) : R < V.heap.size := (Array.getElem?_eq_some_iff.1 h.H).1
theorem Rd.on {mz : Nat} {w0 V V' : World} {R : Nat} {bs : List (Nat × Nat × Array Value)} {q : RS} {s : ByteArray} {p : Int} (h : Rd w0 mz V R bs q s p) (k : Below V.heap.size V V') : Rd w0 mz V' R bs q s p :=
  ⟨(k.block _ h.lt).trans h.H, below2 h.B k, h.G, fun b hb => ⟨(k.block _ (Array.getElem?_eq_some_iff.1 (h.K b hb).1).1).trans (h.K b hb).1, (h.K b hb).2⟩, h.L, Nat.le_trans h.M k.size⟩
theorem Rd.drew {mz : Nat} {w0 V : World} {R : Nat} {bs : List (Nat × Nat × Array Value)} {q : RS} {s : ByteArray} {p : Int} (h : Rd w0 mz V R bs q s p) (n : Nat) : Rd w0 mz (V.drewN n) R bs q s p := h.on ⟨rfl, rfl, rfl, Nat.le_refl _, fun _ _ => rfl⟩
/-- A cell of the reader is written. -/
theorem Rd.set {mz : Nat} {w0 V : World} {R : Nat} {bs : List (Nat × Nat × Array Value)} {q q' : RS} {s : ByteArray} {p p' : Int} (h : Rd w0 mz V R bs q s p) (j : Nat) (v : Value) (e : (rdA q s p).setIfInBounds j v = rdA q' s p') : Rd w0 mz (V.setCell ⟨R, j, none⟩ v) R bs q' s p' :=
  ⟨by have := heap_set (j := j) v h.H; rw [e] at this; exact this, h.B.setCell h.G _, h.G, fun b hb => ⟨(heap_setCell_other _ _ _ _ (h.K b hb).2).trans (h.K b hb).1, (h.K b hb).2⟩, h.L, by rw [World.size_setCell]; exact h.M⟩
theorem Rd.add {mz : Nat} {w0 V V' : World} {R : Nat} {bs : List (Nat × Nat × Array Value)} {q : RS} {s : ByteArray} {p : Int} (h : Rd w0 mz V R bs q s p) (k : Below V.heap.size V V') (g t : Nat) (cs : Array Value) (hg : V.heap.size ≤ g) (hh : V'.heap[g]? = some (.cells cs t (0, 0))) : Rd w0 mz V' R ((g, t, cs) :: bs) q s p := by
  have h2 := h.on k
  have := h.lt
  refine ⟨h2.H, h2.B, h2.G, fun b hb => ?_, fun b hb => ?_, h2.M⟩
  · rcases List.mem_cons.1 hb with rfl | hb
    · exact ⟨hh, by show g ≠ R; omega⟩
    · exact h2.K b hb
  · rcases List.mem_cons.1 hb with rfl | hb
    · exact Nat.le_trans h.B.size hg
    · exact h.L b hb
theorem Rd.less {mz : Nat} {w0 V : World} {R : Nat} {b : Nat × Nat × Array Value} {bs : List (Nat × Nat × Array Value)} {q : RS} {s : ByteArray} {p : Int} (h : Rd w0 mz V R (b :: bs) q s p) : Rd w0 mz V R bs q s p := ⟨h.H, h.B, h.G, fun b hb => h.K b (List.mem_cons_of_mem _ hb), fun b hb => h.L b (List.mem_cons_of_mem _ hb), h.M⟩
theorem Rd.box {mz : Nat} {w0 V : World} {R : Nat} {b : Nat × Nat × Array Value} {bs : List (Nat × Nat × Array Value)} {q : RS} {s : ByteArray} {p : Int} (h : Rd w0 mz V R (b :: bs) q s p) : V.heap[b.1]? = some (.cells b.2.2 b.2.1 (0, 0)) := (h.K b (List.mem_cons_self ..)).1
def pf : Value := .iface 60 (.agg #[])
def pan (v : Value) : Ending := .panicked [{ v := v, recovered := false }]
/-- What a call that reads a value hands back, or gives up with. -/
def OutV (w0 : World) (mz : Nat) (R : Nat) (bs : List (Nat × Nat × Array Value)) (q : RS) (s : ByteArray) (r : Option (Value × Int)) (e : Ending) (w' : World) : Prop :=
  match r with
  | some (v, p) => e = .returned v ∧ Rd w0 mz w' R bs q s p
  | none => e = pan pf ∧ Below w0.heap.size w0 w'
def numR (l : List UInt8) (p : Int) : Option (Int × Int) := if W.takeE l p = 0 then some ((W.takeN l p : Nat), W.takeP l p) else none
def uptoR (m : Int) (l : List UInt8) (p : Int) : Option (Int × Int) := (numR l p).bind fun n => if decide (n.1 ≤ m) then some n else none
def signR (l : List UInt8) (p : Int) : Option (Int × Int) := (numR l p).map fun n => (W.zagN n.1, n.2)
def txtR (l : List UInt8) (p : Int) : Option (ByteArray × Int) := if W.textE l p = 0 then some (W.bytes (W.textS l p), W.textP l p) else none
theorem numR_bd {l : List UInt8} {p n m : Int} (h : numR l p = some (n, m)) : 0 ≤ n ∧ n ≤ 18446744073709551615 := by
  unfold numR at h
  split at h
  · rename_i hE
    obtain ⟨g1, g2, g3, g4, _, _⟩ := W.take_one hE
    have : n = (W.takeN l p : Nat) := by simp at h; omega
    omega
  · cases h
set_option maxRecDepth 100000 in
theorem need_ok (w : World) : Calls Tryd.prog 18 #[.bool true] w fun e w' => e = .returned (.tuple #[]) ∧ w' = w := by
  go_enter Tryd.func18, Tryd.ntmps18
  go_wp2_with fail
  go_end0
  exact ⟨rfl, rfl⟩
set_option maxRecDepth 100000 in
theorem need_no (w : World) : Calls Tryd.prog 18 #[.bool false] w fun e w' => e = pan pf ∧ w' = w := by
  go_enter Tryd.func18, Tryd.ntmps18
  go_wp2_with fail
  exact ⟨rfl, rfl, rfl⟩
set_option maxRecDepth 100000 in
set_option maxHeartbeats 4000000 in
theorem rnumber_any {mz : Nat} (R : Nat) (bs : List (Nat × Nat × Array Value)) (q : RS) (s : ByteArray) (p : Int) (w : World) (w0 : World) (h : Rd w0 mz w R bs q s p) (hs : s.size ≤ 1099511627776) : Calls Tryd.prog 59 #[.pointer (some ⟨R, 0, none⟩)] w fun e w' => OutV w0 mz R bs q s ((numR s.data.toList p).map fun n => (Value.int .u64 n.1, n.2)) e w' := by
  have cT := fun w => W.take_any s p hs w
  have cN := need_no
  have cO := need_ok
  have c7 : w.cell? ⟨R, 7, none⟩ = some (.string s) := cell_of h.H 7
  have c8 : w.cell? ⟨R, 8, none⟩ = some (.int .i64 p) := cell_of h.H 8
  have HR : Hid (Rd w0 mz w R bs q s p) := h
  unfold numR OutV
  clear h
  by_cases hE : W.takeE s.data.toList p = 0
  · rw [if_pos hE]
    rw [hE] at cT
    obtain ⟨n, en⟩ : ∃ n, ((W.takeN s.data.toList p : Nat) : Int) = n := ⟨_, rfl⟩
    obtain ⟨p2, ep⟩ : ∃ p2, W.takeP s.data.toList p = p2 := ⟨_, rfl⟩
    rw [en, ep] at cT ⊢
    show Calls Tryd.prog 59 #[.pointer (some ⟨R, 0, none⟩)] w (fun e w' => e = .returned (.int .u64 n) ∧ Rd w0 mz w' R bs q s p2)
    have HS : Hid (∀ k, Rd w0 mz ((w.drewN k).setCell ⟨R, 8, none⟩ (.int .i64 p2)) R bs q s p2) := fun k => (HR.out.drew k).set 8 _ rfl
    have f8 : w.frozen? ⟨R, 8, none⟩ = false := frozen_of HR.out.H 8
    clear en ep hE
    go_enter Tryd.func59, Tryd.ntmps59
    go_upto_region 1 with fail
    go_quiet ((go_at_call 58; refine Calls.quiet_of_same (cT _)))
    go_wp2_with fail
    refine (cO _).mono ?_
    rintro e w2 ⟨rfl, rfl⟩
    go_wp2_with fail
    go_ret
    exact ⟨rfl, HS.out _⟩
  · rw [if_neg hE]
    show Calls Tryd.prog 59 #[.pointer (some ⟨R, 0, none⟩)] w (fun e w' => e = pan pf ∧ Below w0.heap.size w0 w')
    obtain ⟨k, ek⟩ : ∃ k : Int, ((W.takeE s.data.toList p : Nat) : Int) = k := ⟨_, rfl⟩
    rw [ek] at cT
    have hk : (k == 0) = false := by simp; omega
    have HB : Hid (∀ n, Below w0.heap.size w0 (w.drewN n)) := fun n => (HR.out.drew n).B
    clear ek hE
    go_enter Tryd.func59, Tryd.ntmps59
    go_upto_region 1 with fail
    go_quiet ((go_at_call 58; refine Calls.quiet_of_same (cT _)))
    go_wp2_with fail
    refine (cN _).mono ?_
    rintro e w2 ⟨rfl, rfl⟩
    exact ⟨rfl, rfl, HB.out _⟩
set_option maxRecDepth 100000 in
set_option maxHeartbeats 4000000 in
theorem rtext_any {mz : Nat} (R : Nat) (bs : List (Nat × Nat × Array Value)) (q : RS) (s : ByteArray) (p : Int) (w : World) (w0 : World) (h : Rd w0 mz w R bs q s p) (hs : s.size ≤ 1099511627776) : Calls Tryd.prog 43 #[.pointer (some ⟨R, 0, none⟩)] w fun e w' => OutV w0 mz R bs q s ((txtR s.data.toList p).map fun n => (Value.string n.1, n.2)) e w' := by
  have cT := fun w => W.takeText_any s p hs w
  have cN := need_no
  have cO := need_ok
  have c7 : w.cell? ⟨R, 7, none⟩ = some (.string s) := cell_of h.H 7
  have c8 : w.cell? ⟨R, 8, none⟩ = some (.int .i64 p) := cell_of h.H 8
  have HR : Hid (Rd w0 mz w R bs q s p) := h
  unfold txtR OutV
  clear h
  by_cases hE : W.textE s.data.toList p = 0
  · rw [if_pos hE]
    rw [hE] at cT
    obtain ⟨n, en⟩ : ∃ n, W.bytes (W.textS s.data.toList p) = n := ⟨_, rfl⟩
    obtain ⟨p2, ep⟩ : ∃ p2, W.textP s.data.toList p = p2 := ⟨_, rfl⟩
    rw [en, ep] at cT ⊢
    show Calls Tryd.prog 43 #[.pointer (some ⟨R, 0, none⟩)] w (fun e w' => e = .returned (.string n) ∧ Rd w0 mz w' R bs q s p2)
    have HS : Hid (∀ k, Rd w0 mz ((w.drewN k).setCell ⟨R, 8, none⟩ (.int .i64 p2)) R bs q s p2) := fun k => (HR.out.drew k).set 8 _ rfl
    have f8 : w.frozen? ⟨R, 8, none⟩ = false := frozen_of HR.out.H 8
    clear en ep hE
    go_enter Tryd.func43, Tryd.ntmps43
    go_upto_region 1 with fail
    go_quiet ((go_at_call 42; refine Calls.quiet_of_same (cT _)))
    go_wp2_with fail
    refine (cO _).mono ?_
    rintro e w2 ⟨rfl, rfl⟩
    go_wp2_with fail
    go_ret
    exact ⟨rfl, HS.out _⟩
  · rw [if_neg hE]
    show Calls Tryd.prog 43 #[.pointer (some ⟨R, 0, none⟩)] w (fun e w' => e = pan pf ∧ Below w0.heap.size w0 w')
    obtain ⟨k, ek⟩ : ∃ k : Int, ((W.textE s.data.toList p : Nat) : Int) = k := ⟨_, rfl⟩
    rw [ek] at cT
    have hk : (k == 0) = false := by simp; omega
    have HB : Hid (∀ n, Below w0.heap.size w0 (w.drewN n)) := fun n => (HR.out.drew n).B
    clear ek hE
    go_enter Tryd.func43, Tryd.ntmps43
    go_upto_region 1 with fail
    go_quiet ((go_at_call 42; refine Calls.quiet_of_same (cT _)))
    go_wp2_with fail
    refine (cN _).mono ?_
    rintro e w2 ⟨rfl, rfl⟩
    exact ⟨rfl, rfl, HB.out _⟩
set_option maxRecDepth 100000 in
set_option maxHeartbeats 4000000 in
theorem rsigned_any {mz : Nat} (R : Nat) (bs : List (Nat × Nat × Array Value)) (q : RS) (s : ByteArray) (p : Int) (w : World) (w0 : World) (h : Rd w0 mz w R bs q s p) (hs : s.size ≤ 1099511627776) : Calls Tryd.prog 46 #[.pointer (some ⟨R, 0, none⟩)] w fun e w' => OutV w0 mz R bs q s ((signR s.data.toList p).map fun n => (Value.int .i64 n.1, n.2)) e w' := by
  have cT := rnumber_any R bs q s p w w0 h hs
  have HNB : Hid (∀ n m, numR s.data.toList p = some (n, m) → 0 ≤ n ∧ n ≤ 18446744073709551615) := fun n m hn => numR_bd hn
  unfold signR
  cases hn : numR s.data.toList p with
  | none =>
    rw [hn] at cT
    show Calls Tryd.prog 46 #[.pointer (some ⟨R, 0, none⟩)] w (fun e w' => e = pan pf ∧ Below w0.heap.size w0 w')
    replace cT : Calls Tryd.prog 59 #[.pointer (some ⟨R, 0, none⟩)] w (fun e w' => e = pan pf ∧ Below w0.heap.size w0 w') := cT
    clear h
    go_enter Tryd.func46, Tryd.ntmps46
    go_wp2_with fail
    refine cT.mono ?_
    rintro e w2 ⟨rfl, hb⟩
    exact ⟨rfl, rfl, hb⟩
  | some nm =>
    obtain ⟨n, m⟩ := nm
    rw [hn] at cT
    obtain ⟨hn0, hn1⟩ := HNB.out n m hn
    show Calls Tryd.prog 46 #[.pointer (some ⟨R, 0, none⟩)] w (fun e w' => e = .returned (.int .i64 (W.zagN n)) ∧ Rd w0 mz w' R bs q s m)
    replace cT : Calls Tryd.prog 59 #[.pointer (some ⟨R, 0, none⟩)] w (fun e w' => e = .returned (.int .u64 n) ∧ Rd w0 mz w' R bs q s m) := cT
    have cZ := fun w => W.zag_any n hn0 hn1 w
    clear h hn
    go_enter Tryd.func46, Tryd.ntmps46
    go_wp2_with fail
    refine cT.mono ?_
    rintro e w2 ⟨rfl, hb⟩
    have HR2 : Hid (Rd w0 mz w2 R bs q s m) := hb
    clear cT hb
    go_wp2_with fail
    refine (cZ _).mono ?_
    rintro e w3 ⟨rfl, rfl⟩
    go_wp2_with fail
    go_ret
    exact ⟨rfl, HR2.out⟩
set_option maxRecDepth 100000 in
set_option maxHeartbeats 4000000 in
theorem rupto_any {mz : Nat} (R : Nat) (bs : List (Nat × Nat × Array Value)) (q : RS) (s : ByteArray) (p : Int) (m : Int) (w : World) (w0 : World) (h : Rd w0 mz w R bs q s p) (hs : s.size ≤ 1099511627776) (hm : 0 ≤ m ∧ m ≤ 100000) : Calls Tryd.prog 45 #[.pointer (some ⟨R, 0, none⟩), .int .i64 m] w fun e w' => OutV w0 mz R bs q s ((uptoR m s.data.toList p).map fun n => (Value.int .i64 n.1, n.2)) e w' := by
  have cT := rnumber_any R bs q s p w w0 h hs
  have HNB : Hid (∀ n m, numR s.data.toList p = some (n, m) → 0 ≤ n ∧ n ≤ 18446744073709551615) := fun n m hn => numR_bd hn
  have cN := need_no
  have cO := need_ok
  have hmm : m % 18446744073709551616 = m := by omega
  unfold uptoR
  cases hn : numR s.data.toList p with
  | none =>
    rw [hn] at cT
    show Calls Tryd.prog 45 #[.pointer (some ⟨R, 0, none⟩), .int .i64 m] w (fun e w' => e = pan pf ∧ Below w0.heap.size w0 w')
    replace cT : Calls Tryd.prog 59 #[.pointer (some ⟨R, 0, none⟩)] w (fun e w' => e = pan pf ∧ Below w0.heap.size w0 w') := cT
    clear h
    go_enter Tryd.func45, Tryd.ntmps45
    go_wp2_with fail
    refine cT.mono ?_
    rintro e w2 ⟨rfl, hb⟩
    exact ⟨rfl, rfl, hb⟩
  | some nm =>
    obtain ⟨n, p2⟩ := nm
    rw [hn] at cT
    obtain ⟨hn0, hn1⟩ := HNB.out n p2 hn
    replace cT : Calls Tryd.prog 59 #[.pointer (some ⟨R, 0, none⟩)] w (fun e w' => e = .returned (.int .u64 n) ∧ Rd w0 mz w' R bs q s p2) := cT
    show Calls Tryd.prog 45 #[.pointer (some ⟨R, 0, none⟩), .int .i64 m] w (OutV w0 mz R bs q s (Option.map _ (if decide (n ≤ m) then some (n, p2) else none)))
    cases hd : decide (n ≤ m) with
    | true =>
      have hle : n ≤ m := of_decide_eq_true hd
      have hn2 : n ≤ 9223372036854775807 := by omega
      show Calls Tryd.prog 45 #[.pointer (some ⟨R, 0, none⟩), .int .i64 m] w (fun e w' => e = .returned (.int .i64 n) ∧ Rd w0 mz w' R bs q s p2)
      clear h hn
      go_enter Tryd.func45, Tryd.ntmps45
      go_wp2_with fail
      refine cT.mono ?_
      rintro e w2 ⟨rfl, hb⟩
      have HR2 : Hid (Rd w0 mz w2 R bs q s p2) := hb
      clear cT hb
      go_wp2_with fail
      refine (cO _).mono ?_
      rintro e w3 ⟨rfl, rfl⟩
      go_wp2_with fail
      go_ret
      exact ⟨rfl, HR2.out⟩
    | false =>
      show Calls Tryd.prog 45 #[.pointer (some ⟨R, 0, none⟩), .int .i64 m] w (fun e w' => e = pan pf ∧ Below w0.heap.size w0 w')
      clear h hn
      go_enter Tryd.func45, Tryd.ntmps45
      go_wp2_with fail
      refine cT.mono ?_
      rintro e w2 ⟨rfl, hb⟩
      have HR2 : Hid (Below w0.heap.size w0 w2) := hb.B
      clear cT hb
      go_wp2_with fail
      refine (cN _).mono ?_
      rintro e w3 ⟨rfl, rfl⟩
      exact ⟨rfl, rfl, HR2.out⟩
end Go.Proofs.YteedmmljahgpjabDoor

/-
  The reader: an instruction; a span.
-/
namespace Go.Proofs.YteedmmljahgpjabDoor
open Go.RowKit
set_option linter.unusedVariables false
set_option linter.unusedSimpArgs false
/-- What a call that reads hands back, with what has been read so far, or gives up with. -/
def OutQ (w0 : World) (mz : Nat) (R : Nat) (bs : List (Nat × Nat × Array Value)) (s : ByteArray) (r : Option (Value × RS × Int)) (e : Ending) (w' : World) : Prop :=
  match r with
  | some (v, q, p) => e = .returned v ∧ Rd w0 mz w' R bs q s p
  | none => e = pan pf ∧ Below w0.heap.size w0 w'
theorem uptoR_bd {m : Int} {l : List UInt8} {p n p2 : Int} (h : uptoR m l p = some (n, p2)) : 0 ≤ n ∧ n ≤ m := by
  unfold uptoR at h
  obtain ⟨⟨a, b⟩, h1, h2⟩ := Option.bind_eq_some_iff.1 h
  have := numR_bd h1
  split at h2
  · rename_i hd
    have hd := of_decide_eq_true hd
    simp at h2 hd
    omega
  · cases h2
/-- upto, read as two ways. -/
theorem upto_no {mz : Nat} {m : Int} {R : Nat} {bs : List (Nat × Nat × Array Value)} {q : RS} {s : ByteArray} {p : Int} {w w0 : World} (h : Rd w0 mz w R bs q s p) (hs : s.size ≤ 1099511627776) (hm : 0 ≤ m ∧ m ≤ 100000) (hn : uptoR m s.data.toList p = none) : Calls Tryd.prog 45 #[.pointer (some ⟨R, 0, none⟩), .int .i64 m] w fun e w' => e = pan pf ∧ Below w0.heap.size w0 w' := by
  have c := rupto_any R bs q s p m w w0 h hs hm
  rw [hn] at c
  exact c
theorem upto_ok {mz : Nat} {m n p2 : Int} {R : Nat} {bs : List (Nat × Nat × Array Value)} {q : RS} {s : ByteArray} {p : Int} {w w0 : World} (h : Rd w0 mz w R bs q s p) (hs : s.size ≤ 1099511627776) (hm : 0 ≤ m ∧ m ≤ 100000) (hn : uptoR m s.data.toList p = some (n, p2)) : Calls Tryd.prog 45 #[.pointer (some ⟨R, 0, none⟩), .int .i64 m] w fun e w' => e = .returned (.int .i64 n) ∧ Rd w0 mz w' R bs q s p2 := by
  have c := rupto_any R bs q s p m w w0 h hs hm
  rw [hn] at c
  exact c
/-- The first box is written whole, and left. -/
theorem Rd.row {mz : Nat} {w0 V : World} {R g t : Nat} {cs : Array Value} {bs : List (Nat × Nat × Array Value)} {q : RS} {s : ByteArray} {p : Int} (h : Rd w0 mz V R ((g, t, cs) :: bs) q s p) (hg : w0.heap.size ≤ g) (cs' : Array Value) (hN : ∀ b ∈ bs, b.1 ≠ g) : Rd w0 mz (V.setRow g cs') R bs q s p := by
  have hR := (h.K _ (List.mem_cons_self ..)).2
  exact ⟨(setRow_other _ _ _ _ (Ne.symm hR)).trans h.H, below_row h.B hg _, h.G, fun b hb => ⟨(setRow_other _ _ _ _ (hN b hb)).trans (h.K b (List.mem_cons_of_mem _ hb)).1, (h.K b (List.mem_cons_of_mem _ hb)).2⟩, fun b hb => h.L b (List.mem_cons_of_mem _ hb), by have := h.M; unfold World.setRow; simpa using this⟩
theorem Rd.fresh {mz : Nat} {w0 V : World} {R : Nat} {bs : List (Nat × Nat × Array Value)} {q : RS} {s : ByteArray} {p : Int} (h : Rd w0 mz V R bs q s p) : ∀ b ∈ bs, b.1 ≠ V.heap.size := fun b hb => Nat.ne_of_lt (Array.getElem?_eq_some_iff.1 (h.K b hb).1).1
def instrR (l : List UInt8) (p : Int) : Option (InM × Int) := (uptoR 9 l p).bind fun k => (uptoR 4096 l k.2).map fun a => (⟨k.1, a.1⟩, a.2)
set_option maxRecDepth 100000 in
set_option maxHeartbeats 4000000 in
theorem rinstr_any {mz : Nat} (R : Nat) (bs : List (Nat × Nat × Array Value)) (q : RS) (s : ByteArray) (p : Int) (w : World) (w0 : World) (h : Rd w0 mz w R bs q s p) (hs : s.size ≤ 1099511627776) : Calls Tryd.prog 48 #[.pointer (some ⟨R, 0, none⟩)] w fun e w' => OutQ w0 mz R bs s ((instrR s.data.toList p).map fun d => (.agg d.1.vals, q, d.2)) e w' := by
  have HR1 : Hid (Rd w0 mz (w.alloc (.cells #[.int .u8 0, .int .i64 0] 44)) R ((w.heap.size, 44, #[.int .u8 0, .int .i64 0]) :: bs) q s p) := h.add (below_new _ _) _ _ _ (Nat.le_refl _) (heap_new _ _)
  have HG : Hid (w0.heap.size ≤ w.heap.size) := h.B.size
  have HFR : Hid (∀ b ∈ bs, b.1 ≠ w.heap.size) := h.fresh
  unfold instrR
  clear h
  cases hk : uptoR 9 s.data.toList p with
  | none =>
    have cK := upto_no HR1.out hs (by omega) hk
    show Calls Tryd.prog 48 #[.pointer (some ⟨R, 0, none⟩)] w (fun e w' => e = pan pf ∧ Below w0.heap.size w0 w')
    go_enter Tryd.func48, Tryd.ntmps48
    go_wp2_with fail
    refine cK.mono ?_
    rintro e w2 ⟨rfl, hb⟩
    exact ⟨rfl, rfl, hb⟩
  | some kp =>
    obtain ⟨k, p2⟩ := kp
    have cK := upto_ok HR1.out hs (by omega) hk
    obtain ⟨hk0, hk9⟩ := uptoR_bd hk
    have hkm : k % 256 = k := by omega
    show Calls Tryd.prog 48 #[.pointer (some ⟨R, 0, none⟩)] w (OutQ w0 mz R bs s (Option.map _ (Option.map _ (uptoR 4096 s.data.toList p2))))
    cases ha : uptoR 4096 s.data.toList p2 with
    | none =>
      show Calls Tryd.prog 48 #[.pointer (some ⟨R, 0, none⟩)] w (fun e w' => e = pan pf ∧ Below w0.heap.size w0 w')
      clear hk
      go_enter Tryd.func48, Tryd.ntmps48
      go_wp2_with fail
      refine cK.mono ?_
      rintro e w2 ⟨rfl, hr⟩
      have cA := upto_no hr hs (by omega) ha
      clear cK hr
      go_wp2_with fail
      refine cA.mono ?_
      rintro e w3 ⟨rfl, hb⟩
      exact ⟨rfl, rfl, hb⟩
    | some ap =>
      obtain ⟨a, p3⟩ := ap
      show Calls Tryd.prog 48 #[.pointer (some ⟨R, 0, none⟩)] w (fun e w' => e = .returned (.agg (InM.vals ⟨k, a⟩)) ∧ Rd w0 mz w' R bs q s p3)
      clear hk
      go_enter Tryd.func48, Tryd.ntmps48
      go_wp2_with fail
      refine cK.mono ?_
      rintro e w2 ⟨rfl, hr⟩
      have cA := upto_ok hr hs (by omega) ha
      clear cK hr
      go_wp2_with fail
      refine cA.mono ?_
      rintro e w3 ⟨rfl, hr⟩
      have HR3 : Hid (Rd w0 mz w3 R ((w.heap.size, 44, #[.int .u8 0, .int .i64 0]) :: bs) q s p3) := hr
      have HN3 : Hid (w3.heap[w.heap.size]? = some (.cells #[.int .u8 0, .int .i64 0] 44 (0, 0))) := hr.box
      have HRS : Hid (Rd w0 mz (w3.setRow w.heap.size (InM.vals ⟨k, a⟩)) R bs q s p3) := HR3.out.row HG.out _ HFR.out
      have HNS : Hid ((w3.setRow w.heap.size (InM.vals ⟨k, a⟩)).heap[w.heap.size]? = some (.cells (InM.vals ⟨k, a⟩) 44 (0, 0))) := setRow_heap _ _ _ _ _ _ HN3.out
      clear cA hr
      go_wp2_with (refine wpList_store_row rfl 44 (.tmp 2) (.tmp 10) rfl w.heap.size (InM.vals ⟨k, a⟩) rfl rfl 44 #[.int .u8 0, .int .i64 0] HN3.out size61' rfl (allIn _) ?_)
      exact bodyPost_ret (results_cell_row rfl _ _ w.heap.size 44 (InM.vals ⟨k, a⟩) (0, 0) _ rfl HNS.out Tryd.underlying44 rfl size61') rfl ⟨rfl, HRS.out⟩
def spR (q : RS) (n : Int) : RS := { q with sp := q.sp + n }
set_option maxRecDepth 100000 in
set_option maxHeartbeats 4000000 in
theorem rspan_any {mz : Nat} (R : Nat) (bs : List (Nat × Nat × Array Value)) (q : RS) (s : ByteArray) (p n : Int) (w : World) (w0 : World) (h : Rd w0 mz w R bs q s p) (hn0 : 0 ≤ n) (hn1 : n ≤ 100000) (hq0 : 0 ≤ q.sp) (hq1 : q.sp ≤ 1000000000000) : Calls Tryd.prog 89 #[.pointer (some ⟨R, 0, none⟩), .int .i64 n] w fun e w' => e = .returned (.agg (Sp.vals ⟨q.sp, q.sp + n⟩)) ∧ Rd w0 mz w' R bs (spR q n) s p := by
  have HR1 : Hid (Rd w0 mz (w.alloc (.cells #[.int .i64 0, .int .i64 0] 48)) R ((w.heap.size, 48, #[.int .i64 0, .int .i64 0]) :: bs) q s p) := h.add (below_new _ _) _ _ _ (Nat.le_refl _) (heap_new _ _)
  have HG : Hid (w0.heap.size ≤ w.heap.size) := h.B.size
  have HFR : Hid (∀ b ∈ bs, b.1 ≠ w.heap.size) := h.fresh
  have HRG : Hid (w.heap.size ≠ R) := by have := h.lt; show _ ≠ _; omega
  obtain ⟨W1, e1⟩ : ∃ W, w.alloc (.cells #[.int .i64 0, .int .i64 0] 48) = W := ⟨_, rfl⟩
  have E1 : Hid (w.alloc (.cells #[.int .i64 0, .int .i64 0] 48) = W1) := e1
  rw [e1] at HR1
  have c6 : W1.cell? ⟨R, 6, none⟩ = some (.int .i64 q.sp) := cell_of HR1.out.H 6
  have f6 : W1.frozen? ⟨R, 6, none⟩ = false := frozen_of HR1.out.H 6
  have HR2 : Hid (Rd w0 mz (W1.setCell ⟨R, 6, none⟩ (.int .i64 (q.sp + n))) R ((w.heap.size, 48, #[.int .i64 0, .int .i64 0]) :: bs) (spR q n) s p) := HR1.out.set 6 _ rfl
  clear h e1
  go_enter Tryd.func89, Tryd.ntmps89
  go_upto_region 1 with fail
  rw [E1.out]
  clear E1
  go_upto_region 3 with fail
  generalize W1.setCell ⟨R, 6, none⟩ (.int .i64 (q.sp + n)) = W2 at HR2 ⊢
  have d6 : W2.cell? ⟨R, 6, none⟩ = some (.int .i64 (q.sp + n)) := cell_of HR2.out.H 6
  have HN3 : Hid (W2.heap[w.heap.size]? = some (.cells #[.int .i64 0, .int .i64 0] 48 (0, 0))) := HR2.out.box
  have HRS : Hid (Rd w0 mz (W2.setRow w.heap.size (Sp.vals ⟨q.sp, q.sp + n⟩)) R bs (spR q n) s p) := HR2.out.row HG.out _ HFR.out
  have HNS : Hid ((W2.setRow w.heap.size (Sp.vals ⟨q.sp, q.sp + n⟩)).heap[w.heap.size]? = some (.cells (Sp.vals ⟨q.sp, q.sp + n⟩) 48 (0, 0))) := setRow_heap _ _ _ _ _ _ HN3.out
  clear c6 f6 HR1
  go_wp2_with (refine wpList_store_row rfl 48 (.tmp 4) (.tmp 23) rfl w.heap.size (Sp.vals ⟨q.sp, q.sp + n⟩) rfl rfl 48 #[.int .i64 0, .int .i64 0] HN3.out size65' rfl (allSp _) ?_)
  exact bodyPost_ret (results_cell_row rfl _ _ w.heap.size 48 (Sp.vals ⟨q.sp, q.sp + n⟩) (0, 0) _ rfl HNS.out Tryd.underlying48 rfl size65') rfl ⟨rfl, HRS.out⟩
def lenR (q : RS) (l : List UInt8) (p : Int) : Option (Sp × RS × Int) := (uptoR 4096 l p).map fun n => (⟨q.sp, q.sp + n.1⟩, spR q n.1, n.2)
set_option maxRecDepth 100000 in
set_option maxHeartbeats 4000000 in
theorem rlength_any {mz : Nat} (R : Nat) (bs : List (Nat × Nat × Array Value)) (q : RS) (s : ByteArray) (p : Int) (w : World) (w0 : World) (h : Rd w0 mz w R bs q s p) (hs : s.size ≤ 1099511627776) (hq : 0 ≤ q.sp ∧ q.sp ≤ 1000000000000) : Calls Tryd.prog 74 #[.pointer (some ⟨R, 0, none⟩)] w fun e w' => OutQ w0 mz R bs s ((lenR q s.data.toList p).map fun d => (.agg d.1.vals, d.2.1, d.2.2)) e w' := by
  have HR1 : Hid (Rd w0 mz (w.alloc (.cells #[.int .i64 0, .int .i64 0] 48)) R ((w.heap.size, 48, #[.int .i64 0, .int .i64 0]) :: bs) q s p) := h.add (below_new _ _) _ _ _ (Nat.le_refl _) (heap_new _ _)
  have HG : Hid (w0.heap.size ≤ w.heap.size) := h.B.size
  have HFR : Hid (∀ b ∈ bs, b.1 ≠ w.heap.size) := h.fresh
  obtain ⟨W1, e1⟩ : ∃ W, w.alloc (.cells #[.int .i64 0, .int .i64 0] 48) = W := ⟨_, rfl⟩
  have E1 : Hid (w.alloc (.cells #[.int .i64 0, .int .i64 0] 48) = W1) := e1
  rw [e1] at HR1
  have HR2 : Hid (Rd w0 mz W1.drew R ((w.heap.size, 48, #[.int .i64 0, .int .i64 0]) :: bs) q s p) := HR1.out.on ⟨rfl, rfl, rfl, Nat.le_refl _, fun _ _ => rfl⟩
  unfold lenR
  clear h e1 HR1
  cases hk : uptoR 4096 s.data.toList p with
  | none =>
    have cK := upto_no HR2.out hs (by omega) hk
    show Calls Tryd.prog 74 #[.pointer (some ⟨R, 0, none⟩)] w (fun e w' => e = pan pf ∧ Below w0.heap.size w0 w')
    go_enter Tryd.func74, Tryd.ntmps74
    go_upto_region 1 with fail
    rw [E1.out]
    clear E1
    refine wp_region_held_drew (S := fun _ => True) (by kernel_rfl) trivial (fun hHeld => ?_)
    refine wpAnyH_take (i := 0) (v := ?_) rfl (by kernel_rfl) (by kernel_rfl) (by kernel_rfl) (fun _ _ _ h => h) (Or.inl ⟨by rfl, ?_⟩) (by assumption) ?_
    rotate_left
    · (intro v hv; go_simp; try (with_reducible rfl))
    try simp [Act.put]
    refine wpAnyH_take (i := 1) (v := ?_) rfl (by kernel_rfl) (by kernel_rfl) (by kernel_rfl) (fun _ _ _ h => h) (Or.inl ⟨by rfl, ?_⟩) (by assumption) ?_
    rotate_left
    · (intro v hv; go_simp; try (with_reducible rfl))
    try simp [Act.put]
    refine wpAnyH_take (i := 2) (v := ?_) rfl (by kernel_rfl) (by kernel_rfl) (by kernel_rfl) (fun _ _ _ h => h) (Or.inl ⟨by rfl, ?_⟩) (by assumption) ?_
    rotate_left
    · (intro v hv; go_simp; try (with_reducible rfl))
    try simp [Act.put]
    refine wpAnyH_take (i := 3) (v := ?_) rfl (by kernel_rfl) (by kernel_rfl) (by kernel_rfl) (fun _ _ _ h => h) (Or.inl ⟨by rfl, ?_⟩) (by assumption) ?_
    rotate_left
    · (intro v hv; go_simp; try (with_reducible rfl))
    try simp [Act.put]
    refine wpAnyH_ready (rs := [4]) (by kernel_rfl) (by simp) ?_
    refine AllReadyH.cons rfl (fun K hK => ?_) AllReadyH.nil
    go_simp
    refine cK.mono ?_
    rintro e w2 ⟨rfl, hb⟩
    exact ⟨rfl, rfl, hb⟩
  | some kp =>
    obtain ⟨n, p2⟩ := kp
    have cK := upto_ok HR2.out hs (by omega) hk
    obtain ⟨hn0, hn1⟩ := uptoR_bd hk
    show Calls Tryd.prog 74 #[.pointer (some ⟨R, 0, none⟩)] w (fun e w' => e = .returned (.agg (Sp.vals ⟨q.sp, q.sp + n⟩)) ∧ Rd w0 mz w' R bs (spR q n) s p2)
    clear hk
    go_enter Tryd.func74, Tryd.ntmps74
    go_upto_region 1 with fail
    rw [E1.out]
    clear E1
    refine wp_region_held_drew (S := fun _ => True) (by kernel_rfl) trivial (fun hHeld => ?_)
    refine wpAnyH_take (i := 0) (v := ?_) rfl (by kernel_rfl) (by kernel_rfl) (by kernel_rfl) (fun _ _ _ h => h) (Or.inl ⟨by rfl, ?_⟩) (by assumption) ?_
    rotate_left
    · (intro v hv; go_simp; try (with_reducible rfl))
    try simp [Act.put]
    refine wpAnyH_take (i := 1) (v := ?_) rfl (by kernel_rfl) (by kernel_rfl) (by kernel_rfl) (fun _ _ _ h => h) (Or.inl ⟨by rfl, ?_⟩) (by assumption) ?_
    rotate_left
    · (intro v hv; go_simp; try (with_reducible rfl))
    try simp [Act.put]
    refine wpAnyH_take (i := 2) (v := ?_) rfl (by kernel_rfl) (by kernel_rfl) (by kernel_rfl) (fun _ _ _ h => h) (Or.inl ⟨by rfl, ?_⟩) (by assumption) ?_
    rotate_left
    · (intro v hv; go_simp; try (with_reducible rfl))
    try simp [Act.put]
    refine wpAnyH_take (i := 3) (v := ?_) rfl (by kernel_rfl) (by kernel_rfl) (by kernel_rfl) (fun _ _ _ h => h) (Or.inl ⟨by rfl, ?_⟩) (by assumption) ?_
    rotate_left
    · (intro v hv; go_simp; try (with_reducible rfl))
    try simp [Act.put]
    refine wpAnyH_ready (rs := [4]) (by kernel_rfl) (by simp) ?_
    refine AllReadyH.cons rfl (fun K hK => ?_) AllReadyH.nil
    go_simp
    refine cK.mono ?_
    rintro e w2 ⟨rfl, hr⟩
    have cS := rspan_any R ((w.heap.size, 48, #[.int .i64 0, .int .i64 0]) :: bs) q s p2 n w2 w0 hr hn0 (by omega) hq.1 hq.2
    refine hK.out _ _ trivial (fun hHeld => ?_)
    clear hK K cK hr
    try simp [Act.put]
    refine wpAnyH_ready (rs := [5]) (by kernel_rfl) (by simp) ?_
    refine AllReadyH.cons rfl (fun K hK => ?_) AllReadyH.nil
    go_simp
    refine cS.mono ?_
    rintro e w3 ⟨rfl, hr⟩
    have HN3 : Hid (w3.heap[w.heap.size]? = some (.cells #[.int .i64 0, .int .i64 0] 48 (0, 0))) := hr.box
    have HRS : Hid (Rd w0 mz (w3.setRow w.heap.size (Sp.vals ⟨q.sp, q.sp + n⟩)) R bs (spR q n) s p2) := hr.row HG.out _ HFR.out
    have HNS : Hid ((w3.setRow w.heap.size (Sp.vals ⟨q.sp, q.sp + n⟩)).heap[w.heap.size]? = some (.cells (Sp.vals ⟨q.sp, q.sp + n⟩) 48 (0, 0))) := setRow_heap _ _ _ _ _ _ HN3.out
    refine hK.out _ _ trivial (fun hHeld => ?_)
    clear hK K cS hr
    try simp [Act.put]
    refine wpAnyH_ready (rs := [6]) (by kernel_rfl) (by simp) ?_
    refine AllReadyH.cons rfl (fun K hK => ?_) AllReadyH.nil
    rw [if_pos (by rfl)]
    refine wp_store_row 48 (.tmp 2) (.tmp 8) rfl w.heap.size (Sp.vals ⟨q.sp, q.sp + n⟩) rfl rfl 48 #[.int .i64 0, .int .i64 0] HN3.out size65' rfl (allSp _) ?_
    refine hK.out _ _ trivial (fun hHeld => ?_)
    clear hK K
    try simp [Act.put]
    refine wpAnyH_done (by kernel_rfl) ?_ _
    go_wp2_with fail
    exact bodyPost_ret (results_cell_row rfl _ _ w.heap.size 48 (Sp.vals ⟨q.sp, q.sp + n⟩) (0, 0) _ rfl HNS.out Tryd.underlying48 rfl size65') rfl ⟨rfl, HRS.out⟩
end Go.Proofs.YteedmmljahgpjabDoor
