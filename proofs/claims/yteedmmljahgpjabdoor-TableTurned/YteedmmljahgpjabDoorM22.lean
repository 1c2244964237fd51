import Derived.Test.YteedmmljahgpjabDoorM21
import Derived.BigQuiet
/-
  Decode of any bytes.
-/
namespace Go.Proofs.YteedmmljahgpjabDoor
open Go.RowKit
set_option linter.unusedVariables false
set_option linter.unusedSimpArgs false
/-- What Decode tells. -/
def OutD (w : World) (r : Option TbP) (e : Ending) (w' : World) : Prop :=
  match r with
  | some T => ∃ t nb, Is T t ∧ (if checkE t == 0 then e = .returned (.tuple #[.agg t.vals, .int .i64 0]) ∧ Bxs w w' t nb else e = .returned (.tuple #[.agg tb0, .int .i64 194])) ∧ Below w.heap.size w w'
  | none => e = .returned (.tuple #[.agg tb0, .int .i64 194]) ∧ Below w.heap.size w w'
theorem res18 {Z : World} {g1 g2 : Nat} {v0 v1 v2 v3 v4 v5 : Value} {n : Int} {tmps : Array Value} (h1 : Z.heap[g1]? = some (.cells #[v0, v1, v2, v3, v4, v5] 26 (0, 0))) (h2 : Z.heap[g2]? = some (.cells #[.int .i64 n] 29 (0, 0))) (ht2 : tmps[2]?.getD undef = .pointer (some ⟨g1, 0, none⟩)) (ht3 : tmps[3]?.getD undef = .pointer (some ⟨g2, 0, none⟩)) :
    (results Tryd.f7 tmps).run Tryd.prog Z = .ok (.tuple #[.agg #[v0, v1, v2, v3, v4, v5], .int .i64 n]) Z := by
  have z0 : Z.cell? ⟨g2, 0, none⟩ = some (.int .i64 n) := cell_of h2 0
  have c0 : Z.cell? ⟨g1, 0, none⟩ = some v0 := cell_of h1 0
  have c1 : Z.cell? ⟨g1, 1, none⟩ = some v1 := cell_of h1 1
  have c2 : Z.cell? ⟨g1, 2, none⟩ = some v2 := cell_of h1 2
  have c3 : Z.cell? ⟨g1, 3, none⟩ = some v3 := cell_of h1 3
  have c4 : Z.cell? ⟨g1, 4, none⟩ = some v4 := cell_of h1 4
  have c5 : Z.cell? ⟨g1, 5, none⟩ = some v5 := cell_of h1 5
  clear h1 h2
  simp [results, Tryd.results7, go_sem, ht2, ht3, z0, c0, c1, c2, c3, c4, c5]
/-- Behind what was caught. -/
theorem caught18 {w V' : World} {cs : Array Value} {y : Value} (hB : Below w.heap.size w V') (g1 : V'.heap[w.heap.size]? = some (.cells cs 26 (0, 0))) (hc : cs.size = 6) (g2 : V'.heap[w.heap.size + 1]? = some (.cells #[y] 29 (0, 0))) (Y : World)
    (eY : Y = ((V'.alloc (.cells #[] 60)).setRow w.heap.size tb0).setCell ⟨w.heap.size + 1, 0, none⟩ (.int .i64 194)) :
    (∀ tmps : Array Value, tmps[2]?.getD undef = .pointer (some ⟨w.heap.size, 0, none⟩) → tmps[3]?.getD undef = .pointer (some ⟨w.heap.size + 1, 0, none⟩) → (results Tryd.f7 tmps).run Tryd.prog Y = .ok (.tuple #[.agg tb0, .int .i64 194]) Y) ∧ Below w.heap.size w Y := by
  have b1 := below_new V' (.cells #[] 60)
  have l1 := (Array.getElem?_eq_some_iff.1 g1).1
  have l2 := (Array.getElem?_eq_some_iff.1 g2).1
  have y1 : Y.heap[w.heap.size]? = some (.cells tb0 26 (0, 0)) := by
    rw [eY]
    exact (heap_setCell_other _ _ _ _ (by show w.heap.size ≠ w.heap.size + 1; omega)).trans (setRow_heap _ _ _ _ _ _ ((b1.block _ l1).trans g1))
  have y2 : Y.heap[w.heap.size + 1]? = some (.cells #[.int .i64 194] 29 (0, 0)) := by
    rw [eY]
    exact heap_set (j := 0) _ ((setRow_other _ _ _ _ (by omega)).trans ((b1.block _ l2).trans g2))
  refine ⟨fun tmps ht2 ht3 => res18 y1 y2 ht2 ht3, ?_⟩
  rw [eY]
  exact (below_row (below2 hB b1) (Nat.le_refl _) _).setCell (by show w.heap.size ≤ w.heap.size + 1; omega) _
set_option maxRecDepth 100000 in
set_option maxHeartbeats 4000000 in
theorem decode_any (b : ByteArray) (w : World) (hs : b.size ≤ 1099511627776) (htb : Tab w) : Calls Tryd.prog 7 #[.string b] w fun e w' => OutD w (unR b) e w' := by
  have hmf : ∀ (fn : Fn) (first cap : Array Value) (w : World), (Instr.makeFunc fn first cap).run Tryd.prog w = .ok (.func fn first cap) w := fun _ _ _ _ => rfl
  have cN := need_no
  have cO := need_ok
  obtain ⟨W2, eW2⟩ : ∃ W, (w.alloc (.cells #[.string ⟨#[]⟩, .slice none 0 0, .int .i64 0, .slice none 0 0, .slice none 0 0, .slice none 0 0] 26)).alloc (.cells #[.int .i64 0] 29) = W := ⟨_, rfl⟩
  have HW2 : Hid ((w.alloc (.cells #[.string ⟨#[]⟩, .slice none 0 0, .int .i64 0, .slice none 0 0, .slice none 0 0, .slice none 0 0] 26)).alloc (.cells #[.int .i64 0] 29) = W2) := eW2
  have b0 := below_new w (.cells #[.string ⟨#[]⟩, .slice none 0 0, .int .i64 0, .slice none 0 0, .slice none 0 0, .slice none 0 0] 26)
  have b1 := below_new (w.alloc (.cells #[.string ⟨#[]⟩, .slice none 0 0, .int .i64 0, .slice none 0 0, .slice none 0 0, .slice none 0 0] 26)) (.cells #[.int .i64 0] 29)
  have n0 := heap_new w (.cells #[.string ⟨#[]⟩, .slice none 0 0, .int .i64 0, .slice none 0 0, .slice none 0 0, .slice none 0 0] 26)
  have n1 := heap_new (w.alloc (.cells #[.string ⟨#[]⟩, .slice none 0 0, .int .i64 0, .slice none 0 0, .slice none 0 0, .slice none 0 0] 26)) (.cells #[.int .i64 0] 29)
  have s0 := size_alloc w (.cells #[.string ⟨#[]⟩, .slice none 0 0, .int .i64 0, .slice none 0 0, .slice none 0 0, .slice none 0 0] 26)
  rw [eW2] at b1 n1
  rw [s0] at n1
  have HB2 : Hid (Below w.heap.size w W2) := below2 b0 b1
  have H1 : Hid (W2.heap[w.heap.size]? = some (.cells tb0 26 (0, 0))) := (b1.block _ (by omega)).trans n0
  have H2 : Hid (W2.heap[w.heap.size + 1]? = some (.cells #[.int .i64 0] 29 (0, 0))) := n1
  have cU := unframed_any b W2 hs
  obtain ⟨RR, eRR⟩ : ∃ r, unR b = r := ⟨_, rfl⟩
  rw [eRR] at cU ⊢
  have HTB : Hid (Tab w) := htb
  clear eW2 b0 b1 n0 n1 s0 eRR htb
  cases RR with
  | none =>
    replace cU : Calls Tryd.prog 17 #[.string b] W2 (fun e w' => e = pan pf ∧ Below W2.heap.size W2 w') := cU
    go_enter_defers Tryd.func7, Tryd.ntmps7
    go_wp2_with fail
    try rw [HW2.out]
    refine cU.mono ?_
    rintro e w3 ⟨rfl, hb3⟩
    have g1 := (hb3.block _ (Array.getElem?_eq_some_iff.1 H1.out).1).trans H1.out
    have g2 := (hb3.block _ (Array.getElem?_eq_some_iff.1 H2.out).1).trans H2.out
    refine leaves_cons (f := 16) (args := #[.pointer (some ⟨w.heap.size, 0, none⟩), .pointer (some ⟨w.heap.size + 1, 0, none⟩)]) (by simp) (by simp [go_sem]) ?_
    refine (catch40_p _ _ tb0 _ [] w3 g1 rfl g2 (by omega)).mono ?_
    rintro e u' Z ⟨rfl, rfl, eZ⟩
    obtain ⟨q1, q2⟩ := caught18 (below2 HB2.out hb3) g1 rfl g2 Z eZ
    exact ⟨_, q1 _ rfl rfl, rfl, q2⟩
  | some T =>
    go_enter_defers Tryd.func7, Tryd.ntmps7
    go_wp2_with fail
    try rw [HW2.out]
    refine cU.mono ?_
    rintro e w3 ⟨t, nb, rfl, hIs, hTL, hb3⟩
    have g1 := (hb3.block _ (Array.getElem?_eq_some_iff.1 H1.out).1).trans H1.out
    have g2 := (hb3.block _ (Array.getElem?_eq_some_iff.1 H2.out).1).trans H2.out
    have HN3 : Hid (w3.heap[w.heap.size]? = some (.cells tb0 26 (0, 0))) := g1
    have HB3 : Hid (Below w.heap.size w w3) := below2 HB2.out hb3
    have HNS : Hid ((w3.setRow w.heap.size t.vals).heap[w.heap.size]? = some (.cells t.vals 26 (0, 0))) := setRow_heap _ _ _ _ _ _ HN3.out
    have HGS : Hid ((w3.setRow w.heap.size t.vals).heap[w.heap.size + 1]? = some (.cells #[.int .i64 0] 29 (0, 0))) := (setRow_other _ _ _ _ (by omega)).trans g2
    have HBS : Hid (Below w.heap.size w (w3.setRow w.heap.size t.vals)) := below_row HB3.out (Nat.le_refl _) _
    have hW2 : w.heap.size + 2 ≤ W2.heap.size := (Array.getElem?_eq_some_iff.1 H2.out).1
    have HBX : Hid (Keep nb (fun V => TbL V t) ∧ ∀ b ∈ nb, (w3.setRow w.heap.size t.vals).heap[b.1]? = some (.cells b.2.2 b.2.1 (0, 0)) ∧ w.heap.size + 2 ≤ b.1) := ⟨hTL.1, fun b hb => ⟨(setRow_other _ _ _ _ (by have := (hTL.2 b hb).2; omega)).trans (hTL.2 b hb).1, by have := (hTL.2 b hb).2; omega⟩⟩
    have HTS : Hid (TbL (w3.setRow w.heap.size t.vals) t) := hTL.1 _ fun b hb => (HBX.out.2 b hb).1
    have HIS : Hid (Is T t) := hIs
    clear cU hb3 g1 g2 hIs hTL hW2
    go_upto_region 3 with (refine wpList_store_row rfl 26 (.tmp 2) (.tmp 6) rfl w.heap.size t.vals rfl rfl 26 tb0 HN3.out size26' rfl (allTb _) ?_)
    generalize w3.setRow w.heap.size t.vals = W4 at HNS HGS HBS HTS HBX ⊢
    clear HN3 HB3
    have cC := check_any t W4 HTS.out (HTB.out.on HBS.out)
    go_wp2_with (refine wpList_load_row rfl 26 (.tmp 2) rfl w.heap.size rfl 26 t.vals (0, 0) _ HNS.out Tryd.underlying26 rfl size26' ?_)
    refine cC.mono ?_
    rintro e w5 ⟨rfl, hb5⟩
    have HN5 : Hid (w5.heap[w.heap.size]? = some (.cells t.vals 26 (0, 0))) := (hb5.block _ (Array.getElem?_eq_some_iff.1 HNS.out).1).trans HNS.out
    have HG5 : Hid (w5.heap[w.heap.size + 1]? = some (.cells #[.int .i64 0] 29 (0, 0))) := (hb5.block _ (Array.getElem?_eq_some_iff.1 HGS.out).1).trans HGS.out
    have HB5 : Hid (Below w.heap.size w w5) := below2 HBS.out hb5
    have HB6 : Hid (Keep nb (fun V => TbL V t) ∧ ∀ b ∈ nb, w5.heap[b.1]? = some (.cells b.2.2 b.2.1 (0, 0)) ∧ w.heap.size + 2 ≤ b.1) := ⟨HBX.out.1, fun b hb => ⟨(hb5.block _ (Array.getElem?_eq_some_iff.1 (HBX.out.2 b hb).1).1).trans (HBX.out.2 b hb).1, (HBX.out.2 b hb).2⟩⟩
    clear cC hb5 HNS HGS HBS HTS HBX
    obtain ⟨CE, eCE⟩ : ∃ q, checkE t = q := ⟨_, rfl⟩
    have HCE : Hid (checkE t = CE) := eCE
    rw [eCE]
    clear eCE
    cases hz : (CE == 0) with
    | false =>
      go_wp2_with fail
      refine (cN _).mono ?_
      rintro e w6 ⟨rfl, rfl⟩
      refine leaves_cons (f := 16) (args := #[.pointer (some ⟨w.heap.size, 0, none⟩), .pointer (some ⟨w.heap.size + 1, 0, none⟩)]) (by simp) (by simp [go_sem]) ?_
      refine (catch40_p _ _ t.vals _ [] w6 HN5.out rfl HG5.out (by omega)).mono ?_
      rintro e u' Z ⟨rfl, rfl, eZ⟩
      obtain ⟨q1, q2⟩ := caught18 HB5.out HN5.out rfl HG5.out Z eZ
      exact ⟨_, q1 _ rfl rfl, t, nb, HIS.out, by rw [HCE.out, if_neg (by simp [hz])], q2⟩
    | true =>
      go_wp2_with fail
      refine (cO _).mono ?_
      rintro e w6 ⟨rfl, rfl⟩
      have hg6 : (w6.setRow w.heap.size t.vals).heap[w.heap.size + 1]? = some (.cells #[.int .i64 0] 29 (0, 0)) := (setRow_other _ _ _ _ (by omega)).trans HG5.out
      have z0 : (w6.setRow w.heap.size t.vals).cell? ⟨w.heap.size + 1, 0, none⟩ = some (.int .i64 0) := cell_of hg6 0
      have f0 : (w6.setRow w.heap.size t.vals).frozen? ⟨w.heap.size + 1, 0, none⟩ = false := frozen_of hg6 0
      have HG6 : Hid ((w6.setRow w.heap.size t.vals).heap[w.heap.size + 1]? = some (.cells #[.int .i64 0] 29 (0, 0))) := hg6
      clear hg6
      go_wp2_with (first | (refine wpList_load_row rfl 26 (.tmp 2) rfl w.heap.size rfl 26 t.vals (0, 0) _ HN5.out Tryd.underlying26 rfl size26' ?_) | (refine wpList_store_row rfl 26 (.tmp 2) (.tmp 11) rfl w.heap.size t.vals rfl rfl 26 t.vals HN5.out size26' rfl (allTb _) ?_))
      refine leaves_cons (f := 16) (args := #[.pointer (some ⟨w.heap.size, 0, none⟩), .pointer (some ⟨w.heap.size + 1, 0, none⟩)]) (by simp) (by simp [go_sem]) ?_
      refine (catch40_i ⟨w.heap.size, 0, none⟩ ⟨w.heap.size + 1, 0, none⟩ _).mono ?_
      rintro e u' Z ⟨rfl, rfl, eZ⟩
      have hn6 : (w6.setRow w.heap.size t.vals).heap[w.heap.size]? = some (.cells t.vals 26 (0, 0)) := setRow_heap _ _ _ _ _ _ HN5.out
      have hn7 : ((w6.setRow w.heap.size t.vals).setCell ⟨w.heap.size + 1, 0, none⟩ (.int .i64 0)).heap[w.heap.size]? = some (.cells t.vals 26 (0, 0)) := (heap_setCell_other _ _ _ _ (by show w.heap.size ≠ w.heap.size + 1; omega)).trans hn6
      have hg7 : ((w6.setRow w.heap.size t.vals).setCell ⟨w.heap.size + 1, 0, none⟩ (.int .i64 0)).heap[w.heap.size + 1]? = some (.cells #[.int .i64 0] 29 (0, 0)) := heap_set (j := 0) _ HG6.out
      have hb7 : Below w.heap.size w ((w6.setRow w.heap.size t.vals).setCell ⟨w.heap.size + 1, 0, none⟩ (.int .i64 0)) := (below_row HB5.out (Nat.le_refl _) _).setCell (by show w.heap.size ≤ w.heap.size + 1; omega) _
      have b9 := below_new ((w6.setRow w.heap.size t.vals).setCell ⟨w.heap.size + 1, 0, none⟩ (.int .i64 0)) (.cells #[] 60)
      rw [← eZ] at b9
      have z1 := (b9.block _ (Array.getElem?_eq_some_iff.1 hn7).1).trans hn7
      have z2 := (b9.block _ (Array.getElem?_eq_some_iff.1 hg7).1).trans hg7
      refine ⟨_, res18 (v0 := .string t.x) z1 z2 rfl rfl, t, nb, HIS.out, ?_, below2 hb7 b9⟩
      rw [HCE.out, if_pos hz]
      refine ⟨rfl, HB6.out.1, fun bx hbx => ?_⟩
      obtain ⟨h1, h2⟩ := HB6.out.2 bx hbx
      have h3 : ((w6.setRow w.heap.size t.vals).setCell ⟨w.heap.size + 1, 0, none⟩ (.int .i64 0)).heap[bx.1]? = some (.cells bx.2.2 bx.2.1 (0, 0)) := (heap_setCell_other _ _ _ _ (by show bx.1 ≠ w.heap.size + 1; omega)).trans ((setRow_other _ _ _ _ (by omega)).trans h1)
      exact ⟨(b9.block _ (Array.getElem?_eq_some_iff.1 h3).1).trans h3, by omega⟩
end Go.Proofs.YteedmmljahgpjabDoor

/-
  The least table: law.go's least, walked.
-/
namespace Go.Proofs.YteedmmljahgpjabDoor
open Go.RowKit
set_option linter.unusedVariables false
set_option linter.unusedSimpArgs false
def lsR : RowM := ⟨6, 0, 0, ⟨0, 0⟩, ⟨0, 0⟩, ⟨0, 0⟩, ⟨0, 0⟩⟩
def lsG (B : Nat) : GdM := ⟨⟨0, 4⟩, 2, 0, some ⟨B + 2, 0, none⟩, 1, [lsR]⟩
/-- The least table, its blocks laid from B on. -/
def lsT (B : Nat) : TbM := ⟨⟨#[115]⟩, none, 0, [], 0, some ⟨B + 4, 0, none⟩, 1, [1], some ⟨B + 1, 0, none⟩, 4, [⟨3, 1⟩, ⟨6, 4⟩, ⟨1, 0⟩, ⟨5, 2⟩], some ⟨B + 6, 0, none⟩, 1, [⟨some ⟨B + 5, 0, none⟩, 1, [lsG B]⟩]⟩
def lsD : Array Value := #[.int .u8 3, .int .i64 1, .int .u8 6, .int .i64 4, .int .u8 1, .int .i64 0, .int .u8 5, .int .i64 2]
structure LsB (w : World) (B : Nat) : Prop where
  D : w.heap[B + 1]? = some (.cells lsD 44 (0, 0))
  R : w.heap[B + 2]? = some (.cells lsR.vals 72 (0, 0))
  C : w.heap[B + 4]? = some (.cells #[.int .i64 1] 2 (0, 0))
  G : w.heap[B + 5]? = some (.cells (lsG B).vals 51 (0, 0))
  S : w.heap[B + 6]? = some (.cells #[.slice (some ⟨B + 5, 0, none⟩) 1 1] 52 (0, 0))
theorem LsB.on {w w' : World} {B : Nat} (h : LsB w B) (k : Below w.heap.size w w') : LsB w' B := by
  have lt : ∀ {i : Nat} {o : Obj}, w.heap[i]? = some o → i < w.heap.size := fun h => by
    rcases Nat.lt_or_ge _ w.heap.size with h' | h'
    · exact h'
    · rw [Array.getElem?_eq_none h'] at h; cases h
  exact ⟨(k.block _ (lt h.D)).trans h.D, (k.block _ (lt h.R)).trans h.R, (k.block _ (lt h.C)).trans h.C, (k.block _ (lt h.G)).trans h.G, (k.block _ (lt h.S)).trans h.S⟩
theorem sl1 {w : World} {n b t : Nat} {cs : Array Value} (h : w.heap[b]? = some (.cells cs t (0, 0))) : SlAt w n (some ⟨b, 0, none⟩) 1 [cs] := by
  refine ⟨Nat.le_refl _, by decide, fun i hi => ⟨b, 0, rfl, fun j hj => ?_⟩⟩
  obtain rfl : i = 0 := by simp at hi; omega
  rw [cell_of h]; simp
theorem i0 : I64 0 := ⟨by decide, by decide⟩
theorem i4 : I64 4 := ⟨by decide, by decide⟩
theorem s00 : SpI ⟨0, 0⟩ := ⟨i0, i0⟩
theorem s04 : SpI ⟨0, 4⟩ := ⟨i0, i4⟩
theorem u0 : U16 0 := ⟨by decide, by decide⟩
theorem u2 : U16 2 := ⟨by decide, by decide⟩
theorem k0 : (0 : Nat) ≤ 9223372036854775807 := by decide
theorem k4 : (4 : Nat) ≤ 9223372036854775807 := by decide
theorem lsR_i : RowI lsR := ⟨⟨by decide, by decide⟩, ⟨by decide, by decide⟩, i0, s00, s00, s00, s00⟩
theorem LsB.tb {w : World} {B : Nat} (h : LsB w B) : TbL w (lsT B) where
  R := ⟨Nat.le_refl _, k0, fun i hi => absurd hi (Nat.not_lt_zero _)⟩
  Ri := fun n hn => by cases hn
  S := i0
  C := sl1 h.C
  Ci := fun n hn => by
    obtain rfl : n = 1 := by simpa [lsT] using hn
    exact ⟨by decide, by decide⟩
  D := by
    refine ⟨Nat.le_refl _, k4, fun i hi => ⟨B + 1, 0, rfl, fun j hj => ?_⟩⟩
    rw [cell_of h.D]
    have hi' : i < 4 := hi
    obtain rfl | rfl | rfl | rfl : i = 0 ∨ i = 1 ∨ i = 2 ∨ i = 3 := by omega
    all_goals (obtain rfl | rfl : j = 0 ∨ j = 1 := by omega) <;> rfl
  Di := fun d hd => by
    simp [lsT] at hd
    rcases hd with rfl | rfl | rfl | rfl <;> exact ⟨⟨by decide, by decide⟩, by decide, by decide⟩
  T := sl1 h.S
  Ti := fun s hs => by
    obtain rfl : s = ⟨some ⟨B + 5, 0, none⟩, 1, [lsG B]⟩ := by simpa [lsT] using hs
    refine ⟨sl1 h.G, fun g hg => ?_⟩
    obtain rfl : g = lsG B := by simpa using hg
    refine ⟨s04, u2, u0, sl1 h.R, fun r hr => ?_⟩
    obtain rfl : r = lsR := by simpa [lsG] using hr
    exact lsR_i
  X := by show (1 : Nat) ≤ _; decide
theorem al_get (w : World) (o : Obj) (k : Nat) : (w.alloc o).heap[k]? = if k = w.heap.size then some o else w.heap[k]? := by
  show (w.heap.push o)[k]? = _
  rw [Array.getElem?_push]
theorem seven (w : World) (o0 o1 o2 o3 o4 o5 o6 : Obj) {V : World} (e : (((((((w.alloc o0).alloc o1).alloc o2).alloc o3).alloc o4).alloc o5).alloc o6) = V) :
    V.heap[w.heap.size]? = some o0 ∧ V.heap[w.heap.size + 1]? = some o1 ∧ V.heap[w.heap.size + 2]? = some o2 ∧ V.heap[w.heap.size + 4]? = some o4 ∧ V.heap[w.heap.size + 5]? = some o5 ∧ V.heap[w.heap.size + 6]? = some o6 ∧ Below w.heap.size w V := by
  subst e
  refine ⟨by simp only [al_get, size_alloc]; repeat (first | rw [if_pos trivial] | rw [if_pos (by omega)] | rw [if_neg (by omega)]), by simp only [al_get, size_alloc]; repeat (first | rw [if_pos trivial] | rw [if_pos (by omega)] | rw [if_neg (by omega)]), by simp only [al_get, size_alloc]; repeat (first | rw [if_pos trivial] | rw [if_pos (by omega)] | rw [if_neg (by omega)]), by simp only [al_get, size_alloc]; repeat (first | rw [if_pos trivial] | rw [if_pos (by omega)] | rw [if_neg (by omega)]), by simp only [al_get, size_alloc]; repeat (first | rw [if_pos trivial] | rw [if_pos (by omega)] | rw [if_neg (by omega)]), by simp only [al_get, size_alloc]; repeat (first | rw [if_pos trivial] | rw [if_pos (by omega)] | rw [if_neg (by omega)]), ?_⟩
  exact below2 (below_new _ _) (below2 (below_new _ _) (below2 (below_new _ _) (below2 (below_new _ _) (below2 (below_new _ _) (below2 (below_new _ _) (below_new _ _))))))
set_option maxRecDepth 100000 in
set_option maxHeartbeats 4000000 in
theorem least_any (w : World) : Calls Tryd.prog 9 #[] w fun e w' => e = .returned (.agg (lsT w.heap.size).vals) ∧ LsB w' w.heap.size ∧ Below w.heap.size w w' := by
  go_enter Tryd.func9, Tryd.ntmps9
  go_upto_region 1 with fail
  go_wp2_with fail
  generalize hV : World.alloc _ _ = V
  obtain ⟨h0, h1, h2, h4, h5, h6, hb⟩ := seven w _ _ _ _ _ _ _ hV
  exact bodyPost_ret (results_cell_row rfl _ _ w.heap.size 26 (lsT w.heap.size).vals (0, 0) _ rfl h0 Tryd.underlying26 rfl size26') rfl ⟨rfl, ⟨h1, h2, h4, h5, h6⟩, hb⟩
end Go.Proofs.YteedmmljahgpjabDoor

/-
  The document's SameGuard, walked.
-/
namespace Go.Proofs.YteedmmljahgpjabDoor
open Go.RowKit
set_option linter.unusedVariables false
set_option linter.unusedSimpArgs false
theorem eqF_cons {w : World} {d : Nat} {xs ys : Array Value} {f : Field} {fs : List Field} {a b : Value} {r : Bool} (hn : f.name ≠ "_") (ha : (part f.type xs f.offset).run Tryd.prog w = .ok a w) (hb : (part f.type ys f.offset).run Tryd.prog w = .ok b w) (hr : (Op.equalIn d f.type a b).run Tryd.prog w = .ok r w) : (Op.eqFields d xs ys (f :: fs)).run Tryd.prog w = if r then (Op.eqFields d xs ys fs).run Tryd.prog w else .ok false w := by
  have e : Op.eqFields d xs ys (f :: fs) = (if f.name ≠ "_" then do
      let a ← part f.type xs f.offset
      let b ← part f.type ys f.offset
      let r ← Op.equalIn d f.type a b
      if (!r) = true then pure false else Op.eqFields d xs ys fs
    else Op.eqFields d xs ys fs) := rfl
  rw [e, if_pos hn]
  clear e
  simp only [Sem.run_bind, ha, hb, hr, Result.andThen_ok, Sem.run_ite, Sem.run_pure]
  cases r <;> simp
theorem eqF_nil {w : World} {d : Nat} {xs ys : Array Value} : (Op.eqFields d xs ys []).run Tryd.prog w = .ok true w := rfl
theorem eq65 (x y : Sp) (w : World) : (Op.equalIn 9999 48 (.agg x.vals) (.agg y.vals)).run Tryd.prog w = .ok (x.f == y.f && x.t == y.t) w := by
  rw [run_equalIn_struct _ 9998 48 _ _ (by kernel_rfl) (by kernel_rfl)]
  simp only [Program.fieldsOf, Tryd.underlying48]
  rw [eqF_cons (a := .int .i64 x.f) (b := .int .i64 y.f) (r := x.f == y.f) (by decide) (by kernel_rfl) (by kernel_rfl) (by kernel_rfl)]
  rw [eqF_cons (a := .int .i64 x.t) (b := .int .i64 y.t) (r := x.t == y.t) (by decide) (by kernel_rfl) (by kernel_rfl) (by kernel_rfl), eqF_nil]
  cases x.f == y.f <;> cases x.t == y.t <;> rfl
set_option maxRecDepth 100000 in
theorem eq85 (x y : RowM) (w : World) : (Op.equalIn 10000 72 (.agg x.vals) (.agg y.vals)).run Tryd.prog w = .ok (x.k == y.k && (x.o == y.o && (x.i == y.i && ((x.sd.f == y.sd.f && x.sd.t == y.sd.t) && ((x.qt.f == y.qt.f && x.qt.t == y.qt.t) && ((x.pr.f == y.pr.f && x.pr.t == y.pr.t) && (x.vl.f == y.vl.f && x.vl.t == y.vl.t))))))) w := by
  rw [run_equalIn_struct _ 9999 72 _ _ (by kernel_rfl) (by kernel_rfl)]
  simp only [Program.fieldsOf, Tryd.underlying72]
  rw [eqF_cons (a := .int .u8 x.k) (b := .int .u8 y.k) (r := x.k == y.k) (by decide) (by kernel_rfl) (by kernel_rfl) (by kernel_rfl)]
  rw [eqF_cons (a := .int .u8 x.o) (b := .int .u8 y.o) (r := x.o == y.o) (by decide) (by kernel_rfl) (by kernel_rfl) (by kernel_rfl)]
  rw [eqF_cons (a := .int .i64 x.i) (b := .int .i64 y.i) (r := x.i == y.i) (by decide) (by kernel_rfl) (by kernel_rfl) (by kernel_rfl)]
  rw [eqF_cons (a := .agg x.sd.vals) (b := .agg y.sd.vals) (r := x.sd.f == y.sd.f && x.sd.t == y.sd.t) (by decide) (by kernel_rfl) (by kernel_rfl) (by exact eq65 _ _ _)]
  rw [eqF_cons (a := .agg x.qt.vals) (b := .agg y.qt.vals) (r := x.qt.f == y.qt.f && x.qt.t == y.qt.t) (by decide) (by kernel_rfl) (by kernel_rfl) (by exact eq65 _ _ _)]
  rw [eqF_cons (a := .agg x.pr.vals) (b := .agg y.pr.vals) (r := x.pr.f == y.pr.f && x.pr.t == y.pr.t) (by decide) (by kernel_rfl) (by kernel_rfl) (by exact eq65 _ _ _)]
  rw [eqF_cons (a := .agg x.vl.vals) (b := .agg y.vl.vals) (r := x.vl.f == y.vl.f && x.vl.t == y.vl.t) (by decide) (by kernel_rfl) (by kernel_rfl) (by exact eq65 _ _ _), eqF_nil]
  cases x.k == y.k
  · rfl
  cases x.o == y.o
  · rfl
  cases x.i == y.i
  · rfl
  cases x.sd.f == y.sd.f && x.sd.t == y.sd.t
  · rfl
  cases x.qt.f == y.qt.f && x.qt.t == y.qt.t
  · rfl
  cases x.pr.f == y.pr.f && x.pr.t == y.pr.t
  · rfl
  cases x.vl.f == y.vl.f && x.vl.t == y.vl.t <;> rfl
theorem row_eq (x y : RowM) : ∃ b, (b = true ↔ x = y) ∧ ∀ w, (Op.equalIn 10000 72 (.agg x.vals) (.agg y.vals)).run Tryd.prog w = .ok b w := by
  refine ⟨(x.k == y.k && (x.o == y.o && (x.i == y.i && ((x.sd.f == y.sd.f && x.sd.t == y.sd.t) && ((x.qt.f == y.qt.f && x.qt.t == y.qt.t) && ((x.pr.f == y.pr.f && x.pr.t == y.pr.t) && (x.vl.f == y.vl.f && x.vl.t == y.vl.t))))))), ?_, fun w => eq85 _ _ _⟩
  obtain ⟨a1, a2, a3, ⟨a4, a5⟩, ⟨a6, a7⟩, ⟨a8, a9⟩, ⟨a10, a11⟩⟩ := x
  obtain ⟨b1, b2, b3, ⟨b4, b5⟩, ⟨b6, b7⟩, ⟨b8, b9⟩, ⟨b10, b11⟩⟩ := y
  simp only [RowM.mk.injEq, Sp.mk.injEq, Bool.and_eq_true, beq_iff_eq]
def SameG (g h : GdM) : Prop := g.wh.f = h.wh.f ∧ g.wh.t = h.wh.t ∧ g.fd = h.fd ∧ g.rg = h.rg ∧ g.rs = h.rs
/-- What a comparison hands back. -/
def OutE (S : Prop) (w : World) (e : Ending) (w' : World) : Prop := ∃ b, e = .returned (.bool b) ∧ (b = true ↔ S) ∧ Below w.heap.size w w'
theorem row_at {w : World} {a : Option Addr} {c : Nat} {rs : List RowM} (h : SlAt w 11 a c (rs.map RowM.vals)) (i : Nat) (hi : i < rs.length) : ∃ b o, a = some ⟨b, o, none⟩ ∧ w.rangeAt b (o + i * 11) rs[i].vals.toList := by
  obtain ⟨bb, o, ea, hat⟩ := h.2.2 i (by rw [List.length_map]; exact hi)
  simp only [List.getElem_map] at hat
  refine ⟨bb, o, ea, fun j v hv => ?_⟩
  have hj : j < 11 := (List.getElem?_eq_some_iff.1 hv).1
  rw [hat j hj, ← hv]; simp
set_option maxRecDepth 100000 in
set_option maxHeartbeats 4000000 in
theorem sameGuard_any (g h : GdM) (w : World) (hg : GdL w g) (hh : GdL w h) : Calls Tryd.prog 22 #[.agg g.vals, .agg h.vals] w (OutE (SameG g h) w) := by
  have hn1 : ((w.alloc (.cells g.vals 51)).alloc (.cells h.vals 51)).heap[w.heap.size]? = some (.cells g.vals 51 (0, 0)) := by rw [al_get, if_neg (by simp)]; exact heap_new _ _
  have hn2 : ((w.alloc (.cells g.vals 51)).alloc (.cells h.vals 51)).heap[w.heap.size + 1]? = some (.cells h.vals 51 (0, 0)) := by rw [← size_alloc w (.cells g.vals 51)]; exact heap_new _ _
  have hb1 : Below w.heap.size w ((w.alloc (.cells g.vals 51)).alloc (.cells h.vals 51)) := below2 (below_new _ _) (below_new _ _)
  obtain ⟨W1, e1⟩ : ∃ W, (w.alloc (.cells g.vals 51)).alloc (.cells h.vals 51) = W := ⟨_, rfl⟩
  have E1 : Hid ((w.alloc (.cells g.vals 51)).alloc (.cells h.vals 51) = W1) := e1
  rw [e1] at hn1 hn2 hb1
  have HB : Hid (Below w.heap.size w W1) := hb1
  have HG : Hid (SlAt W1 11 g.a g.c (g.rs.map RowM.vals)) := (hg.on hb1).2.2.2.1
  have HH : Hid (SlAt W1 11 h.a h.c (h.rs.map RowM.vals)) := (hh.on hb1).2.2.2.1
  have HN1 : Hid (W1.heap[w.heap.size]? = some (.cells g.vals 51 (0, 0))) := hn1
  have HN2 : Hid (W1.heap[w.heap.size + 1]? = some (.cells h.vals 51 (0, 0))) := hn2
  have c0 : W1.cell? ⟨w.heap.size, 0, none⟩ = some (.int .i64 g.wh.f) := cell_of hn1 0
  have c1 : W1.cell? ⟨w.heap.size, 1, none⟩ = some (.int .i64 g.wh.t) := cell_of hn1 1
  have c2 : W1.cell? ⟨w.heap.size, 2, none⟩ = some (.int .u16 g.fd) := cell_of hn1 2
  have c3 : W1.cell? ⟨w.heap.size, 3, none⟩ = some (.int .u16 g.rg) := cell_of hn1 3
  have c4 : W1.cell? ⟨w.heap.size, 4, none⟩ = some (.slice g.a g.rs.length g.c) := cell_of hn1 4
  have d0 : W1.cell? ⟨w.heap.size + 1, 0, none⟩ = some (.int .i64 h.wh.f) := cell_of hn2 0
  have d1 : W1.cell? ⟨w.heap.size + 1, 1, none⟩ = some (.int .i64 h.wh.t) := cell_of hn2 1
  have d2 : W1.cell? ⟨w.heap.size + 1, 2, none⟩ = some (.int .u16 h.fd) := cell_of hn2 2
  have d3 : W1.cell? ⟨w.heap.size + 1, 3, none⟩ = some (.int .u16 h.rg) := cell_of hn2 3
  have d4 : W1.cell? ⟨w.heap.size + 1, 4, none⟩ = some (.slice h.a h.rs.length h.c) := cell_of hn2 4
  clear hn1 hn2 e1 hb1 hg hh
  go_enter Tryd.func22, Tryd.ntmps22
  go_upto_region 1 with fail
  rw [E1.out]
  clear E1
  go_wp2_with fail
  · rename_i hx
    go_ret
    exact ⟨false, rfl, ⟨fun e => (by cases e), fun ⟨_, _, _, _, h5⟩ => by rw [h5] at hx; simp at hx⟩, HB.out⟩
  · clear c0 c1 c2 c3 c4 d0 d1 d2 d3 d4
    rename_i q1 q2 q3 q4 hx _ _
    have HQ : Hid (g.wh.f = h.wh.f ∧ g.wh.t = h.wh.t ∧ g.fd = h.fd ∧ g.rg = h.rg) := ⟨q1, q2, q3, q4⟩
    have hlen : g.rs.length = h.rs.length := by have h9 := hx; simp at h9; omega
    have HLEN : Hid (g.rs.length = h.rs.length) := hlen
    clear q1 q2 q3 q4 hx hlen
    go_loopw [5] (fun q wr => ∃ (i : Nat), i ≤ g.rs.length ∧ q = .int .i64 i ∧ Hid (Below W1.heap.size W1 wr) ∧ Hid (g.rs.take i = h.rs.take i)) (fun q _ => g.rs.length - (intOf q).toNat)
    case atStart => exact ⟨0, by omega, rfl, Below.refl _ _, rfl⟩
    case round =>
      obtain ⟨i, hi, rfl, HBR, HTR⟩ := hrel
      have c4 : wr.cell? ⟨w.heap.size, 4, none⟩ = some (.slice g.a g.rs.length g.c) := cell_of ((HBR.out.block _ (Array.getElem?_eq_some_iff.1 HN1.out).1).trans HN1.out) 4
      have d4 : wr.cell? ⟨w.heap.size + 1, 4, none⟩ = some (.slice h.a h.rs.length h.c) := cell_of ((HBR.out.block _ (Array.getElem?_eq_some_iff.1 HN2.out).1).trans HN2.out) 4
      by_cases hlt : i < g.rs.length
      · have hlt' : (i : Int) < (g.rs.length : Int) := by omega
        have hlh : i < h.rs.length := by have := HLEN.out; omega
        have hlh' : (i : Int) < (h.rs.length : Int) := by omega
        have hmx : (i : Int) + 1 ≤ 9223372036854775807 := by have h1 := HG.out.1; have h2 := HG.out.2.1; rw [List.length_map] at h1; omega
        obtain ⟨b1, o1, ea, r1⟩ := row_at (HG.out.on (mapz RowM.sz _) HBR.out) i hlt
        obtain ⟨b2, o2, eb, r2⟩ := row_at (HH.out.on (mapz RowM.sz _) HBR.out) i hlh
        have HS : Hid (g.rs[i] = h.rs[i] → g.rs.take (i + 1) = h.rs.take (i + 1)) := fun e => by
          rw [List.take_succ_eq_append_getElem hlt, List.take_succ_eq_append_getElem hlh, HTR.out, e]
        have HF : Hid (¬ g.rs[i] = h.rs[i] → ¬ SameG g h) := fun e k => e (by have := k.2.2.2.2; simp only [this])
        obtain ⟨x, ex⟩ : ∃ x, g.rs[i] = x := ⟨_, rfl⟩
        obtain ⟨y, ey⟩ : ∃ y, h.rs[i] = y := ⟨_, rfl⟩
        rw [ex] at r1 HS HF
        rw [ey] at r2 HS HF
        clear ex ey HTR
        rw [ea] at c4
        rw [eb] at d4
        clear ea eb
        have HD : Hid (∀ n, Below W1.heap.size W1 (wr.drewN n)) := fun n => below_d HBR.out n
        clear HBR
        have x0 : wr.cell? ⟨b1, o1 + i * 11, none⟩ = some (.int .u8 x.k) := r1 0 _ rfl
        have x1 : wr.cell? ⟨b1, o1 + i * 11 + 1, none⟩ = some (.int .u8 x.o) := r1 1 _ rfl
        have x2 : wr.cell? ⟨b1, o1 + i * 11 + 2, none⟩ = some (.int .i64 x.i) := r1 2 _ rfl
        have x3 : wr.cell? ⟨b1, o1 + i * 11 + 3, none⟩ = some (.int .i64 x.sd.f) := r1 3 _ rfl
        have x4 : wr.cell? ⟨b1, o1 + i * 11 + 4, none⟩ = some (.int .i64 x.sd.t) := r1 4 _ rfl
        have x5 : wr.cell? ⟨b1, o1 + i * 11 + 5, none⟩ = some (.int .i64 x.qt.f) := r1 5 _ rfl
        have x6 : wr.cell? ⟨b1, o1 + i * 11 + 6, none⟩ = some (.int .i64 x.qt.t) := r1 6 _ rfl
        have x7 : wr.cell? ⟨b1, o1 + i * 11 + 7, none⟩ = some (.int .i64 x.pr.f) := r1 7 _ rfl
        have x8 : wr.cell? ⟨b1, o1 + i * 11 + 8, none⟩ = some (.int .i64 x.pr.t) := r1 8 _ rfl
        have x9 : wr.cell? ⟨b1, o1 + i * 11 + 9, none⟩ = some (.int .i64 x.vl.f) := r1 9 _ rfl
        have x10 : wr.cell? ⟨b1, o1 + i * 11 + 10, none⟩ = some (.int .i64 x.vl.t) := r1 10 _ rfl
        have y0 : wr.cell? ⟨b2, o2 + i * 11, none⟩ = some (.int .u8 y.k) := r2 0 _ rfl
        have y1 : wr.cell? ⟨b2, o2 + i * 11 + 1, none⟩ = some (.int .u8 y.o) := r2 1 _ rfl
        have y2 : wr.cell? ⟨b2, o2 + i * 11 + 2, none⟩ = some (.int .i64 y.i) := r2 2 _ rfl
        have y3 : wr.cell? ⟨b2, o2 + i * 11 + 3, none⟩ = some (.int .i64 y.sd.f) := r2 3 _ rfl
        have y4 : wr.cell? ⟨b2, o2 + i * 11 + 4, none⟩ = some (.int .i64 y.sd.t) := r2 4 _ rfl
        have y5 : wr.cell? ⟨b2, o2 + i * 11 + 5, none⟩ = some (.int .i64 y.qt.f) := r2 5 _ rfl
        have y6 : wr.cell? ⟨b2, o2 + i * 11 + 6, none⟩ = some (.int .i64 y.qt.t) := r2 6 _ rfl
        have y7 : wr.cell? ⟨b2, o2 + i * 11 + 7, none⟩ = some (.int .i64 y.pr.f) := r2 7 _ rfl
        have y8 : wr.cell? ⟨b2, o2 + i * 11 + 8, none⟩ = some (.int .i64 y.pr.t) := r2 8 _ rfl
        have y9 : wr.cell? ⟨b2, o2 + i * 11 + 9, none⟩ = some (.int .i64 y.vl.f) := r2 9 _ rfl
        have y10 : wr.cell? ⟨b2, o2 + i * 11 + 10, none⟩ = some (.int .i64 y.vl.t) := r2 10 _ rfl
        clear r1 r2
        obtain ⟨b, hb1, hb2⟩ := row_eq x y
        have HB1 : Hid (b = true ↔ x = y) := hb1
        have hne : ∀ w, (Op.equalIn 10000 72 (.agg #[.int .u8 x.k, .int .u8 x.o, .int .i64 x.i, .int .i64 x.sd.f, .int .i64 x.sd.t, .int .i64 x.qt.f, .int .i64 x.qt.t, .int .i64 x.pr.f, .int .i64 x.pr.t, .int .i64 x.vl.f, .int .i64 x.vl.t]) (.agg #[.int .u8 y.k, .int .u8 y.o, .int .i64 y.i, .int .i64 y.sd.f, .int .i64 y.sd.t, .int .i64 y.qt.f, .int .i64 y.qt.t, .int .i64 y.pr.f, .int .i64 y.pr.t, .int .i64 y.vl.f, .int .i64 y.vl.t])).run Tryd.prog w = .ok b w := hb2
        clear hb1 hb2
        cases b with
        | false =>
          go_wp2_with fail
          go_quiet (fail)
          go_wp2_with fail
          go_ret
          exact ⟨false, rfl, ⟨fun e => (by cases e), fun k => absurd k (HF.out (fun k => by have := HB1.out.2 k; cases this))⟩, below2 HB.out (HD.out _)⟩
        | true =>
          have hxy : x = y := HB1.out.1 rfl
          have HXY : Hid (x = y) := hxy
          clear hxy
          go_wp2_with fail
          go_quiet (fail)
          go_wp2_with fail
          exact ⟨⟨i + 1, hlt, rfl, HD.out _, HS.out HXY.out⟩, by simp only [intOf]; omega⟩
      · obtain rfl : i = g.rs.length := by omega
        have hnot : ¬ (g.rs.length : Int) < (g.rs.length : Int) := by omega
        go_wp2_with fail
        go_ret
        refine ⟨true, rfl, ⟨fun _ => ⟨HQ.out.1, HQ.out.2.1, HQ.out.2.2.1, HQ.out.2.2.2, ?_⟩, fun _ => rfl⟩, below2 HB.out HBR.out⟩
        have := HTR.out
        rw [List.take_length, HLEN.out, List.take_length] at this
        exact this
  all_goals
    rename_i hx
    go_ret
    exact ⟨false, rfl, ⟨fun e => (by cases e), fun ⟨h1, h2, h3, h4, _⟩ => by first | exact absurd h1 hx | exact absurd h2 hx | exact absurd h3 hx | exact absurd h4 hx⟩, HB.out⟩
end Go.Proofs.YteedmmljahgpjabDoor
