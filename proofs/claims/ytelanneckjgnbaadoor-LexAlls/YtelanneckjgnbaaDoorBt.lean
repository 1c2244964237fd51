/-
  The book of lists of tokens: one more is put in; its owner looks at all.
-/
import Derived.Test.YtelanneckjgnbaaDoorOu
import Derived.Test.YtelanneckjgnbaaDoorOn
namespace Go.Proofs.YtelanneckjgnbaaDoor
open Go.RowKit

def trA (lv : Value) : Array Value := #[lv, .slice none 0 0, .slice none 0 0, .slice none 0 0, .slice none 0 0, .slice none 0 0, .slice none 0 0, .slice none 0 0, .slice none 0 0, .slice none 0 0, .slice none 0 0, .slice none 0 0]
def TrH (w : World) (bk : Nat) (lv : Value) : Prop := w.heap[bk]? = some (.cells (trA lv) 37 (0, 0))
theorem Row.hid {w : World} {e : TypeId} {s n : Nat} {v : Value} {f : Nat → Value} (h : Row w e s v n f) : Hid (Row w e s v n f) := h
theorem one_at (x : Value) : ∀ j, j < 1 → [x][j]? = some ((fun _ => x) j) := by
  intro j hj
  obtain rfl : j = 0 := by omega
  rfl
theorem TrH.hid {w : World} {bk : Nat} {lv : Value} (h : TrH w bk lv) : Hid (TrH w bk lv) := h
theorem TrH.set {w : World} {bk : Nat} {lv : Value} (h : TrH w bk lv) (x : Value) : TrH (w.setCell ⟨bk, 0, none⟩ x) bk x := heap_set x h
theorem TrH.lt {w : World} {bk : Nat} {lv : Value} (h : TrH w bk lv) : bk < w.heap.size := (Array.getElem?_eq_some_iff.1 h).1
theorem TrH.ne {w : World} {bk : Nat} {lv : Value} (h : TrH w bk lv) {x : Value} {n : Nat} {f : Nat → Value} {e : TypeId} {s : Nat} (hr : Row w e s x n f) (he : e ≠ 37) : x.ownBlock ≠ some bk := by
  intro e1
  obtain ⟨c, fz, h1⟩ := hr.kind bk e1
  rw [h] at h1
  simp at h1
  exact he h1.2.1.symm
set_option maxRecDepth 100000 in
set_option maxHeartbeats 2000000 in
theorem treesAdd_any (w : World) (bk i : Nat) (lv : Value) (U : Nat → Value) (ao : Option Addr) (m c : Nat) (hb : TrH w bk lv) (hr : Row w 39 1 lv i U) (hi : i ≤ 1000) :
    Calls Tryd.prog 13 #[.pointer (some ⟨bk, 0, none⟩), .slice ao m c] w fun e w' => (∃ r, e = .returned r) ∧ ∃ lv', TrH w' bk lv' ∧ Row w' 39 1 lv' (i + 1) (fun j => if j = i then .slice ao m c else U j) ∧ (lv'.ownBlock = lv.ownBlock ∨ ∃ q, lv'.ownBlock = some q ∧ w.heap.size ≤ q) ∧ Mv w w' (fun b => b = bk ∨ lv.ownBlock = some b) := by
  obtain ⟨i0, h0, hz0, hz1, hz2⟩ := info_parts Tryd.info39
  have q7 : w.cell? ⟨bk, 0, none⟩ = some lv := cell_of hb 0
  have HB := hb.hid
  have HR : Hid (Row w 39 1 lv i U) := hr
  have hne := hb.ne hr (by decide)
  have HNE : Hid (lv.ownBlock ≠ some bk) := hne
  clear hb hr hne
  go_enter Tryd.func13, Tryd.ntmps13
  go_wp2_with (at_builtin; refine wpList_append_own_at _ rfl (.tmp 8) (.tmp 10) 24 rfl 0 39 i0 _ 1 24 Tryd.underlying24 h0 hz0 hz1 hz2 rfl (by decide) lv i _ rfl (HR.out.alloc _) ⟨w.heap.size, 0, none⟩ 1 1 [.slice ao m c] rfl rfl (World.news_of_block (heap_new w _)) (by intro u hu; simp at hu; rw [hu]; rfl) (by unfold maxLen; omega) (by omega) (Nat.zero_le _) ?_; intro lv' w1 r1 r2 _ r4; have hb1 : w1.heap[bk]? = w.heap[bk]? := (r2.block bk (by rw [size_alloc]; have := HB.out.lt; omega) (fun e => HNE.out e.symm)).trans (Below.heap_alloc _ _ _ HB.out.lt); have H1 : Hid (TrH w1 bk lv) := hb1.trans HB.out; have p7 : w1.cell? ⟨bk, 0, none⟩ = some lv := cell_of H1.out 0; have f7 := frozen_of H1.out 0; have hrow := Row.snoc (x := fun _ => .slice ao m c) r1 rfl (one_at _); obtain ⟨al, cl, el, _, _⟩ := hrow.form; subst el; have HROW := Row.hid hrow; have HG : Hid (_) := r2; have H4 : Hid (_) := r4; clear hb1 r1 r2 r4 hrow q7)
  go_end0
  refine ⟨⟨_, rfl⟩, _, H1.out.set _, ?_, ?_, ?_⟩
  · refine (HROW.out.congr (fun j hj => ?_)).of_block (fun b hb => ?_)
    · by_cases e : j < i * 1
      · rw [if_pos e, if_neg (show ¬ j = i by omega)]
      · rw [if_neg e, if_pos (show j = i by omega)]
    · exact Below.heap_setCell _ _ _ _ (fun e => (H1.out.ne HROW.out (by decide)) (by rw [hb, e]))
  · rcases H4.out with h | h
    · exact .inl h
    · exact .inr ⟨_, h, by rw [size_alloc]; omega⟩
  · exact (((Mv.refl w _).alloc _).grown HG.out (fun b e => .inl (.inr e))).setCell (.inl (.inl rfl)) _

set_option maxRecDepth 100000 in
set_option maxHeartbeats 2000000 in
theorem treesOwn_any (w : World) (bk g N c : Nat) (V : Nat → Value) (n : Nat → Nat) (C : Nat → Nat → Value) (hC : ∀ j k, j < N → k < n j → ∃ p, C j (k * 5 + 4) = .int .i64 p) (hN : N ≤ 1000) (hn : ∀ j, j < N → n j ≤ 100000000) (ap : Aprt w g N V) (h : P1 49 5 w w g N V n C) (hb : TrH w bk (.slice (some ⟨g, 0, none⟩) N c)) (hbn : ¬ bks N V bk) :
    Calls Tryd.prog 14 #[.pointer (some ⟨bk, 0, none⟩)] w fun e w' => e = .returned (.bool true) ∧ Mv w w' (bks N V) := by
  have q0 : w.cell? ⟨bk, 0, none⟩ = some (.slice (some ⟨g, 0, none⟩) N c) := cell_of hb 0
  have HB := hb.hid
  have HBN : Hid (¬ bks N V bk) := hbn
  have CF : Hid (Calls Tryd.prog 32 #[.slice (some ⟨g, 0, none⟩) N c] w fun e w' => e = .returned (.bool true) ∧ Mv w w' (bks N V)) := ownT_any w g N c V n C hC hN hn ap h
  clear hb hbn h ap hn hC
  go_enter Tryd.func14, Tryd.ntmps14
  go_wp2_with fail
  refine CF.out.mono ?_
  rintro _ v ⟨rfl, hm⟩
  have hv : TrH v bk (.slice (some ⟨g, 0, none⟩) N c) := (hm.block bk HB.out.lt HBN.out).trans HB.out
  have p1 : v.cell? ⟨bk, 1, none⟩ = some (.slice none 0 0) := cell_of hv 1
  have p2 : v.cell? ⟨bk, 2, none⟩ = some (.slice none 0 0) := cell_of hv 2
  have p3 : v.cell? ⟨bk, 3, none⟩ = some (.slice none 0 0) := cell_of hv 3
  have p4 : v.cell? ⟨bk, 4, none⟩ = some (.slice none 0 0) := cell_of hv 4
  have p5 : v.cell? ⟨bk, 5, none⟩ = some (.slice none 0 0) := cell_of hv 5
  have p6 : v.cell? ⟨bk, 6, none⟩ = some (.slice none 0 0) := cell_of hv 6
  have p7 : v.cell? ⟨bk, 7, none⟩ = some (.slice none 0 0) := cell_of hv 7
  have p8 : v.cell? ⟨bk, 8, none⟩ = some (.slice none 0 0) := cell_of hv 8
  have p9 : v.cell? ⟨bk, 9, none⟩ = some (.slice none 0 0) := cell_of hv 9
  have p10 : v.cell? ⟨bk, 10, none⟩ = some (.slice none 0 0) := cell_of hv 10
  have p11 : v.cell? ⟨bk, 11, none⟩ = some (.slice none 0 0) := cell_of hv 11
  have HM : Hid (Mv w v (bks N V)) := hm
  clear q0 hm hv CF
  go_wp2_with fail
  refine (nilNodes _).mono ?_
  rintro _ v' ⟨rfl, e⟩
  obtain rfl := e.symm
  go_wp2_with fail
  refine (nilRegs _).mono ?_
  rintro _ v' ⟨rfl, e⟩
  obtain rfl := e.symm
  go_wp2_with fail
  refine (nilSlots _).mono ?_
  rintro _ v' ⟨rfl, e⟩
  obtain rfl := e.symm
  go_wp2_with fail
  refine (nilDos _).mono ?_
  rintro _ v' ⟨rfl, e⟩
  obtain rfl := e.symm
  go_wp2_with fail
  refine (nilRules _).mono ?_
  rintro _ v' ⟨rfl, e⟩
  obtain rfl := e.symm
  go_wp2_with fail
  refine (nilStates _).mono ?_
  rintro _ v' ⟨rfl, e⟩
  obtain rfl := e.symm
  go_wp2_with fail
  refine (nilInstrs _).mono ?_
  rintro _ v' ⟨rfl, e⟩
  obtain rfl := e.symm
  go_wp2_with fail
  refine (nilRows _).mono ?_
  rintro _ v' ⟨rfl, e⟩
  obtain rfl := e.symm
  go_wp2_with fail
  refine (nilGuards _).mono ?_
  rintro _ v' ⟨rfl, e⟩
  obtain rfl := e.symm
  go_wp2_with fail
  refine (nilWhole _).mono ?_
  rintro _ v' ⟨rfl, e⟩
  obtain rfl := e.symm
  go_wp2_with fail
  refine (nilLongs _).mono ?_
  rintro _ v' ⟨rfl, e⟩
  obtain rfl := e.symm
  go_wp2
  go_ret
  exact ⟨rfl, HM.out⟩
end Go.Proofs.YtelanneckjgnbaaDoor
