/-
  The book of lists of texts: one more is put in; its owner looks at all.
-/
import Derived.Test.YtelanneckjgnbaaDoorOy
import Derived.Test.YtelanneckjgnbaaDoorOo
import Derived.Test.YtelanneckjgnbaaDoorTb
namespace Go.Proofs.YtelanneckjgnbaaDoor
open Go.RowKit

def bxA (lv : Value) : Array Value := #[.slice none 0 0, .slice none 0 0, .slice none 0 0, .slice none 0 0, .slice none 0 0, .slice none 0 0, .slice none 0 0, .slice none 0 0, .slice none 0 0, .slice none 0 0, lv]
def BxH (w : World) (bk : Nat) (lv : Value) : Prop := w.heap[bk]? = some (.cells (bxA lv) 71 (0, 0))
theorem BxH.hid {w : World} {bk : Nat} {lv : Value} (h : BxH w bk lv) : Hid (BxH w bk lv) := h
theorem BxH.set {w : World} {bk : Nat} {lv : Value} (h : BxH w bk lv) (x : Value) : BxH (w.setCell ⟨bk, 10, none⟩ x) bk x := heap_set x h
theorem BxH.lt {w : World} {bk : Nat} {lv : Value} (h : BxH w bk lv) : bk < w.heap.size := (Array.getElem?_eq_some_iff.1 h).1
theorem BxH.ne {w : World} {bk : Nat} {lv : Value} (h : BxH w bk lv) {x : Value} {n : Nat} {f : Nat → Value} {e : TypeId} {s : Nat} (hr : Row w e s x n f) (he : e ≠ 71) : x.ownBlock ≠ some bk := by
  intro e1
  obtain ⟨c, fz, h1⟩ := hr.kind bk e1
  rw [h] at h1
  simp at h1
  exact he h1.2.1.symm
set_option maxRecDepth 100000 in
set_option maxHeartbeats 2000000 in
theorem bookAdd_any (w : World) (bk i : Nat) (lv : Value) (U : Nat → Value) (ao : Option Addr) (m c : Nat) (hb : BxH w bk lv) (hr : Row w 38 1 lv i U) (hi : i ≤ 1000) :
    Calls Tryd.prog 25 #[.pointer (some ⟨bk, 0, none⟩), .slice ao m c] w fun e w' => (∃ r, e = .returned r) ∧ ∃ lv', BxH w' bk lv' ∧ Row w' 38 1 lv' (i + 1) (fun j => if j = i then .slice ao m c else U j) ∧ (lv'.ownBlock = lv.ownBlock ∨ ∃ q, lv'.ownBlock = some q ∧ w.heap.size ≤ q) ∧ Mv w w' (fun b => b = bk ∨ lv.ownBlock = some b) := by
  obtain ⟨i0, h0, hz0, hz1, hz2⟩ := info_parts Tryd.info38
  have q7 : w.cell? ⟨bk, 10, none⟩ = some lv := cell_of hb 10
  have HB := hb.hid
  have HR : Hid (Row w 38 1 lv i U) := hr
  have hne := hb.ne hr (by decide)
  have HNE : Hid (lv.ownBlock ≠ some bk) := hne
  clear hb hr hne
  go_enter Tryd.func25, Tryd.ntmps25
  go_wp2_with (at_builtin; refine wpList_append_own_at _ rfl (.tmp 8) (.tmp 10) 69 rfl 0 38 i0 _ 1 24 Tryd.underlying69 h0 hz0 hz1 hz2 rfl (by decide) lv i _ rfl (HR.out.alloc _) ⟨w.heap.size, 0, none⟩ 1 1 [.slice ao m c] rfl rfl (World.news_of_block (heap_new w _)) (by intro u hu; simp at hu; rw [hu]; rfl) (by unfold maxLen; omega) (by omega) (Nat.zero_le _) ?_; intro lv' w1 r1 r2 _ r4; have hb1 : w1.heap[bk]? = w.heap[bk]? := (r2.block bk (by rw [size_alloc]; have := HB.out.lt; omega) (fun e => HNE.out e.symm)).trans (Below.heap_alloc _ _ _ HB.out.lt); have H1 : Hid (BxH w1 bk lv) := hb1.trans HB.out; have p7 : w1.cell? ⟨bk, 10, none⟩ = some lv := cell_of H1.out 10; have f7 := frozen_of H1.out 10; have hrow := Row.snoc (x := fun _ => .slice ao m c) r1 rfl (one_at _); obtain ⟨al, cl, el, _, _⟩ := hrow.form; subst el; have HROW := Row.hid hrow; have HG : Hid (_) := r2; have H4 : Hid (_) := r4; clear hb1 r1 r2 r4 hrow q7)
  go_end0
  refine ⟨⟨_, rfl⟩, _, H1.out.set _, ?_, ?_, ?_⟩
  · refine (HROW.out.congr (fun j hj => ?_)).of_block (fun b hb => ?_)
    · by_cases e : j < i * 1
      · rw [if_pos e, if_neg (show ¬ j = i by omega)]
      · rw [if_neg e, if_pos (show j = i by omega)]
    · exact Below.heap_setCell _ _ _ _ (fun e => (H1.out.ne HROW.out (by decide)) (by rw [hb, e]))
  · rcases H4.out with h | h
    · exact .inl h
    · exact .inr ⟨_, h, by rw [size_alloc]; omega⟩
  · exact (((Mv.refl w _).alloc _).grown HG.out (fun b e => .inl (.inr e))).setCell (.inl (.inl rfl)) _

set_option maxRecDepth 100000 in
set_option maxHeartbeats 2000000 in
theorem bookOwn_any (w : World) (bk g N c : Nat) (V : Nat → Value) (n : Nat → Nat) (C : Nat → Nat → Value) (hC : ∀ j q, j < N → q < n j → ∃ p, C j q = .string p) (hN : N ≤ 1000) (hn : ∀ j, j < N → n j ≤ 1000) (ap : Aprt w g N V) (h : P1 9 1 w w g N V n C) (hb : BxH w bk (.slice (some ⟨g, 0, none⟩) N c)) :
    Calls Tryd.prog 26 #[.pointer (some ⟨bk, 0, none⟩)] w fun e w' => e = .returned (.bool true) ∧ Mv w w' (bks N V) := by
  have p0 : w.cell? ⟨bk, 0, none⟩ = some (.slice none 0 0) := cell_of hb 0
  have p1 : w.cell? ⟨bk, 1, none⟩ = some (.slice none 0 0) := cell_of hb 1
  have p2 : w.cell? ⟨bk, 2, none⟩ = some (.slice none 0 0) := cell_of hb 2
  have p3 : w.cell? ⟨bk, 3, none⟩ = some (.slice none 0 0) := cell_of hb 3
  have p4 : w.cell? ⟨bk, 4, none⟩ = some (.slice none 0 0) := cell_of hb 4
  have p5 : w.cell? ⟨bk, 5, none⟩ = some (.slice none 0 0) := cell_of hb 5
  have p6 : w.cell? ⟨bk, 6, none⟩ = some (.slice none 0 0) := cell_of hb 6
  have p7 : w.cell? ⟨bk, 7, none⟩ = some (.slice none 0 0) := cell_of hb 7
  have p8 : w.cell? ⟨bk, 8, none⟩ = some (.slice none 0 0) := cell_of hb 8
  have p9 : w.cell? ⟨bk, 9, none⟩ = some (.slice none 0 0) := cell_of hb 9
  have p10 : w.cell? ⟨bk, 10, none⟩ = some (.slice (some ⟨g, 0, none⟩) N c) := cell_of hb 10
  have CF : Hid (Calls Tryd.prog 55 #[.slice (some ⟨g, 0, none⟩) N c] w fun e w' => e = .returned (.bool true) ∧ Mv w w' (bks N V)) := ownX_any w g N c V n C hC hN hn ap h
  clear hb h ap hn hC
  go_enter Tryd.func26, Tryd.ntmps26
  go_wp2_with fail
  refine (nilInts _).mono ?_
  rintro _ v' ⟨rfl, e⟩
  obtain rfl := e.symm
  go_wp2_with fail
  refine (nilLongs _).mono ?_
  rintro _ v' ⟨rfl, e⟩
  obtain rfl := e.symm
  go_wp2_with fail
  refine (nilNumbers _).mono ?_
  rintro _ v' ⟨rfl, e⟩
  obtain rfl := e.symm
  go_wp2_with fail
  refine (nilOrders _).mono ?_
  rintro _ v' ⟨rfl, e⟩
  obtain rfl := e.symm
  go_wp2_with fail
  refine (nilLevels _).mono ?_
  rintro _ v' ⟨rfl, e⟩
  obtain rfl := e.symm
  go_wp2_with fail
  refine (nilHits _).mono ?_
  rintro _ v' ⟨rfl, e⟩
  obtain rfl := e.symm
  go_wp2_with fail
  refine (nilEvents _).mono ?_
  rintro _ v' ⟨rfl, e⟩
  obtain rfl := e.symm
  go_wp2_with fail
  refine (nilFeeds _).mono ?_
  rintro _ v' ⟨rfl, e⟩
  obtain rfl := e.symm
  go_wp2_with fail
  refine (nilActions _).mono ?_
  rintro _ v' ⟨rfl, e⟩
  obtain rfl := e.symm
  go_wp2_with fail
  refine (nilTolds _).mono ?_
  rintro _ v' ⟨rfl, e⟩
  obtain rfl := e.symm
  go_wp2_with fail
  refine CF.out.mono ?_
  rintro _ v ⟨rfl, hm⟩
  have HM : Hid (Mv w v (bks N V)) := hm
  clear hm CF
  go_wp2
  go_ret
  exact ⟨rfl, HM.out⟩
end Go.Proofs.YtelanneckjgnbaaDoor
