import Derived.Test.YtdanedibjccldaaRows
import Derived.Deep.QuietTactic
import Derived.BigQuiet
import Derived.Below
import Derived.WalkKit
import Derived.ProofKit
import Derived.OwnWalk
import Derived.WalkSmall
import Derived.Outline
import Derived.Laws.Rows
import Derived.BigRegion
import Derived.Deep.Cut
/-
  How a world has moved; rows of cells that the call itself has made.
-/
namespace Go.Proofs.Ytdanedibjccldaa
open Go.RowKit
def Row (w : World) (e : TypeId) (s : Nat) (v : Value) (n : Nat) (f : Nat → Value) : Prop := w.ownsRow 0 e s v n ((List.range (n * s)).map f)

theorem range_map_set (m j : Nat) (f : Nat → Value) (u : Value) : ((List.range m).map f).set j u = (List.range m).map (fun i => if i = j then u else f i) := by
  apply List.ext_getElem?
  intro i
  rw [List.getElem?_set, List.getElem?_map, List.getElem?_map, List.length_map, List.length_range]
  by_cases hi : i < m
  · rw [List.getElem?_range hi]
    by_cases hj : j = i
    · subst hj; simp [hi]
    · rw [if_neg hj]
      show some (f i) = some (if i = j then u else f i)
      rw [if_neg (fun h => hj h.symm)]
  · rw [List.getElem?_eq_none (by simpa using hi)]
    by_cases hj : j = i
    · subst hj; simp [hi]
    · simp [hj]

variable {w : World} {e : TypeId} {s n cap : Nat} {g : Nat} {f f' : Nat → Value} {v : Value}

theorem Row.cell (h : Row w e s (.slice (some ⟨g, 0, none⟩) n cap) n f) {j : Nat} (hj : j < n * s) : w.cell? ⟨g, j, none⟩ = some (f j) := by
  rw [World.ownsRow.cellAt h j hj, List.getElem?_map, List.getElem?_range hj]; rfl
theorem Row.frozen (h : Row w e s (.slice (some ⟨g, 0, none⟩) n cap) n f) (j : Nat) : w.frozen? ⟨g, j, none⟩ = false := World.ownsRow.frozenAt h j
theorem Row.set (h : Row w e s (.slice (some ⟨g, 0, none⟩) n cap) n f) (j : Nat) (u : Value) : Row (w.setCell ⟨g, j, none⟩ u) e s (.slice (some ⟨g, 0, none⟩) n cap) n (fun i => if i = j then u else f i) := by
  have := (World.ownsRow.stored h j u).1
  rwa [range_map_set] at this
theorem Row.congr (h : Row w e s v n f) (he : ∀ j, j < n * s → f j = f' j) : Row w e s v n f' := by
  unfold Row at h ⊢
  have : (List.range (n * s)).map f = (List.range (n * s)).map f' := List.map_congr_left (fun j hj => he j (by simpa using hj))
  rwa [this] at h
theorem Row.kept {w' : World} {row : Option Nat} (h : Row w e s v n f) (hg : w.grownBy w' row) (hne : v.ownBlock = none ∨ v.ownBlock ≠ row) : Row w' e s v n f := World.ownsRow.kept h hg hne
theorem Row.lt (h : Row w e s v n f) : ∀ k, v.ownBlock = some k → k < w.heap.size := fun k hk => (World.ownsRow.lt h k hk).2
theorem Row.nil (w : World) (e : TypeId) (s : Nat) (f : Nat → Value) : Row w e s (.slice none 0 0) 0 f := by
  have := World.ownsRow_nil w 0 e s
  simpa [Row] using this
theorem Row.kind (h : Row w e s v n f) : ∀ k, v.ownBlock = some k → ∃ c fz, w.heap[k]? = some (.cells c e fz) := by
  intro k hk
  rcases h.2 with ⟨rfl, _⟩ | ⟨g', cap', cur, rfl, _, hg, _⟩
  · simp [Value.ownBlock] at hk
  · simp [Value.ownBlock] at hk
    subst hk
    exact ⟨_, _, hg⟩
/-- A block that is as it was keeps its row. -/
theorem Row.of_block {w' : World} (h : Row w e s v n f) (hb : ∀ k, v.ownBlock = some k → w'.heap[k]? = w.heap[k]?) : Row w' e s v n f := by
  refine ⟨h.1, ?_⟩
  rcases h.2 with h' | ⟨g', cap', cur, rfl, h1, hg, h2⟩
  · exact .inl h'
  · exact .inr ⟨g', cap', cur, rfl, h1, (hb g' rfl).trans hg, h2⟩
theorem Row.alloc (h : Row w e s v n f) (o : Obj) : Row (w.alloc o) e s v n f := World.ownsRow.alloc h o
/-- The form of a row's value: its address, where it has any. -/
theorem Row.form (h : Row w e s v n f) : ∃ ao c, v = .slice ao n c ∧ (0 < n → ∃ g, ao = some ⟨g, 0, none⟩) ∧ ((ao = none ∧ n = 0 ∧ c = 0) ∨ ∃ g, ao = some ⟨g, 0, none⟩) := by
  rcases h.2 with ⟨rfl, rfl⟩ | ⟨g', cap', cur, rfl, _⟩
  · exact ⟨none, 0, rfl, fun h => by omega, .inl ⟨rfl, rfl, rfl⟩⟩
  · exact ⟨_, _, rfl, fun _ => ⟨g', rfl⟩, .inr ⟨g', rfl⟩⟩
/-- Two rows of unlike elements lie apart. -/
theorem Row.apart {e' : TypeId} {s' n' : Nat} {v' : Value} (h : Row w e s v n f) (h' : Row w e' s' v' n' f') (hne : e ≠ e') : ∀ k, v.ownBlock = some k → v'.ownBlock ≠ some k := by
  intro k hk hk'
  obtain ⟨c, fz, h1⟩ := h.kind k hk
  obtain ⟨c', fz', h2⟩ := h'.kind k hk'
  rw [h1] at h2
  simp at h2
  exact hne h2.2.1
/-- One element more, behind a row. -/
theorem Row.snoc {v' : Value} {news : List Value} {x : Nat → Value} (h : w.ownsRow 0 e s v' (n + 1) ((List.range (n * s)).map f ++ news)) (hl : news.length = s) (hx : ∀ j, j < s → news[j]? = some (x j)) :
    Row w e s v' (n + 1) (fun j => if j < n * s then f j else x (j - n * s)) := by
  unfold Row
  have : (List.range ((n + 1) * s)).map (fun j => if j < n * s then f j else x (j - n * s)) = (List.range (n * s)).map f ++ news := by
    apply List.ext_getElem?
    intro j
    have hm : (n + 1) * s = n * s + s := by rw [Nat.add_mul, Nat.one_mul]
    by_cases h1 : j < n * s
    · rw [List.getElem?_append_left (by simpa using h1), List.getElem?_map, List.getElem?_map, List.getElem?_range (by omega), List.getElem?_range h1]
      simp [h1]
    · rw [List.getElem?_append_right (by simpa using Nat.le_of_not_lt h1), List.length_map, List.length_range]
      by_cases h2 : j < (n + 1) * s
      · rw [List.getElem?_map, List.getElem?_range h2, hx _ (by omega)]
        simp [h1]
      · rw [List.getElem?_eq_none (by simpa using Nat.le_of_not_lt h2), List.getElem?_eq_none (by omega)]
  rw [this]; exact h
theorem Row.pop (h : Row w e s (.slice (some ⟨g, 0, none⟩) (n + 1) cap) (n + 1) f) : Row w e s (.slice (some ⟨g, 0, none⟩) n cap) n f := by
  unfold Row at h ⊢
  refine ownsRow_pop (last := (List.range s).map (fun i => f (n * s + i))) (by simp) ?_
  have : (List.range ((n + 1) * s)).map f = (List.range (n * s)).map f ++ (List.range s).map (fun i => f (n * s + i)) := by
    rw [Nat.add_mul, Nat.one_mul, List.range_add, List.map_append, List.map_map]; rfl
  rwa [this] at h

structure Mv (w w' : World) (F : Nat → Prop) : Prop where
  os : w'.os = w.os
  tape : w'.tape = w.tape
  output : w'.output = w.output
  size : w.heap.size ≤ w'.heap.size
  block : ∀ k, k < w.heap.size → ¬ F k → w'.heap[k]? = w.heap[k]?

theorem Mv.refl (w : World) (F : Nat → Prop) : Mv w w F := ⟨rfl, rfl, rfl, Nat.le_refl _, fun _ _ _ => rfl⟩
theorem Mv.drew {w w' : World} {F : Nat → Prop} (h : Mv w w' F) : Mv w w'.drew F := ⟨h.os, h.tape, h.output, h.size, h.block⟩
theorem Mv.trans {w w' w'' : World} {F F' : Nat → Prop} (h : Mv w w' F) (k : Mv w' w'' F') (hF : ∀ b, F' b → F b ∨ w.heap.size ≤ b) : Mv w w'' F :=
  ⟨k.os.trans h.os, k.tape.trans h.tape, k.output.trans h.output, Nat.le_trans h.size k.size, fun b hb hn =>
    (k.block b (Nat.lt_of_lt_of_le hb h.size) (fun e => (hF b e).elim hn (fun h1 => by omega))).trans (h.block b hb hn)⟩
theorem Mv.mono {w w' : World} {F F' : Nat → Prop} (h : Mv w w' F) (hF : ∀ b, F b → F' b) : Mv w w' F' := ⟨h.os, h.tape, h.output, h.size, fun b hb hn => h.block b hb (fun e => hn (hF b e))⟩
theorem Mv.setCell {w w' : World} {F : Nat → Prop} (h : Mv w w' F) {a : Addr} (ha : F a.block ∨ w.heap.size ≤ a.block) (u : Value) : Mv w (w'.setCell a u) F :=
  h.trans (F' := fun b => b = a.block) ⟨rfl, rfl, rfl, by simp [World.setCell], fun b _ hn => Below.heap_setCell _ _ _ _ hn⟩ (fun b e => by cases e; exact ha)
theorem Mv.alloc {w w' : World} {F : Nat → Prop} (h : Mv w w' F) (o : Obj) : Mv w (w'.alloc o) F :=
  h.trans (F' := fun _ => False) ⟨rfl, rfl, rfl, by simp, fun b hb _ => Below.heap_alloc _ _ _ hb⟩ (fun b e => e.elim)
theorem Mv.grown {w w' w'' : World} {F : Nat → Prop} {row : Option Nat} (h : Mv w w' F) (hg : w'.grownBy w'' row) (hr : ∀ k, row = some k → F k ∨ w.heap.size ≤ k) : Mv w w'' F :=
  h.trans (F' := fun b => some b = row) ⟨hg.os, hg.tape, hg.output, hg.size, fun b hb hn => hg.block b hb hn⟩ (fun b e => hr b e.symm)
theorem Mv.below {w w' : World} {F : Nat → Prop} (h : Mv w w' F) {B : Nat} (hB : B ≤ w.heap.size) (hF : ∀ b, F b → B ≤ b) : Below B w w' :=
  ⟨h.os, h.tape, h.output, h.size, fun k hk => h.block k (by omega) (fun e => by have := hF k e; omega)⟩
theorem Mv.row {w w' : World} {F : Nat → Prop} (h : Mv w w' F) {e : TypeId} {s n : Nat} {v : Value} {f : Nat → Value} (hr : Row w e s v n f) (hn : ∀ k, v.ownBlock = some k → ¬ F k) : Row w' e s v n f :=
  hr.of_block (fun k hk => h.block k (hr.lt k hk) (hn k hk))


theorem heap_new (w : World) (o : Obj) : (w.alloc o).heap[w.heap.size]? = some o := by
  show (w.heap.push o)[w.heap.size]? = _
  simp
theorem size_alloc (w : World) (o : Obj) : (w.alloc o).heap.size = w.heap.size + 1 := by simp
theorem below_new (w : World) (o : Obj) : Below w.heap.size w (w.alloc o) := (Below.refl _ w).alloc (Nat.le_refl _) o
theorem cell_of {w : World} {b : Nat} {a : Array Value} {t : TypeId} {fz : Nat × Nat} (h : w.heap[b]? = some (.cells a t fz)) (j : Nat) : w.cell? ⟨b, j, none⟩ = a[j]? := by
  unfold World.cell?; rw [h]; simp
theorem frozen_of {w : World} {b : Nat} {a : Array Value} {t : TypeId} (h : w.heap[b]? = some (.cells a t (0, 0))) (j : Nat) : w.frozen? ⟨b, j, none⟩ = false := by
  unfold World.frozen?; rw [h]; simp
theorem setCell_of {w : World} {b : Nat} {a : Array Value} {t : TypeId} {fz : Nat × Nat} (h : w.heap[b]? = some (.cells a t fz)) (j : Nat) (u : Value) : (w.setCell ⟨b, j, none⟩ u).heap[b]? = some (.cells (a.setIfInBounds j u) t fz) := by
  unfold World.setCell
  simp [Array.getElem?_modify, h]
theorem lt_of {w : World} {b : Nat} {o : Obj} (h : w.heap[b]? = some o) : b < w.heap.size := (Array.getElem?_eq_some_iff.1 h).1
theorem retI {a b : Int} (h : a = b) : Ending.returned (.int .i64 a) = .returned (.int .i64 b) := by rw [h]
theorem retB {a b : Bool} (h : a = b) : Ending.returned (.bool a) = .returned (.bool b) := by rw [h]
theorem Mv.drewN {w w' : World} {F : Nat → Prop} (h : Mv w w' F) (n : Nat) : Mv w (w'.drewN n) F := ⟨h.os, h.tape, h.output, h.size, h.block⟩
theorem mv_drewN (w : World) (n : Nat) (F : Nat → Prop) : Mv w (w.drewN n) F := (Mv.refl w F).drewN n
/-- Nothing that was there has changed. -/
abbrev Qt (w w' : World) : Prop := Mv w w' (fun _ => False)
end Go.Proofs.Ytdanedibjccldaa

/-
  A meter in plain numbers; a meter in memory; fits, has, Window.
-/
namespace Go.Proofs.Ytdanedibjccldaa
open Go.RowKit

/-- Clients, the most strategies and actions, a window's length, the time; what each client has. -/
structure Ms where
  c : Int
  s : Int
  a : Int
  l : Int
  t : Int
  p : Nat → Int
  n : Nat → Int
def msA (m : Ms) : Array Value := #[.int .i64 m.c, .int .i64 m.s, .int .i64 m.a, .int .i64 m.l, .int .i64 m.t,
  .int .i64 (m.p 0), .int .i64 (m.n 0), .int .i64 (m.p 1), .int .i64 (m.n 1), .int .i64 (m.p 2), .int .i64 (m.n 2), .int .i64 (m.p 3), .int .i64 (m.n 3),
  .int .i64 (m.p 4), .int .i64 (m.n 4), .int .i64 (m.p 5), .int .i64 (m.n 5), .int .i64 (m.p 6), .int .i64 (m.n 6), .int .i64 (m.p 7), .int .i64 (m.n 7)]
/-- What holds of every meter. -/
structure Ms.Ok (m : Ms) : Prop where
  c1 : 1 ≤ m.c
  c2 : m.c ≤ 8
  s1 : 0 ≤ m.s
  s2 : m.s ≤ 8
  a1 : 0 ≤ m.a
  a2 : m.a ≤ 1000000
  l1 : 1 ≤ m.l
  l2 : m.l ≤ 1000000000000000
  t1 : 0 ≤ m.t
  t2 : m.t ≤ 1000000000000000
  p1 : ∀ i, 0 ≤ m.p i
  p2 : ∀ i, m.p i ≤ m.s
  n1 : ∀ i, 0 ≤ m.n i
  n2 : ∀ i, m.n i ≤ m.a
/-- A meter in a block. -/
def MsAt (w : World) (b : Nat) (m : Ms) : Prop := w.heap[b]? = some (.cells (msA m) 51 (0, 0))
theorem MsAt.c0 {w : World} {b : Nat} {m : Ms} (h : MsAt w b m) : w.cell? ⟨b, 0, none⟩ = some (.int .i64 m.c) := cell_of h 0
theorem MsAt.c1 {w : World} {b : Nat} {m : Ms} (h : MsAt w b m) : w.cell? ⟨b, 1, none⟩ = some (.int .i64 m.s) := cell_of h 1
theorem MsAt.c2 {w : World} {b : Nat} {m : Ms} (h : MsAt w b m) : w.cell? ⟨b, 2, none⟩ = some (.int .i64 m.a) := cell_of h 2
theorem MsAt.c3 {w : World} {b : Nat} {m : Ms} (h : MsAt w b m) : w.cell? ⟨b, 3, none⟩ = some (.int .i64 m.l) := cell_of h 3
theorem MsAt.c4 {w : World} {b : Nat} {m : Ms} (h : MsAt w b m) : w.cell? ⟨b, 4, none⟩ = some (.int .i64 m.t) := cell_of h 4
theorem eight {P : Nat → Prop} {i : Nat} (hi : i < 8) (h0 : P 0) (h1 : P 1) (h2 : P 2) (h3 : P 3) (h4 : P 4) (h5 : P 5) (h6 : P 6) (h7 : P 7) : P i := by
  match i, hi with
  | 0, _ => exact h0
  | 1, _ => exact h1
  | 2, _ => exact h2
  | 3, _ => exact h3
  | 4, _ => exact h4
  | 5, _ => exact h5
  | 6, _ => exact h6
  | 7, _ => exact h7
theorem msA_p (m : Ms) {i : Nat} (hi : i < 8) : (msA m)[5 + i * 2]? = some (.int .i64 (m.p i)) :=
  eight (P := fun i => (msA m)[5 + i * 2]? = some (.int .i64 (m.p i))) hi rfl rfl rfl rfl rfl rfl rfl rfl
theorem msA_n (m : Ms) {i : Nat} (hi : i < 8) : (msA m)[5 + i * 2 + 1]? = some (.int .i64 (m.n i)) :=
  eight (P := fun i => (msA m)[5 + i * 2 + 1]? = some (.int .i64 (m.n i))) hi rfl rfl rfl rfl rfl rfl rfl rfl
theorem MsAt.cp {w : World} {b : Nat} {m : Ms} (h : MsAt w b m) {i : Nat} (hi : i < 8) : w.cell? ⟨b, 5 + i * 2, none⟩ = some (.int .i64 (m.p i)) := (cell_of h _).trans (msA_p m hi)
theorem MsAt.cn {w : World} {b : Nat} {m : Ms} (h : MsAt w b m) {i : Nat} (hi : i < 8) : w.cell? ⟨b, 5 + i * 2 + 1, none⟩ = some (.int .i64 (m.n i)) := (cell_of h _).trans (msA_n m hi)
theorem MsAt.fz {w : World} {b : Nat} {m : Ms} (h : MsAt w b m) (j : Nat) : w.frozen? ⟨b, j, none⟩ = false := frozen_of h j
theorem MsAt.lt {w : World} {b : Nat} {m : Ms} (h : MsAt w b m) : b < w.heap.size := lt_of h
theorem MsAt.mv {w w' : World} {b : Nat} {m : Ms} {F : Nat → Prop} (h : MsAt w b m) (k : Mv w w' F) (hb : ¬ F b) : MsAt w' b m := (k.block b h.lt hb).trans h
theorem MsAt.drewN {w : World} {b : Nat} {m : Ms} (h : MsAt w b m) (n : Nat) : MsAt (w.drewN n) b m := h

def upd (f : Nat → Int) (i : Nat) (x : Int) : Nat → Int := fun j => if j = i then x else f j
theorem upd_same (f : Nat → Int) (i : Nat) (x : Int) : upd f i x i = x := if_pos rfl
theorem upd_ne (f : Nat → Int) {i j : Nat} (x : Int) (h : j ≠ i) : upd f i x j = f j := if_neg h
theorem upd_id (f : Nat → Int) (i : Nat) : upd f i (f i) = f := by
  funext j
  unfold upd
  split
  · next h => rw [h]
  · rfl
theorem msA_setp (m : Ms) {i : Nat} (hi : i < 8) (x : Int) : (msA m).setIfInBounds (5 + i * 2) (.int .i64 x) = msA { m with p := upd m.p i x } :=
  eight (P := fun i => (msA m).setIfInBounds (5 + i * 2) (.int .i64 x) = msA { m with p := upd m.p i x }) hi rfl rfl rfl rfl rfl rfl rfl rfl
theorem msA_setn (m : Ms) {i : Nat} (hi : i < 8) (x : Int) : (msA m).setIfInBounds (5 + i * 2 + 1) (.int .i64 x) = msA { m with n := upd m.n i x } :=
  eight (P := fun i => (msA m).setIfInBounds (5 + i * 2 + 1) (.int .i64 x) = msA { m with n := upd m.n i x }) hi rfl rfl rfl rfl rfl rfl rfl rfl
theorem MsAt.setp {w : World} {b : Nat} {m : Ms} (h : MsAt w b m) {i : Nat} (hi : i < 8) (x : Int) : MsAt (w.setCell ⟨b, 5 + i * 2, none⟩ (.int .i64 x)) b { m with p := upd m.p i x } := by
  unfold MsAt; rw [← msA_setp m hi]; exact setCell_of h _ _
theorem MsAt.setn {w : World} {b : Nat} {m : Ms} (h : MsAt w b m) {i : Nat} (hi : i < 8) (x : Int) : MsAt (w.setCell ⟨b, 5 + i * 2 + 1, none⟩ (.int .i64 x)) b { m with n := upd m.n i x } := by
  unfold MsAt; rw [← msA_setn m hi]; exact setCell_of h _ _
theorem MsAt.sett {w : World} {b : Nat} {m : Ms} (h : MsAt w b m) (x : Int) : MsAt (w.setCell ⟨b, 4, none⟩ (.int .i64 x)) b { m with t := x } := setCell_of h _ _

/-- Is there such a client? -/
def isB (m : Ms) (x : Int) : Bool := decide (1 ≤ x) && decide (x ≤ m.c)
theorem isB_iff {m : Ms} {x : Int} : isB m x = true ↔ 1 ≤ x ∧ x ≤ m.c := by unfold isB; simp
def inB (n lo hi : Int) : Bool := decide (lo ≤ n) && decide (n ≤ hi)
theorem inB_iff {n lo hi : Int} : inB n lo hi = true ↔ lo ≤ n ∧ n ≤ hi := by unfold inB; simp

theorem fits_any (n lo hi : Int) (w : World) :
    Calls Try.prog 20 #[.int .i64 n, .int .i64 lo, .int .i64 hi] w fun e w' => e = .returned (.bool (inB n lo hi)) ∧ w' = w := by
  by_cases h1 : lo ≤ n
  · by_cases h2 : n ≤ hi
    · have hE : inB n lo hi = true := inB_iff.2 ⟨h1, h2⟩
      rw [hE]; clear hE
      go_enter Try.func20, Try.ntmps20
      go_wp2
      go_ret
      exact ⟨rfl, rfl⟩
    · have hE : inB n lo hi = false := by unfold inB; simp; omega
      rw [hE]; clear hE
      go_enter Try.func20, Try.ntmps20
      go_wp2
      go_ret
      exact ⟨rfl, rfl⟩
  · have hE : inB n lo hi = false := by unfold inB; simp; omega
    rw [hE]; clear hE
    go_enter Try.func20, Try.ntmps20
    go_wp2
    go_ret
    exact ⟨rfl, rfl⟩
theorem has_any {w : World} {b : Nat} {m : Ms} (h : MsAt w b m) (x : Int) :
    Calls Try.prog 21 #[.pointer (some ⟨b, 0, none⟩), .int .i64 x] w fun e w' => e = .returned (.bool (isB m x)) ∧ w' = w := by
  have c0 := h.c0
  by_cases h1 : 1 ≤ x
  · by_cases h2 : x ≤ m.c
    · have hE : isB m x = true := isB_iff.2 ⟨h1, h2⟩
      rw [hE]; clear hE
      go_enter Try.func21, Try.ntmps21
      go_wp2
      go_ret
      exact ⟨rfl, rfl⟩
    · have hE : isB m x = false := by unfold isB; simp; omega
      rw [hE]; clear hE
      go_enter Try.func21, Try.ntmps21
      go_wp2
      go_ret
      exact ⟨rfl, rfl⟩
  · have hE : isB m x = false := by unfold isB; simp; omega
    rw [hE]; clear hE
    go_enter Try.func21, Try.ntmps21
    go_wp2
    go_ret
    exact ⟨rfl, rfl⟩
theorem win_any {w : World} {b : Nat} {m : Ms} (h : MsAt w b m) (ok : m.Ok) :
    Calls Try.prog 19 #[.pointer (some ⟨b, 0, none⟩)] w fun e w' => e = .returned (.int .i64 (m.t / m.l)) ∧ Qt w w' := by
  have c3 := h.c3
  have c4 := h.c4
  obtain ⟨_, _, _, _, _, _, l1, l2, t1, t2, _, _, _, _⟩ := ok
  go_enter Try.func19, Try.ntmps19
  go_wp2_with fail
  go_quiet (fail)
  go_wp2_with fail
  go_ret
  exact ⟨rfl, mv_drewN _ _ _⟩
end Go.Proofs.Ytdanedibjccldaa

/-
  Used.
-/
namespace Go.Proofs.Ytdanedibjccldaa
open Go.RowKit

theorem client {m : Ms} (ok : m.Ok) {x : Int} (h : isB m x = true) : ∃ i : Nat, i < 8 ∧ x = (i : Int) + 1 ∧ (i : Int) < m.c := by
  obtain ⟨h1, h2⟩ := isB_iff.1 h
  have := ok.c2
  exact ⟨(x - 1).toNat, by omega, by omega, by omega⟩
/-- What Used tells. -/
def useP (m : Ms) (x : Int) : Int := if isB m x = true then m.p (x - 1).toNat else 0
def useN (m : Ms) (x : Int) : Int := if isB m x = true then m.n (x - 1).toNat else 0
theorem toNat1 (i : Nat) : ((i : Int) + 1 - 1).toNat = i := by omega
theorem used_yes {w : World} {b : Nat} {m : Ms} (h : MsAt w b m) (i : Nat) (hi : i < 8) (hB : isB m ((i : Int) + 1) = true) :
    Calls Try.prog 18 #[.pointer (some ⟨b, 0, none⟩), .int .i64 ((i : Int) + 1)] w fun e w' => e = .returned (.tuple #[.int .i64 (m.p i), .int .i64 (m.n i)]) ∧ Qt w w' := by
  have cp := h.cp hi
  have cn := h.cn hi
  have cH := has_any h ((i : Int) + 1)
  rw [hB] at cH
  go_enter Try.func18, Try.ntmps18
  go_wp2_with fail
  refine cH.mono ?_
  rintro e w' ⟨rfl, rfl⟩
  go_wp2_with fail
  go_quiet (fail)
  go_wp2_with fail
  go_ret2
  exact ⟨rfl, ((Mv.refl _ _).alloc _).drewN _⟩
theorem used_no {w : World} {b : Nat} {m : Ms} (h : MsAt w b m) (x : Int) (hB : isB m x = false) :
    Calls Try.prog 18 #[.pointer (some ⟨b, 0, none⟩), .int .i64 x] w fun e w' => e = .returned (.tuple #[.int .i64 0, .int .i64 0]) ∧ Qt w w' := by
  have cH := has_any h x
  rw [hB] at cH
  go_enter Try.func18, Try.ntmps18
  go_wp2_with fail
  refine cH.mono ?_
  rintro e w' ⟨rfl, rfl⟩
  go_wp2_with fail
  go_ret2
  exact ⟨rfl, Mv.refl _ _⟩
theorem used_any {w : World} {b : Nat} {m : Ms} (h : MsAt w b m) (ok : m.Ok) (x : Int) :
    Calls Try.prog 18 #[.pointer (some ⟨b, 0, none⟩), .int .i64 x] w fun e w' => e = .returned (.tuple #[.int .i64 (useP m x), .int .i64 (useN m x)]) ∧ Qt w w' := by
  by_cases hB : isB m x = true
  · unfold useP useN
    rw [if_pos hB, if_pos hB]
    obtain ⟨i, hi, rfl, _⟩ := client ok hB
    rw [toNat1]
    exact used_yes h i hi hB
  · unfold useP useN
    rw [if_neg hB, if_neg hB]
    exact used_no h x (by simpa using hB)
end Go.Proofs.Ytdanedibjccldaa

/-
  Acts.
-/
namespace Go.Proofs.Ytdanedibjccldaa
open Go.RowKit

/-- What Acts tells, and what is there then. -/
def actE (m : Ms) (x k : Int) : Int := if isB m x = false ∨ k < 0 then 1 else if m.a - m.n (x - 1).toNat < k then 220 else 0
def actM (m : Ms) (x k : Int) : Ms := if actE m x k = 0 then { m with n := upd m.n (x - 1).toNat (m.n (x - 1).toNat + k) } else m
/-- The block b has changed, no other one. -/
abbrev At (b : Nat) (w w' : World) : Prop := Mv w w' (fun k => k = b)

/-- A copy of a count in a box of its own. -/
structure Bx (w W : World) (b B : Nat) (m : Ms) (u v : Int) : Prop where
  ms : MsAt W b m
  bx : W.heap[B]? = some (.cells #[.int .i64 u, .int .i64 v] 48 (0, 0))
  ne : B ≠ b
  mv : Qt w W
  nb : w.heap.size ≤ B
theorem Bx.new {w : World} {b : Nat} {m : Ms} (h : MsAt w b m) (u v : Int) : Bx w (w.alloc (.cells #[.int .i64 u, .int .i64 v] 48)) b w.heap.size m u v :=
  ⟨h.mv (F := fun _ => False) ((Mv.refl w _).alloc _) (fun e => e), heap_new w _, fun e => by have := h.lt; omega, (Mv.refl w _).alloc _, Nat.le_refl _⟩
theorem Bx.set0 {w W : World} {b B : Nat} {m : Ms} {u v : Int} (h : Bx w W b B m u v) (x : Int) : Bx w (W.setCell ⟨B, 0, none⟩ (.int .i64 x)) b B m x v :=
  ⟨h.ms.mv (F := fun k => k = B) ((Mv.refl W (fun k => k = B)).setCell (.inl rfl) _) (fun e => h.ne e.symm), setCell_of h.bx 0 _, h.ne, h.mv.setCell (.inr h.nb) _, h.nb⟩
theorem Bx.set1 {w W : World} {b B : Nat} {m : Ms} {u v : Int} (h : Bx w W b B m u v) (x : Int) : Bx w (W.setCell ⟨B, 1, none⟩ (.int .i64 x)) b B m u x :=
  ⟨h.ms.mv (F := fun k => k = B) ((Mv.refl W (fun k => k = B)).setCell (.inl rfl) _) (fun e => h.ne e.symm), setCell_of h.bx 1 _, h.ne, h.mv.setCell (.inr h.nb) _, h.nb⟩
theorem Bx.b0 {w W : World} {b B : Nat} {m : Ms} {u v : Int} (h : Bx w W b B m u v) : W.cell? ⟨B, 0, none⟩ = some (.int .i64 u) := cell_of h.bx 0
theorem Bx.b1 {w W : World} {b B : Nat} {m : Ms} {u v : Int} (h : Bx w W b B m u v) : W.cell? ⟨B, 1, none⟩ = some (.int .i64 v) := cell_of h.bx 1
theorem Bx.fb {w W : World} {b B : Nat} {m : Ms} {u v : Int} (h : Bx w W b B m u v) (j : Nat) : W.frozen? ⟨B, j, none⟩ = false := frozen_of h.bx j
theorem Bx.drewN {w W : World} {b B : Nat} {m : Ms} {u v : Int} (h : Bx w W b B m u v) (n : Nat) : Bx w (W.drewN n) b B m u v := ⟨h.ms, h.bx, h.ne, h.mv.drewN n, h.nb⟩

theorem acts_no {w : World} {b : Nat} {m : Ms} (h : MsAt w b m) (x k : Int) (hB : isB m x = false) :
    Calls Try.prog 9 #[.pointer (some ⟨b, 0, none⟩), .int .i64 x, .int .i64 k] w fun e w' => e = .returned (.int .i64 1) ∧ Qt w w' := by
  have cH := has_any h x
  rw [hB] at cH
  go_enter Try.func9, Try.ntmps9
  go_wp2_with fail
  refine cH.mono ?_
  rintro e w' ⟨rfl, rfl⟩
  go_wp2_with fail
  go_ret
  exact ⟨rfl, Mv.refl _ _⟩
theorem acts_neg {w : World} {b : Nat} {m : Ms} (h : MsAt w b m) (x k : Int) (hB : isB m x = true) (hk : k < 0) :
    Calls Try.prog 9 #[.pointer (some ⟨b, 0, none⟩), .int .i64 x, .int .i64 k] w fun e w' => e = .returned (.int .i64 1) ∧ Qt w w' := by
  have cH := has_any h x
  rw [hB] at cH
  go_enter Try.func9, Try.ntmps9
  go_wp2_with fail
  refine cH.mono ?_
  rintro e w' ⟨rfl, rfl⟩
  go_wp2_with fail
  go_ret
  exact ⟨rfl, Mv.refl _ _⟩
theorem acts_far {w : World} {b : Nat} {m : Ms} (h : MsAt w b m) (ok : m.Ok) (i : Nat) (hi : i < 8) (k : Int) (hB : isB m ((i : Int) + 1) = true) (hk : ¬ k < 0) (hf : m.a - m.n i < k) :
    Calls Try.prog 9 #[.pointer (some ⟨b, 0, none⟩), .int .i64 ((i : Int) + 1), .int .i64 k] w fun e w' => e = .returned (.int .i64 220) ∧ Qt w w' := by
  have cp := h.cp hi
  have cn := h.cn hi
  have hX := Bx.new h (m.p i) (m.n i)
  have cH := has_any h ((i : Int) + 1)
  rw [hB] at cH
  have n1 := ok.n1 i
  have n2 := ok.n2 i
  have a2 := ok.a2
  go_enter Try.func9, Try.ntmps9
  go_wp2_with fail
  refine cH.mono ?_
  rintro e w' ⟨rfl, rfl⟩
  go_wp2_with fail
  generalize hWW : w'.alloc (.cells #[.int .i64 (m.p i), .int .i64 (m.n i)] 48) = W at hX ⊢
  generalize hBB : w'.heap.size = B at hX ⊢
  clear cp cn hWW hBB cH
  have c2 := hX.ms.c2
  have b1 := hX.b1
  go_quiet (fail)
  go_wp2_with fail
  go_ret
  exact ⟨rfl, hX.mv.drewN _⟩
theorem acts_ok {w : World} {b : Nat} {m : Ms} (h : MsAt w b m) (ok : m.Ok) (i : Nat) (hi : i < 8) (k : Int) (hB : isB m ((i : Int) + 1) = true) (hk : ¬ k < 0) (hf : ¬ m.a - m.n i < k) :
    Calls Try.prog 9 #[.pointer (some ⟨b, 0, none⟩), .int .i64 ((i : Int) + 1), .int .i64 k] w fun e w' => e = .returned (.int .i64 0) ∧ At b w w' ∧ MsAt w' b { m with n := upd m.n i (m.n i + k) } := by
  have cp := h.cp hi
  have cn := h.cn hi
  have hX := Bx.new h (m.p i) (m.n i)
  have cH := has_any h ((i : Int) + 1)
  rw [hB] at cH
  have n1 := ok.n1 i
  have n2 := ok.n2 i
  have a2 := ok.a2
  go_enter Try.func9, Try.ntmps9
  go_wp2_with fail
  refine cH.mono ?_
  rintro e w' ⟨rfl, rfl⟩
  go_wp2_with fail
  generalize hWW : w'.alloc (.cells #[.int .i64 (m.p i), .int .i64 (m.n i)] 48) = W at hX ⊢
  generalize hBB : w'.heap.size = B at hX ⊢
  clear cp cn hWW hBB cH
  have c2 := hX.ms.c2
  have b1 := hX.b1
  go_quiet (fail)
  generalize hWW : W.drewN _ = W1
  replace hX : Bx w' W1 b B m (m.p i) (m.n i) := by rw [← hWW]; exact hX.drewN _
  clear c2 b1 hWW
  have b1 := hX.b1
  have f1 := hX.fb 1
  go_wp2_with fail
  replace hX := hX.set1 (m.n i + k)
  generalize hWW : W1.setCell ⟨B, 1, none⟩ (.int .i64 (m.n i + k)) = W2 at hX ⊢
  clear b1 f1 hWW
  have b0 := hX.b0
  have b1 := hX.b1
  have cp := hX.ms.cp hi
  have cn := hX.ms.cn hi
  have fp := hX.ms.fz (5 + i * 2)
  have fn := hX.ms.fz (5 + i * 2 + 1)
  have hM := hX.ms
  have hV := hX.mv
  have hN := hX.ne
  clear hX
  have hE := (hM.setp hi (m.p i)).setn hi (m.n i + k)
  go_region
  all_goals go_wp2_with fail
  all_goals go_ret
  rw [upd_id] at hE
  exact ⟨rfl, (((hV.mono (F' := fun k => k = b) (fun _ e => e.elim)).setCell (.inl rfl) _).setCell (.inl rfl) _).drew, hE⟩
theorem acts_any {w : World} {b : Nat} {m : Ms} (h : MsAt w b m) (ok : m.Ok) (x k : Int) :
    Calls Try.prog 9 #[.pointer (some ⟨b, 0, none⟩), .int .i64 x, .int .i64 k] w fun e w' => e = .returned (.int .i64 (actE m x k)) ∧ At b w w' ∧ MsAt w' b (actM m x k) := by
  have hq : ∀ {w' : World} {e : Int}, actE m x k = e → e ≠ 0 → Qt w w' → At b w w' ∧ MsAt w' b (actM m x k) := by
    intro w' e he hne hv
    refine ⟨hv.mono (fun _ e => e.elim), ?_⟩
    unfold actM
    rw [if_neg (by rw [he]; exact hne)]
    exact h.mv hv (fun e => e)
  by_cases hB : isB m x = true
  · obtain ⟨i, hi, rfl, hc⟩ := client ok hB
    by_cases hk : k < 0
    · have hE : actE m ((i : Int) + 1) k = 1 := by unfold actE; rw [if_pos (.inr hk)]
      refine (acts_neg h _ k hB hk).mono fun e w' ⟨he, hv⟩ => ⟨by rw [he, hE], hq hE (by decide) hv⟩
    · by_cases hf : m.a - m.n i < k
      · have hE : actE m ((i : Int) + 1) k = 220 := by
          unfold actE
          rw [if_neg (by rw [hB]; simp; omega), toNat1, if_pos hf]
        refine (acts_far h ok i hi k hB hk hf).mono fun e w' ⟨he, hv⟩ => ⟨by rw [he, hE], hq hE (by decide) hv⟩
      · have hE : actE m ((i : Int) + 1) k = 0 := by
          unfold actE
          rw [if_neg (by rw [hB]; simp; omega), toNat1, if_neg hf]
        refine (acts_ok h ok i hi k hB hk hf).mono fun e w' ⟨he, hv, hm⟩ => ⟨by rw [he, hE], hv, ?_⟩
        unfold actM
        rw [if_pos hE, toNat1]
        exact hm
  · have hB' : isB m x = false := by simpa using hB
    have hE : actE m x k = 1 := by unfold actE; rw [if_pos (.inl hB')]
    exact (acts_no h x k hB').mono fun e w' ⟨he, hv⟩ => ⟨by rw [he, hE], hq hE (by decide) hv⟩
theorem actM_ok {m : Ms} (ok : m.Ok) (x k : Int) : (actM m x k).Ok := by
  unfold actM
  by_cases hE : actE m x k = 0
  · rw [if_pos hE]
    unfold actE at hE
    by_cases h1 : isB m x = false ∨ k < 0
    · rw [if_pos h1] at hE; cases hE
    · rw [if_neg h1] at hE
      by_cases h2 : m.a - m.n (x - 1).toNat < k
      · rw [if_pos h2] at hE; cases hE
      · refine ⟨ok.c1, ok.c2, ok.s1, ok.s2, ok.a1, ok.a2, ok.l1, ok.l2, ok.t1, ok.t2, ok.p1, ok.p2, fun i => ?_, fun i => ?_⟩
        · have := ok.n1 (x - 1).toNat
          have := ok.n1 i
          show 0 ≤ upd _ _ _ i
          unfold upd
          split <;> omega
        · have := ok.n2 i
          show upd _ _ _ i ≤ m.a
          unfold upd
          split <;> omega
  · rw [if_neg hE]; exact ok
end Go.Proofs.Ytdanedibjccldaa

/-
  Plan and Drop.
-/
namespace Go.Proofs.Ytdanedibjccldaa
open Go.RowKit

/-- What Plan (d = 1) and Drop (d = -1) tell, and what is there then. -/
def plnE (m : Ms) (x d : Int) : Int := if isB m x = false then 1 else if m.p (x - 1).toNat + d < 0 ∨ m.s < m.p (x - 1).toNat + d then 222 else 0
def plnM (m : Ms) (x d : Int) : Ms := if plnE m x d = 0 then { m with p := upd m.p (x - 1).toNat (m.p (x - 1).toNat + d) } else m

theorem plan_no {w : World} {b : Nat} {m : Ms} (h : MsAt w b m) (x d : Int) (hB : isB m x = false) :
    Calls Try.prog 24 #[.pointer (some ⟨b, 0, none⟩), .int .i64 x, .int .i64 d] w fun e w' => e = .returned (.int .i64 1) ∧ Qt w w' := by
  have cH := has_any h x
  rw [hB] at cH
  go_enter Try.func24, Try.ntmps24
  go_wp2_with fail
  refine cH.mono ?_
  rintro e w' ⟨rfl, rfl⟩
  go_wp2_with fail
  go_ret
  exact ⟨rfl, Mv.refl _ _⟩
theorem fits_b {n lo hi : Int} {b : Bool} (hb : inB n lo hi = b) (w : World) :
    Calls Try.prog 20 #[.int .i64 n, .int .i64 lo, .int .i64 hi] w fun e w' => e = .returned (.bool b) ∧ w' = w := hb ▸ fits_any n lo hi w
theorem plan_far {w : World} {b : Nat} {m : Ms} (h : MsAt w b m) (ok : m.Ok) (i : Nat) (hi : i < 8) (d : Int) (hd1 : -1 ≤ d) (hd2 : d ≤ 1) (hB : isB m ((i : Int) + 1) = true) (hf : inB (m.p i + d) 0 m.s = false) :
    Calls Try.prog 24 #[.pointer (some ⟨b, 0, none⟩), .int .i64 ((i : Int) + 1), .int .i64 d] w fun e w' => e = .returned (.int .i64 222) ∧ Qt w w' := by
  have cp := h.cp hi
  have cn := h.cn hi
  have hX := Bx.new h (m.p i) (m.n i)
  have cH := has_any h ((i : Int) + 1)
  rw [hB] at cH
  have p1 := ok.p1 i
  have p2 := ok.p2 i
  have s2 := ok.s2
  go_enter Try.func24, Try.ntmps24
  go_wp2_with fail
  refine cH.mono ?_
  rintro e w' ⟨rfl, rfl⟩
  go_upto_region 4 with fail
  generalize hWW : w'.alloc (.cells #[.int .i64 (m.p i), .int .i64 (m.n i)] 48) = W at hX ⊢
  generalize hBB : w'.heap.size = B at hX ⊢
  clear cp cn hWW hBB cH
  have b0 := hX.b0
  have f0 := hX.fb 0
  go_wp2_with fail
  replace hX := hX.set0 (m.p i + d)
  generalize hWW : W.setCell ⟨B, 0, none⟩ (.int .i64 (m.p i + d)) = W2 at hX ⊢
  clear b0 f0 hWW
  have b0 := hX.b0
  have c1 := hX.ms.c1
  go_quiet ((go_at_call 20; refine Calls.quiet_of_same (fits_b hf _)))
  go_wp2_with fail
  go_ret
  exact ⟨rfl, hX.mv.drewN _⟩
theorem plan_ok {w : World} {b : Nat} {m : Ms} (h : MsAt w b m) (ok : m.Ok) (i : Nat) (hi : i < 8) (d : Int) (hd1 : -1 ≤ d) (hd2 : d ≤ 1) (hB : isB m ((i : Int) + 1) = true) (hf : inB (m.p i + d) 0 m.s = true) :
    Calls Try.prog 24 #[.pointer (some ⟨b, 0, none⟩), .int .i64 ((i : Int) + 1), .int .i64 d] w fun e w' => e = .returned (.int .i64 0) ∧ At b w w' ∧ MsAt w' b { m with p := upd m.p i (m.p i + d) } := by
  have cp := h.cp hi
  have cn := h.cn hi
  have hX := Bx.new h (m.p i) (m.n i)
  have cH := has_any h ((i : Int) + 1)
  rw [hB] at cH
  have p1 := ok.p1 i
  have p2 := ok.p2 i
  have s2 := ok.s2
  go_enter Try.func24, Try.ntmps24
  go_wp2_with fail
  refine cH.mono ?_
  rintro e w' ⟨rfl, rfl⟩
  go_upto_region 4 with fail
  generalize hWW : w'.alloc (.cells #[.int .i64 (m.p i), .int .i64 (m.n i)] 48) = W at hX ⊢
  generalize hBB : w'.heap.size = B at hX ⊢
  clear cp cn hWW hBB cH
  have b0 := hX.b0
  have f0 := hX.fb 0
  go_wp2_with fail
  replace hX := hX.set0 (m.p i + d)
  generalize hWW : W.setCell ⟨B, 0, none⟩ (.int .i64 (m.p i + d)) = W2 at hX ⊢
  clear b0 f0 hWW
  have b0 := hX.b0
  have c1 := hX.ms.c1
  go_quiet ((go_at_call 20; refine Calls.quiet_of_same (fits_b hf _)))
  generalize hWW : W2.drewN _ = W1
  replace hX : Bx w' W1 b B m (m.p i + d) (m.n i) := by rw [← hWW]; exact hX.drewN _
  clear c1 b0 hWW
  have b0 := hX.b0
  have b1 := hX.b1
  have cp := hX.ms.cp hi
  have cn := hX.ms.cn hi
  have fp := hX.ms.fz (5 + i * 2)
  have fn := hX.ms.fz (5 + i * 2 + 1)
  have hM := hX.ms
  have hV := hX.mv
  have hN := hX.ne
  clear hX
  have hE := (hM.setp hi (m.p i + d)).setn hi (m.n i)
  go_wp2_with fail
  go_region
  all_goals go_wp2_with fail
  all_goals go_ret
  rw [show upd _ _ _ = _ from upd_id m.n i] at hE
  exact ⟨rfl, (((hV.mono (F' := fun k => k = b) (fun _ e => e.elim)).setCell (.inl rfl) _).setCell (.inl rfl) _).drew, hE⟩
theorem plan_any {w : World} {b : Nat} {m : Ms} (h : MsAt w b m) (ok : m.Ok) (x d : Int) (hd1 : -1 ≤ d) (hd2 : d ≤ 1) :
    Calls Try.prog 24 #[.pointer (some ⟨b, 0, none⟩), .int .i64 x, .int .i64 d] w fun e w' => e = .returned (.int .i64 (plnE m x d)) ∧ At b w w' ∧ MsAt w' b (plnM m x d) := by
  have hq : ∀ {w' : World} {e : Int}, plnE m x d = e → e ≠ 0 → Qt w w' → At b w w' ∧ MsAt w' b (plnM m x d) := by
    intro w' e he hne hv
    refine ⟨hv.mono (fun _ e => e.elim), ?_⟩
    unfold plnM
    rw [if_neg (by rw [he]; exact hne)]
    exact h.mv hv (fun e => e)
  by_cases hB : isB m x = true
  · obtain ⟨i, hi, rfl, hc⟩ := client ok hB
    by_cases hf : inB (m.p i + d) 0 m.s = true
    · have hE : plnE m ((i : Int) + 1) d = 0 := by
        have := inB_iff.1 hf
        unfold plnE
        rw [if_neg (by rw [hB]; decide), toNat1, if_neg (by omega)]
      refine (plan_ok h ok i hi d hd1 hd2 hB hf).mono fun e w' ⟨he, hv, hm⟩ => ⟨by rw [he, hE], hv, ?_⟩
      unfold plnM
      rw [if_pos hE, toNat1]
      exact hm
    · have hf' : inB (m.p i + d) 0 m.s = false := by simpa using hf
      have hE : plnE m ((i : Int) + 1) d = 222 := by
        unfold plnE
        rw [inB_iff] at hf
        rw [if_neg (by rw [hB]; decide), toNat1, if_pos (by omega)]
      exact (plan_far h ok i hi d hd1 hd2 hB hf').mono fun e w' ⟨he, hv⟩ => ⟨by rw [he, hE], hq hE (by decide) hv⟩
  · have hB' : isB m x = false := by simpa using hB
    have hE : plnE m x d = 1 := by unfold plnE; rw [if_pos hB']
    exact (plan_no h x d hB').mono fun e w' ⟨he, hv⟩ => ⟨by rw [he, hE], hq hE (by decide) hv⟩
theorem Plan_any {w : World} {b : Nat} {m : Ms} (h : MsAt w b m) (ok : m.Ok) (x : Int) :
    Calls Try.prog 11 #[.pointer (some ⟨b, 0, none⟩), .int .i64 x] w fun e w' => e = .returned (.int .i64 (plnE m x 1)) ∧ At b w w' ∧ MsAt w' b (plnM m x 1) := by
  go_enter Try.func11, Try.ntmps11
  go_wp2_with fail
  refine (plan_any h ok x 1 (by omega) (by omega)).mono ?_
  rintro e w' ⟨rfl, h1, h2⟩
  go_wp2_with fail
  go_ret
  exact ⟨rfl, h1, h2⟩
theorem Drop_any {w : World} {b : Nat} {m : Ms} (h : MsAt w b m) (ok : m.Ok) (x : Int) :
    Calls Try.prog 13 #[.pointer (some ⟨b, 0, none⟩), .int .i64 x] w fun e w' => e = .returned (.int .i64 (plnE m x (-1))) ∧ At b w w' ∧ MsAt w' b (plnM m x (-1)) := by
  go_enter Try.func13, Try.ntmps13
  go_wp2_with fail
  refine (plan_any h ok x (-1) (by omega) (by omega)).mono ?_
  rintro e w' ⟨rfl, h1, h2⟩
  go_wp2_with fail
  go_ret
  exact ⟨rfl, h1, h2⟩
theorem plnM_ok {m : Ms} (ok : m.Ok) (x d : Int) : (plnM m x d).Ok := by
  unfold plnM
  by_cases hE : plnE m x d = 0
  · rw [if_pos hE]
    unfold plnE at hE
    by_cases h1 : isB m x = false
    · rw [if_pos h1] at hE; cases hE
    · rw [if_neg h1] at hE
      by_cases h2 : m.p (x - 1).toNat + d < 0 ∨ m.s < m.p (x - 1).toNat + d
      · rw [if_pos h2] at hE; cases hE
      · refine ⟨ok.c1, ok.c2, ok.s1, ok.s2, ok.a1, ok.a2, ok.l1, ok.l2, ok.t1, ok.t2, fun i => ?_, fun i => ?_, ok.n1, ok.n2⟩
        · have := ok.p1 i
          show 0 ≤ upd _ _ _ i
          unfold upd
          split <;> omega
        · have := ok.p2 i
          show upd _ _ _ i ≤ m.s
          unfold upd
          split <;> omega
  · rw [if_neg hE]; exact ok
end Go.Proofs.Ytdanedibjccldaa
