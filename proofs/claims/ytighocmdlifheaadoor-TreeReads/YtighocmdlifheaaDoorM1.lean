import Derived.Test.YtighocmdlifheaaDoorM0
/-
  Expressions in plain words: nodes with the places of their kids; how they lie in memory.
-/
namespace Go.Proofs.YtighocmdlifheaaDoor
open Go.RowKit

/-- What a node says itself. -/
structure Hd where
  k : Int
  o : Int
  t : Int
  n : Int
  f : Int
  x : ByteArray
  p : Int
/-- A node: itself, where its kids lie, with how much room, and its kids. -/
inductive Nd where
  | mk (h : Hd) (a : Option Addr) (c : Nat) (ks : List Nd)
namespace Nd
def h : Nd → Hd | .mk h _ _ _ => h
def a : Nd → Option Addr | .mk _ a _ _ => a
def c : Nd → Nat | .mk _ _ c _ => c
def ks : Nd → List Nd | .mk _ _ _ ks => ks
theorem ind {P : Nd → Prop} (H : ∀ h a c ks, (∀ k ∈ ks, P k) → P (.mk h a c ks)) : ∀ m, P m :=
  @Nd.rec P (fun ks => ∀ k ∈ ks, P k) (fun h a c ks ih => H h a c ks ih) (fun _ hk => by cases hk) (fun k ks h1 h2 x hx => by
    rcases List.mem_cons.1 hx with e | e
    · rw [e]; exact h1
    · exact h2 x e)
end Nd
def hdA (h : Hd) (a : Option Addr) (l c : Nat) : Array Value := #[.int .u8 h.k, .int .u8 h.o, .int .u8 h.t, .int .i64 h.n, .int .u8 h.f, .string h.x, .slice a l c, .int .i64 h.p]
def Nd.vals (m : Nd) : Array Value := hdA m.h m.a m.ks.length m.c
/-- Eight cells that hold a node. -/
structure NdAt (w : World) (b o : Nat) (m : Nd) : Prop where
  c0 : w.cell? ⟨b, o, none⟩ = some (.int .u8 m.h.k)
  c1 : w.cell? ⟨b, o + 1, none⟩ = some (.int .u8 m.h.o)
  c2 : w.cell? ⟨b, o + 2, none⟩ = some (.int .u8 m.h.t)
  c3 : w.cell? ⟨b, o + 3, none⟩ = some (.int .i64 m.h.n)
  c4 : w.cell? ⟨b, o + 4, none⟩ = some (.int .u8 m.h.f)
  c5 : w.cell? ⟨b, o + 5, none⟩ = some (.string m.h.x)
  c6 : w.cell? ⟨b, o + 6, none⟩ = some (.slice m.a m.ks.length m.c)
  c7 : w.cell? ⟨b, o + 7, none⟩ = some (.int .i64 m.h.p)
theorem NdAt.lt {w : World} {b o : Nat} {m : Nd} (h : NdAt w b o m) : b < w.heap.size := World.block_lt_of_cell? w _ h.c0
theorem NdAt.blk {w w' : World} {b o : Nat} {m : Nd} (h : NdAt w b o m) (k : w'.heap[b]? = w.heap[b]?) : NdAt w' b o m :=
  ⟨(World.cell?_of_block k).trans h.c0, (World.cell?_of_block k).trans h.c1, (World.cell?_of_block k).trans h.c2, (World.cell?_of_block k).trans h.c3, (World.cell?_of_block k).trans h.c4, (World.cell?_of_block k).trans h.c5, (World.cell?_of_block k).trans h.c6, (World.cell?_of_block k).trans h.c7⟩
theorem NdAt.on {w w' : World} {b o : Nat} {m : Nd} (h : NdAt w b o m) (k : Below w.heap.size w w') : NdAt w' b o m := h.blk (k.block b h.lt)
/-- What a node's numbers may be. -/
structure Rg (h : Hd) : Prop where
  k0 : 0 ≤ h.k
  k1 : h.k ≤ 255
  o0 : 0 ≤ h.o
  o1 : h.o ≤ 255
  t0 : 0 ≤ h.t
  t1 : h.t ≤ 255
  n0 : -9223372036854775808 ≤ h.n
  n1 : h.n ≤ 9223372036854775807
  f0 : 0 ≤ h.f
  f1 : h.f ≤ 255
  p0 : -9223372036854775808 ≤ h.p
  p1 : h.p ≤ 9223372036854775807
  x1 : h.x.size ≤ 140737488355328
/-- An expression that lies in memory. -/
inductive Lies (w : World) : Nd → Prop
  | mk (h : Hd) (a : Option Addr) (c : Nat) (ks : List Nd) (hr : Rg h) (hc : ks.length ≤ c) (hm : c ≤ 9223372036854775807)
      (hk : ∀ i (hi : i < ks.length), ∃ b o, a = some ⟨b, o, none⟩ ∧ NdAt w b (o + i * 8) ks[i]) (hs : ∀ k ∈ ks, Lies w k) : Lies w (.mk h a c ks)
theorem Lies.rg {w : World} {m : Nd} (h : Lies w m) : Rg m.h := by cases h; assumption
theorem Lies.cap {w : World} {m : Nd} (h : Lies w m) : m.ks.length ≤ m.c := by cases h; assumption
theorem Lies.max {w : World} {m : Nd} (h : Lies w m) : m.c ≤ 9223372036854775807 := by cases h; assumption
theorem Lies.kid {w : World} {m : Nd} (h : Lies w m) (i : Nat) (hi : i < m.ks.length) : ∃ b o, m.a = some ⟨b, o, none⟩ ∧ NdAt w b (o + i * 8) m.ks[i] := by cases h with | mk h a c ks hr hc hm hk hs => exact hk i hi
theorem Lies.sub {w : World} {m : Nd} (h : Lies w m) (k : Nd) (hk : k ∈ m.ks) : Lies w k := by cases h with | mk h a c ks hr hc hm hk' hs => exact hs k hk
theorem Lies.blk {w w' : World} : ∀ {m : Nd}, Lies w m → (∀ b, b < w.heap.size → w'.heap[b]? = w.heap[b]?) → Lies w' m := by
  intro m h k
  induction h with
  | mk h a c ks hr hc hm hk hs ih =>
    refine .mk h a c ks hr hc hm (fun i hi => ?_) ih
    obtain ⟨b, o, e, hat⟩ := hk i hi
    exact ⟨b, o, e, hat.blk (k b hat.lt)⟩
theorem Lies.on {w w' : World} {m : Nd} (h : Lies w m) (k : Below w.heap.size w w') : Lies w' m := h.blk k.block
theorem Lies.cut {w : World} {h : Hd} {a : Option Addr} {c d : Nat} {ks : List Nd} (l : Lies w (.mk h a c ks)) (hd : ks.length ≤ d) (hm : d ≤ 9223372036854775807) : Lies w (.mk h a d ks) := by
  cases l with | mk _ _ _ _ hr hc hm' hk hs => exact .mk h a d ks hr hd hm hk hs
theorem Lies.hid {w : World} {m : Nd} (h : Lies w m) : Hid (Lies w m) := h
/-- A block that holds a node by itself. -/
def NdH (w : World) (b : Nat) (m : Nd) : Prop := w.heap[b]? = some (.cells m.vals 28 (0, 0))
theorem NdH.lt {w : World} {b : Nat} {m : Nd} (h : NdH w b m) : b < w.heap.size := (Array.getElem?_eq_some_iff.1 h).1
theorem NdH.at {w : World} {b : Nat} {m : Nd} (h : NdH w b m) : NdAt w b 0 m := ⟨cell_of h 0, cell_of h 1, cell_of h 2, cell_of h 3, cell_of h 4, cell_of h 5, cell_of h 6, cell_of h 7⟩
theorem NdH.on {w w' : World} {b : Nat} {m : Nd} (h : NdH w b m) (k : Below w.heap.size w w') : NdH w' b m := (k.block b h.lt).trans h
theorem NdH.hid {w : World} {b : Nat} {m : Nd} (h : NdH w b m) : Hid (NdH w b m) := h
theorem NdAt.hid {w : World} {b o : Nat} {m : Nd} (h : NdAt w b o m) : Hid (NdAt w b o m) := h
mutual
/-- How many nodes. -/
def size : Nd → Nat
  | .mk _ _ _ ks => 1 + sizes ks
def sizes : List Nd → Nat
  | [] => 0
  | k :: ks => size k + sizes ks
end
mutual
/-- All nodes, a node ahead of its kids. -/
def pre : Nd → List Nd
  | .mk h a c ks => .mk h a c ks :: pres ks
def pres : List Nd → List Nd
  | [] => []
  | k :: ks => pre k ++ pres ks
end
theorem size_pre : ∀ m, (pre m).length = size m := by
  refine Nd.ind fun h a c ks ih => ?_
  have : ∀ l : List Nd, (∀ k ∈ l, (pre k).length = size k) → (pres l).length = sizes l := by
    intro l
    induction l with
    | nil => intro _; rfl
    | cons k l ihl => intro hl; simp only [pres, sizes, List.length_append]; rw [hl k (by simp), ihl fun x hx => hl x (by simp [hx])]
  simp only [pre, size, List.length_cons]
  rw [this ks ih]; omega
def numB (t : Int) : Bool := decide (1 ≤ t ∧ t ≤ 4)
def litB (t n : Int) : Bool := if t = 5 then decide (0 ≤ n ∧ n ≤ 1) else if t = 6 then decide (1 ≤ n ∧ n ≤ 2) else numB t && decide (0 ≤ n)
/-- What a node says, with nothing but what its kind names. -/
def nm (h : Hd) : Hd :=
  if h.k = 1 then ⟨h.k, 0, h.t, h.n, 0, ⟨#[]⟩, 0⟩ else
  if h.k = 9 then ⟨h.k, 0, h.t, 0, 0, ⟨#[]⟩, 0⟩ else
  if h.k = 2 then ⟨h.k, 0, 0, 0, 0, h.x, 0⟩ else
  if h.k = 3 ∨ h.k = 4 then ⟨h.k, 0, 0, 0, h.f, ⟨#[]⟩, 0⟩ else
  if h.k = 5 ∨ h.k = 6 ∨ h.k = 8 then ⟨h.k, h.o, 0, 0, 0, ⟨#[]⟩, 0⟩ else ⟨h.k, 0, 0, 0, 0, ⟨#[]⟩, 0⟩
/-- Are they as they may be, with so many kids? -/
def fitB (h : Hd) (l : Nat) : Bool :=
  if h.k = 1 then decide (l = 0) && litB h.t h.n else
  if h.k = 2 then decide (l = 0) && nameB h.x else
  if h.k = 3 then decide (l = 0) && decide (1 ≤ h.f ∧ h.f ≤ 6) else
  if h.k = 4 then decide (l = 0) && decide (1 ≤ h.f ∧ h.f ≤ 3) else
  if h.k = 5 then decide (l = 1) && decide (1 ≤ h.o ∧ h.o ≤ 2) else
  if h.k = 6 then decide (l = 2) && decide (6 ≤ h.o ∧ h.o ≤ 18) else
  if h.k = 7 then decide (l = 3) else
  if h.k = 8 then (decide (l = 1) && decide (h.o = 3)) || (decide (l = 2) && decide (4 ≤ h.o ∧ h.o ≤ 5)) else
  if h.k = 9 then decide (l = 1) && numB h.t else false
def selfA (h : Hd) : Array Value := #[.int .u8 h.k, .int .u8 h.o, .int .u8 h.t, .int .i64 h.n, .int .u8 h.f, .string h.x]
/-- Are two nodes the same, but for kids and places? -/
def alike (g h : Hd) : Bool := decide (g.k = h.k) && (decide (g.o = h.o) && (decide (g.t = h.t) && (decide (g.n = h.n) && (decide (g.f = h.f) && decide (g.x = h.x)))))
def oneH (h : Hd) (l : Nat) : Bool := alike h (nm h) && fitB h l
mutual
/-- Is each node one of the table's? -/
def formB : Nd → Bool
  | .mk h _ _ ks => oneH h ks.length && formsB ks
def formsB : List Nd → Bool
  | [] => true
  | k :: ks => formB k && formsB ks
end
def lvO (o : Int) : Int := if o = 18 then 2 else if o = 17 then 3 else if o = 6 ∨ o = 7 then 5 else if o = 8 ∨ o = 9 ∨ o = 10 then 6 else 4
/-- The level of a node. -/
def lvl (h : Hd) : Int := if h.k = 7 then 1 else if h.k = 6 then lvO h.o else if h.k = 5 then 7 else 8
/-- The level that a kid's place asks for. -/
def ask (h : Hd) (i : Nat) : Int := if h.k = 7 then (if i = 0 then 2 else 1) else if h.k = 6 then (if lvl h = 4 then 5 else lvl h + i) else if h.k = 5 then 7 else 1
def dwn (h : Hd) (i : Nat) : Bool := if h.k = 6 then false else if h.k = 7 then decide (0 < i) else true
def inc (b : Bool) (d : Nat) : Nat := if b = true then d + 1 else d
mutual
/-- How deep an expression goes. -/
def dep : Nd → Nat
  | .mk h _ _ ks => deps h 0 ks
def deps (h : Hd) : Nat → List Nd → Nat
  | _, [] => 0
  | i, k :: ks => Nat.max (inc (dwn h i) (inc (decide (lvl k.h < ask h i)) (dep k))) (deps h (i + 1) ks)
end
mutual
/-- Are two expressions the same, but for places? -/
def sameB : Nd → Nd → Bool
  | .mk g _ _ js, m => alike g m.h && (decide (js.length = m.ks.length) && samesB js m.ks)
def samesB : List Nd → List Nd → Bool
  | [], _ => true
  | _ :: _, [] => true
  | j :: js, k :: ks => sameB j k && samesB js ks
end
theorem nth_mem {ks : List Nd} {i : Nat} (hi : i < ks.length) : ks[i] ∈ ks := List.getElem_mem hi
theorem drop_nth {ks : List Nd} {i : Nat} (hi : i < ks.length) : ks.drop i = ks[i] :: ks.drop (i + 1) := List.drop_eq_getElem_cons hi
end Go.Proofs.YtighocmdlifheaaDoor

/-
  What a node says itself: selfOf, named; numbers within bounds; isLiteral.
-/
namespace Go.Proofs.YtighocmdlifheaaDoor
open Go.RowKit

/-- A block that holds what a node says. -/
def SfH (w : World) (b : Nat) (h : Hd) : Prop := w.heap[b]? = some (.cells (selfA h) 95 (0, 0))
theorem SfH.lt {w : World} {b : Nat} {h : Hd} (k : SfH w b h) : b < w.heap.size := (Array.getElem?_eq_some_iff.1 k).1
theorem SfH.on {w w' : World} {b : Nat} {h : Hd} (k : SfH w b h) (j : Below w.heap.size w w') : SfH w' b h := (j.block b k.lt).trans k
theorem SfH.hid {w : World} {b : Nat} {h : Hd} (k : SfH w b h) : Hid (SfH w b h) := k
theorem SfH.cells {w : World} {b : Nat} {h : Hd} (k : SfH w b h) : w.cell? ⟨b, 0, none⟩ = some (.int .u8 h.k) ∧ w.cell? ⟨b, 1, none⟩ = some (.int .u8 h.o) ∧ w.cell? ⟨b, 2, none⟩ = some (.int .u8 h.t) ∧ w.cell? ⟨b, 3, none⟩ = some (.int .i64 h.n) ∧ w.cell? ⟨b, 4, none⟩ = some (.int .u8 h.f) ∧ w.cell? ⟨b, 5, none⟩ = some (.string h.x) :=
  ⟨cell_of k 0, cell_of k 1, cell_of k 2, cell_of k 3, cell_of k 4, cell_of k 5⟩
theorem SfH.froz {w : World} {b : Nat} {h : Hd} (k : SfH w b h) : w.frozen? ⟨b, 0, none⟩ = false ∧ w.frozen? ⟨b, 1, none⟩ = false ∧ w.frozen? ⟨b, 2, none⟩ = false ∧ w.frozen? ⟨b, 3, none⟩ = false ∧ w.frozen? ⟨b, 4, none⟩ = false ∧ w.frozen? ⟨b, 5, none⟩ = false :=
  ⟨frozen_of k 0, frozen_of k 1, frozen_of k 2, frozen_of k 3, frozen_of k 4, frozen_of k 5⟩
theorem put6 {w : World} {b : Nat} {cs : Array Value} (h : w.heap[b]? = some (.cells cs 95 (0, 0))) (hs : cs.size = 6) (v0 v1 v2 v3 v4 v5 : Value) :
    ((((((w.setCell ⟨b, 0, none⟩ v0).setCell ⟨b, 1, none⟩ v1).setCell ⟨b, 2, none⟩ v2).setCell ⟨b, 3, none⟩ v3).setCell ⟨b, 4, none⟩ v4).setCell ⟨b, 5, none⟩ v5).heap[b]? = some (.cells #[v0, v1, v2, v3, v4, v5] 95 (0, 0)) := by
  obtain ⟨a0, a1, a2, a3, a4, a5, e⟩ : ∃ a0 a1 a2 a3 a4 a5, cs = #[a0, a1, a2, a3, a4, a5] := ⟨cs[0], cs[1], cs[2], cs[3], cs[4], cs[5], by
    apply Array.ext
    · simpa using hs
    · intro i h1 h2
      have : i < 6 := by omega
      match i, this with
      | 0, _ => rfl
      | 1, _ => rfl
      | 2, _ => rfl
      | 3, _ => rfl
      | 4, _ => rfl
      | 5, _ => rfl⟩
  subst e
  exact heap_set _ (heap_set _ (heap_set _ (heap_set _ (heap_set _ (heap_set _ h)))))
theorem belowput6 {B : Nat} {w v : World} {b : Nat} (h : Below B w v) (hb : B ≤ b) (v0 v1 v2 v3 v4 v5 : Value) : Below B w ((((((v.setCell ⟨b, 0, none⟩ v0).setCell ⟨b, 1, none⟩ v1).setCell ⟨b, 2, none⟩ v2).setCell ⟨b, 3, none⟩ v3).setCell ⟨b, 4, none⟩ v4).setCell ⟨b, 5, none⟩ v5) :=
  (((((h.setCell (p := ⟨b, 0, none⟩) hb v0).setCell (p := ⟨b, 1, none⟩) hb v1).setCell (p := ⟨b, 2, none⟩) hb v2).setCell (p := ⟨b, 3, none⟩) hb v3).setCell (p := ⟨b, 4, none⟩) hb v4).setCell (p := ⟨b, 5, none⟩) hb v5
def hdN : Hd := ⟨0, 0, 0, 0, 0, ⟨#[]⟩, 0⟩
set_option maxRecDepth 100000 in
theorem selfOf_any (h : Hd) (a : Option Addr) (l c : Nat) (w : World) : Calls Tryd.prog 45 #[.agg (hdA h a l c)] w fun e w' => e = .returned (.agg (selfA h)) ∧ Below w.heap.size w w' := by
  obtain ⟨W, eW⟩ : ∃ W, (w.alloc (.cells (hdA h a l c) 28)).alloc (.cells #[.int .u8 0, .int .u8 0, .int .u8 0, .int .i64 0, .int .u8 0, .string ⟨#[]⟩] 95) = W := ⟨_, rfl⟩
  have HB : Hid (Below w.heap.size w W) := by rw [← eW]; exact below_two _ _ _
  have HN : Hid (W.heap[w.heap.size]? = some (.cells (hdA h a l c) 28 (0, 0))) := by show _ = _; rw [← eW]; exact heap_old (heap_new _ _) (by rw [size_alloc]; omega)
  have HS : Hid (SfH W (w.heap.size + 1) hdN) := by show SfH _ _ _; rw [← eW, ← size_alloc w (.cells (hdA h a l c) 28)]; exact heap_new _ _
  obtain ⟨y0, y1, y2, y3, y4, y5⟩ : W.cell? ⟨w.heap.size, 0, none⟩ = some (.int .u8 h.k) ∧ W.cell? ⟨w.heap.size, 1, none⟩ = some (.int .u8 h.o) ∧ W.cell? ⟨w.heap.size, 2, none⟩ = some (.int .u8 h.t) ∧ W.cell? ⟨w.heap.size, 3, none⟩ = some (.int .i64 h.n) ∧ W.cell? ⟨w.heap.size, 4, none⟩ = some (.int .u8 h.f) ∧ W.cell? ⟨w.heap.size, 5, none⟩ = some (.string h.x) :=
    ⟨cell_of HN.out 0, cell_of HN.out 1, cell_of HN.out 2, cell_of HN.out 3, cell_of HN.out 4, cell_of HN.out 5⟩
  obtain ⟨z0, z1, z2, z3, z4, z5⟩ := HS.out.cells
  obtain ⟨f0, f1, f2, f3, f4, f5⟩ := HS.out.froz
  unfold hdA at eW ⊢
  go_enter Tryd.func45, Tryd.ntmps45
  go_wp2
  exact bodyPost_ret (results_cell_row rfl _ _ (w.heap.size + 1) 95 (selfA h) (0, 0) _ rfl (put6 HS.out rfl _ _ _ _ _ _) Tryd.underlying95 rfl (by kernel_rfl)) rfl ⟨rfl, belowput6 HB.out (by omega) _ _ _ _ _ _⟩
end Go.Proofs.YtighocmdlifheaaDoor

/-
  named: what a node says, with nothing but what its kind names.
-/
namespace Go.Proofs.YtighocmdlifheaaDoor
open Go.RowKit
theorem mid3 (w : World) (A B C : Obj) : (((w.alloc A).alloc B).alloc C).heap[w.heap.size + 1]? = some B := by
  refine heap_old ?_ (by rw [size_alloc, size_alloc]; omega)
  rw [← size_alloc w A]; exact heap_new _ _
theorem below3 (w : World) (A B C : Obj) : Below w.heap.size w (((w.alloc A).alloc B).alloc C) := (below_two _ _ _).alloc (by rw [size_alloc, size_alloc]; omega) _
set_option maxRecDepth 100000 in
set_option maxHeartbeats 2000000 in
theorem nm_1 (o t n f : Int) (x : ByteArray) (w : World) : Calls Tryd.prog 68 #[.agg #[.int .u8 1, .int .u8 o, .int .u8 t, .int .i64 n, .int .u8 f, .string x]] w fun e w' => e = .returned (.agg #[.int .u8 1, .int .u8 0, .int .u8 t, .int .i64 n, .int .u8 0, .string ⟨#[]⟩]) ∧ Below w.heap.size w w' := by
  go_enter Tryd.func68, Tryd.ntmps68
  go_wp2_with fail
  exact bodyPost_ret (results_cell_row rfl _ _ (w.heap.size + 1) 95 #[.int .u8 1, .int .u8 0, .int .u8 t, .int .i64 n, .int .u8 0, .string ⟨#[]⟩] (0, 0) _ rfl (mid3 _ _ _ _) Tryd.underlying95 rfl (by kernel_rfl)) rfl ⟨rfl, below3 _ _ _ _⟩
set_option maxRecDepth 100000 in
set_option maxHeartbeats 2000000 in
theorem nm_9 (o t n f : Int) (x : ByteArray) (w : World) : Calls Tryd.prog 68 #[.agg #[.int .u8 9, .int .u8 o, .int .u8 t, .int .i64 n, .int .u8 f, .string x]] w fun e w' => e = .returned (.agg #[.int .u8 9, .int .u8 0, .int .u8 t, .int .i64 0, .int .u8 0, .string ⟨#[]⟩]) ∧ Below w.heap.size w w' := by
  go_enter Tryd.func68, Tryd.ntmps68
  go_wp2_with fail
  exact bodyPost_ret (results_cell_row rfl _ _ (w.heap.size + 1) 95 #[.int .u8 9, .int .u8 0, .int .u8 t, .int .i64 0, .int .u8 0, .string ⟨#[]⟩] (0, 0) _ rfl (mid3 _ _ _ _) Tryd.underlying95 rfl (by kernel_rfl)) rfl ⟨rfl, below3 _ _ _ _⟩
set_option maxRecDepth 100000 in
set_option maxHeartbeats 2000000 in
theorem nm_2 (o t n f : Int) (x : ByteArray) (w : World) : Calls Tryd.prog 68 #[.agg #[.int .u8 2, .int .u8 o, .int .u8 t, .int .i64 n, .int .u8 f, .string x]] w fun e w' => e = .returned (.agg #[.int .u8 2, .int .u8 0, .int .u8 0, .int .i64 0, .int .u8 0, .string x]) ∧ Below w.heap.size w w' := by
  go_enter Tryd.func68, Tryd.ntmps68
  go_wp2_with fail
  exact bodyPost_ret (results_cell_row rfl _ _ (w.heap.size + 1) 95 #[.int .u8 2, .int .u8 0, .int .u8 0, .int .i64 0, .int .u8 0, .string x] (0, 0) _ rfl (mid3 _ _ _ _) Tryd.underlying95 rfl (by kernel_rfl)) rfl ⟨rfl, below3 _ _ _ _⟩
set_option maxRecDepth 100000 in
set_option maxHeartbeats 2000000 in
theorem nm_3 (o t n f : Int) (x : ByteArray) (w : World) : Calls Tryd.prog 68 #[.agg #[.int .u8 3, .int .u8 o, .int .u8 t, .int .i64 n, .int .u8 f, .string x]] w fun e w' => e = .returned (.agg #[.int .u8 3, .int .u8 0, .int .u8 0, .int .i64 0, .int .u8 f, .string ⟨#[]⟩]) ∧ Below w.heap.size w w' := by
  go_enter Tryd.func68, Tryd.ntmps68
  go_wp2_with fail
  exact bodyPost_ret (results_cell_row rfl _ _ (w.heap.size + 1) 95 #[.int .u8 3, .int .u8 0, .int .u8 0, .int .i64 0, .int .u8 f, .string ⟨#[]⟩] (0, 0) _ rfl (mid3 _ _ _ _) Tryd.underlying95 rfl (by kernel_rfl)) rfl ⟨rfl, below3 _ _ _ _⟩
set_option maxRecDepth 100000 in
set_option maxHeartbeats 2000000 in
theorem nm_4 (o t n f : Int) (x : ByteArray) (w : World) : Calls Tryd.prog 68 #[.agg #[.int .u8 4, .int .u8 o, .int .u8 t, .int .i64 n, .int .u8 f, .string x]] w fun e w' => e = .returned (.agg #[.int .u8 4, .int .u8 0, .int .u8 0, .int .i64 0, .int .u8 f, .string ⟨#[]⟩]) ∧ Below w.heap.size w w' := by
  go_enter Tryd.func68, Tryd.ntmps68
  go_wp2_with fail
  exact bodyPost_ret (results_cell_row rfl _ _ (w.heap.size + 1) 95 #[.int .u8 4, .int .u8 0, .int .u8 0, .int .i64 0, .int .u8 f, .string ⟨#[]⟩] (0, 0) _ rfl (mid3 _ _ _ _) Tryd.underlying95 rfl (by kernel_rfl)) rfl ⟨rfl, below3 _ _ _ _⟩
set_option maxRecDepth 100000 in
set_option maxHeartbeats 2000000 in
theorem nm_5 (o t n f : Int) (x : ByteArray) (w : World) : Calls Tryd.prog 68 #[.agg #[.int .u8 5, .int .u8 o, .int .u8 t, .int .i64 n, .int .u8 f, .string x]] w fun e w' => e = .returned (.agg #[.int .u8 5, .int .u8 o, .int .u8 0, .int .i64 0, .int .u8 0, .string ⟨#[]⟩]) ∧ Below w.heap.size w w' := by
  go_enter Tryd.func68, Tryd.ntmps68
  go_wp2_with fail
  exact bodyPost_ret (results_cell_row rfl _ _ (w.heap.size + 1) 95 #[.int .u8 5, .int .u8 o, .int .u8 0, .int .i64 0, .int .u8 0, .string ⟨#[]⟩] (0, 0) _ rfl (mid3 _ _ _ _) Tryd.underlying95 rfl (by kernel_rfl)) rfl ⟨rfl, below3 _ _ _ _⟩
set_option maxRecDepth 100000 in
set_option maxHeartbeats 2000000 in
theorem nm_6 (o t n f : Int) (x : ByteArray) (w : World) : Calls Tryd.prog 68 #[.agg #[.int .u8 6, .int .u8 o, .int .u8 t, .int .i64 n, .int .u8 f, .string x]] w fun e w' => e = .returned (.agg #[.int .u8 6, .int .u8 o, .int .u8 0, .int .i64 0, .int .u8 0, .string ⟨#[]⟩]) ∧ Below w.heap.size w w' := by
  go_enter Tryd.func68, Tryd.ntmps68
  go_wp2_with fail
  exact bodyPost_ret (results_cell_row rfl _ _ (w.heap.size + 1) 95 #[.int .u8 6, .int .u8 o, .int .u8 0, .int .i64 0, .int .u8 0, .string ⟨#[]⟩] (0, 0) _ rfl (mid3 _ _ _ _) Tryd.underlying95 rfl (by kernel_rfl)) rfl ⟨rfl, below3 _ _ _ _⟩
set_option maxRecDepth 100000 in
set_option maxHeartbeats 2000000 in
theorem nm_8 (o t n f : Int) (x : ByteArray) (w : World) : Calls Tryd.prog 68 #[.agg #[.int .u8 8, .int .u8 o, .int .u8 t, .int .i64 n, .int .u8 f, .string x]] w fun e w' => e = .returned (.agg #[.int .u8 8, .int .u8 o, .int .u8 0, .int .i64 0, .int .u8 0, .string ⟨#[]⟩]) ∧ Below w.heap.size w w' := by
  go_enter Tryd.func68, Tryd.ntmps68
  go_wp2_with fail
  exact bodyPost_ret (results_cell_row rfl _ _ (w.heap.size + 1) 95 #[.int .u8 8, .int .u8 o, .int .u8 0, .int .i64 0, .int .u8 0, .string ⟨#[]⟩] (0, 0) _ rfl (mid3 _ _ _ _) Tryd.underlying95 rfl (by kernel_rfl)) rfl ⟨rfl, below3 _ _ _ _⟩
set_option maxRecDepth 100000 in
set_option maxHeartbeats 2000000 in
theorem nm_z (k : Int) (e1 : (k == 1) = false) (e2 : (k == 2) = false) (e3 : (k == 3) = false) (e4 : (k == 4) = false) (e5 : (k == 5) = false) (e6 : (k == 6) = false) (e8 : (k == 8) = false) (e9 : (k == 9) = false) (o t n f : Int) (x : ByteArray) (w : World) : Calls Tryd.prog 68 #[.agg #[.int .u8 k, .int .u8 o, .int .u8 t, .int .i64 n, .int .u8 f, .string x]] w fun e w' => e = .returned (.agg #[.int .u8 k, .int .u8 0, .int .u8 0, .int .i64 0, .int .u8 0, .string ⟨#[]⟩]) ∧ Below w.heap.size w w' := by
  go_enter Tryd.func68, Tryd.ntmps68
  go_wp2_with fail
  exact bodyPost_ret (results_cell_row rfl _ _ (w.heap.size + 1) 95 #[.int .u8 k, .int .u8 0, .int .u8 0, .int .i64 0, .int .u8 0, .string ⟨#[]⟩] (0, 0) _ rfl (mid3 _ _ _ _) Tryd.underlying95 rfl (by kernel_rfl)) rfl ⟨rfl, below3 _ _ _ _⟩
theorem named_any (h : Hd) (w : World) : Calls Tryd.prog 68 #[.agg (selfA h)] w fun e w' => e = .returned (.agg (selfA (nm h))) ∧ Below w.heap.size w w' := by
  obtain ⟨k, o, t, n, f, x, p⟩ := h
  unfold selfA nm
  simp only
  by_cases e1 : k = 1
  · subst e1; exact nm_1 o t n f x w
  by_cases e9 : k = 9
  · subst e9; exact nm_9 o t n f x w
  by_cases e2 : k = 2
  · subst e2; exact nm_2 o t n f x w
  by_cases e3 : k = 3
  · subst e3; exact nm_3 o t n f x w
  by_cases e4 : k = 4
  · subst e4; exact nm_4 o t n f x w
  by_cases e5 : k = 5
  · subst e5; exact nm_5 o t n f x w
  by_cases e6 : k = 6
  · subst e6; exact nm_6 o t n f x w
  by_cases e8 : k = 8
  · subst e8; exact nm_8 o t n f x w
  rw [if_neg e1, if_neg e9, if_neg e2, if_neg (by omega), if_neg (by omega)]
  exact nm_z k (by simp [e1]) (by simp [e2]) (by simp [e3]) (by simp [e4]) (by simp [e5]) (by simp [e6]) (by simp [e8]) (by simp [e9]) o t n f x w
end Go.Proofs.YtighocmdlifheaaDoor

/-
  The program's small functions for numbers: typed, worth, isPadded, isGlued; and what they come to together.
-/
namespace Go.Proofs.YtighocmdlifheaaDoor
open Go.RowKit

/-- What digits come to, as long as it stays within 64 bits. -/
def wv : List UInt8 → Nat → Option Nat
  | [], n => some n
  | c :: l, n => if 10 * n + (c.toNat - 48) > 9223372036854775807 then none else wv l (10 * n + (c.toNat - 48))
theorem nmS_mono : ∀ (l : List UInt8) (n k n' k' : Nat), nmS l n k = some (n', k') → n ≤ n' ∧ k' = k + lead digB l
  | [], n, k, n', k', h => by
    simp only [nmS, Option.some.injEq, Prod.mk.injEq] at h
    obtain ⟨rfl, rfl⟩ := h
    exact ⟨Nat.le_refl _, rfl⟩
  | c :: l, n, k, n', k', h => by
    unfold nmS at h
    unfold lead
    by_cases hg : digB c = true
    · rw [if_pos hg] at h ⊢
      by_cases hn : n > 922337203685477580
      · rw [if_pos hn] at h; exact absurd h (by simp)
      · rw [if_neg hn] at h
        have := nmS_mono l _ _ _ _ h
        exact ⟨by omega, by omega⟩
    · rw [if_neg hg] at h ⊢
      simp only [Option.some.injEq, Prod.mk.injEq] at h
      obtain ⟨rfl, rfl⟩ := h
      exact ⟨Nat.le_refl _, rfl⟩
theorem wv_nmS : ∀ (l : List UInt8) (n k : Nat), n ≤ 9223372036854775807 →
    wv (l.take (lead digB l)) n = (match nmS l n k with | none => none | some (n', _) => if n' > 9223372036854775807 then none else some n')
  | [], n, k, h => by simp only [nmS, lead, List.take_zero, wv]; rw [if_neg (by omega)]
  | c :: l, n, k, h => by
    unfold lead nmS
    by_cases hg : digB c = true
    · rw [if_pos hg, if_pos hg, List.take_succ_cons]
      have hdc : 48 ≤ c.toNat ∧ c.toNat ≤ 57 := by unfold digB at hg; exact of_decide_eq_true hg
      unfold wv
      by_cases ho : 10 * n + (c.toNat - 48) > 9223372036854775807
      · rw [if_pos ho]
        by_cases hn : n > 922337203685477580
        · rw [if_pos hn]
        · rw [if_neg hn]
          cases hm : nmS l (10 * n + (c.toNat - 48)) (k + 1) with
          | none => rfl
          | some q =>
            obtain ⟨n', k'⟩ := q
            have := (nmS_mono _ _ _ _ _ hm).1
            simp only
            rw [if_pos (by omega)]
      · rw [if_neg ho, if_neg (by omega)]
        exact wv_nmS l _ _ (by omega)
    · rw [if_neg hg, if_neg hg]
      simp only [List.take_zero, wv]
      rw [if_neg (by omega)]
theorem lead_all {p : UInt8 → Bool} : ∀ (l : List UInt8) (c : UInt8), c ∈ l.take (lead p l) → p c = true
  | [], c, h => by simp at h
  | x :: l, c, h => by
    unfold lead at h
    by_cases hx : p x = true
    · rw [if_pos hx, List.take_succ_cons, List.mem_cons] at h
      rcases h with rfl | h
      · exact hx
      · exact lead_all l c h
    · rw [if_neg hx] at h; simp at h
/-- A number at a place, by the program's parts. -/
theorem nbO_parts (s : ByteArray) (a d e : Nat) (hd : d = a + lead digB (rest s a)) (he : e = if nbTy (rest s d) = 1 then d else d + 1) :
    nbO s a = (match wv ((rest s a).take (lead digB (rest s a))) 0 with | none => none | some n => if (d - a > 1 ∧ hd0 (rest s a) = true) then none else if badH (rest s e) = true then none else some (n, e, nbTy (rest s d))) := by
  rw [wv_nmS (rest s a) 0 0 (by omega)]
  cases hm : nmS (rest s a) 0 0 with
  | none => unfold nbO; rw [hm]
  | some q =>
    obtain ⟨n, k⟩ := q
    obtain ⟨_, hk⟩ := nmS_mono _ _ _ _ _ hm
    have hk2 : d - a = k := by omega
    rw [nbO_of (i := d) (by rw [hm, hk2]) (by omega), ← he]
    simp only
    by_cases hb : n > 9223372036854775807
    · simp [hb]
    · simp only [hb, false_or, if_false]

set_option maxHeartbeats 2000000 in
theorem typed_any (s : ByteArray) (a : Nat) (hs : s.size ≤ 140737488355328) (ha : a ≤ s.size) (w : World) :
    Calls Tryd.prog 95 #[.string s, .int .i64 a] w fun e w' => e = .returned (.tuple #[.int .u8 (nbTy (rest s a)), .int .i64 ((if nbTy (rest s a) = 1 then a else a + 1 : Nat) : Int)]) ∧ w' = w := by
  by_cases hlt : a < s.size
  · have hne : ((a : Int) == (s.size : Int)) = false := beq_false_of_ne (by omega)
    have hlt' : (a : Int) < (s.size : Int) := by omega
    have hr := rest_at s a hlt
    obtain ⟨c, hc⟩ : ∃ c, s[a] = c := ⟨_, rfl⟩
    rw [hc] at hr
    rw [hr]
    have K : nbTy (c :: rest s (a + 1)) = if c.toNat = 113 then 2 else if c.toNat = 112 then 3 else if c.toNat = 116 then 4 else 1 := rfl
    rw [K]
    clear K hr
    by_cases kt : c.toNat = 116
    · have xt : ((c.toNat : Int) == 116) = true := by rw [kt]; rfl
      rw [if_neg (by omega), if_neg (by omega), if_pos kt, if_neg (by decide)]
      go_enter Tryd.func95, Tryd.ntmps95
      go_wp2_with fail
      exact bodyPost_ret (by simp [results]) rfl ⟨rfl, rfl⟩
    · have xt : ((c.toNat : Int) == 116) = false := beq_false_of_ne (by omega)
      by_cases kp : c.toNat = 112
      · have xp : ((c.toNat : Int) == 112) = true := by rw [kp]; rfl
        rw [if_neg (by omega), if_pos kp, if_neg (by decide)]
        go_enter Tryd.func95, Tryd.ntmps95
        go_wp2_with fail
        exact bodyPost_ret (by simp [results]) rfl ⟨rfl, rfl⟩
      · have xp : ((c.toNat : Int) == 112) = false := beq_false_of_ne (by omega)
        by_cases kq : c.toNat = 113
        · have xq : ((c.toNat : Int) == 113) = true := by rw [kq]; rfl
          rw [if_pos kq, if_neg (by decide)]
          go_enter Tryd.func95, Tryd.ntmps95
          go_wp2_with fail
          exact bodyPost_ret (by simp [results]) rfl ⟨rfl, rfl⟩
        · have xq : ((c.toNat : Int) == 113) = false := beq_false_of_ne (by omega)
          rw [if_neg kq, if_neg kp, if_neg kt, if_pos rfl]
          go_enter Tryd.func95, Tryd.ntmps95
          go_wp2_with fail
          exact bodyPost_ret (by simp [results]) rfl ⟨rfl, rfl⟩
  · obtain rfl : a = s.size := by omega
    rw [rest_end s s.size (Nat.le_refl _)]
    show Calls Tryd.prog 95 #[.string s, .int .i64 s.size] w fun e w' => e = .returned (.tuple #[.int .u8 1, .int .i64 (s.size : Int)]) ∧ w' = w
    go_enter Tryd.func95, Tryd.ntmps95
    go_wp2_with fail
    exact bodyPost_ret (by simp [results]) rfl ⟨rfl, rfl⟩
end Go.Proofs.YtighocmdlifheaaDoor

/-
  The walks of worth, isPadded, isGlued.
-/
namespace Go.Proofs.YtighocmdlifheaaDoor
open Go.RowKit

theorem results_t2 {P : Program} {fn : Func} {p u : Tmp} (h : fn.results = #[.tmp p, .tmp u]) (tmps : Array Value) (w : World) : (results fn tmps).run P w = .ok (.tuple #[tmps.getD p undef, tmps.getD u undef]) w := by
  simp [results, h]
def wvN (o : Option Nat) : Int := match o with | none => 0 | some n => n
theorem isPadded_any (x : ByteArray) (hx : x.size ≤ 140737488355328) (w : World) : Calls Tryd.prog 97 #[.string x] w fun e w' => e = .returned (.bool (decide (x.size > 1) && hd0 (rest x 0))) ∧ w' = w := by
  by_cases h : x.size > 1
  · have h' : (1 : Int) < (x.size : Int) := by omega
    have h0 : 0 < x.size := by omega
    have h0' : (0 : Int) < (x.size : Int) := by omega
    have hr := rest_at x 0 h0
    obtain ⟨c, hc⟩ : ∃ c, x[0] = c := ⟨_, rfl⟩
    rw [hc] at hr
    have K : Hid ((decide (x.size > 1) && hd0 (rest x 0)) = ((c.toNat : Int) == 48)) := by
      show _ = _
      rw [decide_eq_true h, hr]
      show decide (c.toNat = 48) = _
      by_cases hk : c.toNat = 48
      · rw [hk]; rfl
      · rw [decide_eq_false hk, beq_false_of_ne (by omega)]
    clear hr
    go_enter Tryd.func97, Tryd.ntmps97
    go_wp2_with fail
    go_ret
    exact ⟨retB (by rw [K.out]), rfl⟩
  · have h' : ¬ (1 : Int) < (x.size : Int) := by omega
    rw [decide_eq_false h]
    go_enter Tryd.func97, Tryd.ntmps97
    go_wp2_with fail
    go_ret
    exact ⟨rfl, rfl⟩
set_option maxHeartbeats 2000000 in
theorem isGlued_any (s : ByteArray) (a : Nat) (ha : a ≤ s.size) (w : World) : Calls Tryd.prog 98 #[.string s, .int .i64 a] w fun e w' => e = .returned (.bool (badH (rest s a))) ∧ w' = w := by
  by_cases hlt : a < s.size
  · have hne : ((a : Int) == (s.size : Int)) = false := beq_false_of_ne (by omega)
    have hlt' : (a : Int) < (s.size : Int) := by omega
    have hr := rest_at s a hlt
    obtain ⟨c, hc⟩ : ∃ c, s[a] = c := ⟨_, rfl⟩
    rw [hc] at hr
    rw [hr]
    obtain ⟨R, eR⟩ : ∃ R, badH (c :: rest s (a + 1)) = R := ⟨_, rfl⟩
    have K : Hid (R = (goB c || upB c)) := eR.symm
    rw [eR]
    clear hr eR
    cases b1 : letB c
    · by_cases u1 : 65 ≤ c.toNat
      · by_cases u2 : c.toNat ≤ 90
        · have hu : upB c = true := by unfold upB; exact decide_eq_true ⟨u1, u2⟩
          have KR : Hid (R = true) := by show _ = _; rw [K.out, hu, Bool.or_true]
          have u1' : (65 : Int) ≤ (c.toNat : Int) := by omega
          have u2' : (c.toNat : Int) ≤ 90 := by omega
          clear K
          go_enter Tryd.func98, Tryd.ntmps98
          go_wp2_with (first | (go_at_call 82; refine (isLetter_b b1 _).mono ?_; rintro _ v ⟨rfl, e⟩; obtain rfl := e.symm) | (go_at_call 84; refine (isDigit_any _ _).mono ?_; rintro _ v ⟨rfl, e⟩; obtain rfl := e.symm))
          all_goals go_ret
          all_goals exact ⟨retB (by rw [KR.out]), rfl⟩
        · have hu : upB c = false := by unfold upB; exact decide_eq_false (by omega)
          have b2 : digB c = false := by unfold digB; exact decide_eq_false (by omega)
          have KR : Hid (R = ((c.toNat : Int) == 95)) := by
            show _ = _
            rw [K.out, hu]
            unfold goB
            rw [b1, b2]
            by_cases h : c.toNat = 95
            · rw [h]; rfl
            · rw [show ((c.toNat : Int) == 95) = false from beq_false_of_ne (by omega), decide_eq_false h]; rfl
          have u1' : (65 : Int) ≤ (c.toNat : Int) := by omega
          have u2' : ¬ (c.toNat : Int) ≤ 90 := by omega
          clear K
          go_enter Tryd.func98, Tryd.ntmps98
          go_wp2_with (first | (go_at_call 82; refine (isLetter_b b1 _).mono ?_; rintro _ v ⟨rfl, e⟩; obtain rfl := e.symm) | (go_at_call 84; refine (isDigit_b b2 _).mono ?_; rintro _ v ⟨rfl, e⟩; obtain rfl := e.symm))
          all_goals go_ret
          all_goals exact ⟨retB (by rw [KR.out, decide_eq_false (by omega)]; rfl), rfl⟩
      · have hu : upB c = false := by unfold upB; exact decide_eq_false (by omega)
        have u1' : ¬ (65 : Int) ≤ (c.toNat : Int) := by omega
        cases b2 : digB c
        · have KR : Hid (R = false) := by
            show _ = _
            rw [K.out, hu]
            unfold goB
            rw [b1, b2, decide_eq_false (by omega)]; rfl
          have x95 : ((c.toNat : Int) == 95) = false := beq_false_of_ne (by omega)
          clear K
          go_enter Tryd.func98, Tryd.ntmps98
          go_wp2_with (first | (go_at_call 82; refine (isLetter_b b1 _).mono ?_; rintro _ v ⟨rfl, e⟩; obtain rfl := e.symm) | (go_at_call 84; refine (isDigit_b b2 _).mono ?_; rintro _ v ⟨rfl, e⟩; obtain rfl := e.symm))
          all_goals go_ret
          all_goals exact ⟨retB (by rw [KR.out]), rfl⟩
        · have KR : Hid (R = true) := by
            show _ = _
            rw [K.out]
            unfold goB
            rw [b2]; simp
          clear K
          go_enter Tryd.func98, Tryd.ntmps98
          go_wp2_with (first | (go_at_call 82; refine (isLetter_b b1 _).mono ?_; rintro _ v ⟨rfl, e⟩; obtain rfl := e.symm) | (go_at_call 84; refine (isDigit_b b2 _).mono ?_; rintro _ v ⟨rfl, e⟩; obtain rfl := e.symm))
          all_goals go_ret
          all_goals exact ⟨retB (by rw [KR.out]), rfl⟩
    · have KR : Hid (R = true) := by
        show _ = _
        rw [K.out]
        unfold goB
        rw [b1]; simp
      clear K
      go_enter Tryd.func98, Tryd.ntmps98
      go_wp2_with (go_at_call 82; refine (isLetter_b b1 _).mono ?_; rintro _ v ⟨rfl, e⟩; obtain rfl := e.symm)
      all_goals go_ret
      all_goals exact ⟨retB (by rw [KR.out]), rfl⟩
  · obtain rfl : a = s.size := by omega
    rw [rest_end s s.size (Nat.le_refl _)]
    go_enter Tryd.func98, Tryd.ntmps98
    go_wp2_with fail
    go_ret
    exact ⟨rfl, rfl⟩
set_option maxHeartbeats 2000000 in
theorem worth_any (x : ByteArray) (hx : x.size ≤ 140737488355328) (hd : ∀ c ∈ rest x 0, digB c = true) (w : World) :
    Calls Tryd.prog 96 #[.string x] w fun e w' => e = .returned (.tuple #[.int .i64 (wvN (wv (rest x 0) 0)), .bool (wv (rest x 0) 0).isSome]) ∧ w' = w := by
  obtain ⟨o, ho⟩ : ∃ o, wv (rest x 0) 0 = o := ⟨_, rfl⟩
  have HO : Hid (wv (rest x 0) 0 = o) := ho
  have HD : Hid (∀ c ∈ rest x 0, digB c = true) := hd
  rw [ho]
  clear ho hd
  go_enter Tryd.func96, Tryd.ntmps96
  go_wp2_with fail
  go_loop [4, 9] (fun t u => ∃ i n : Nat, i ≤ x.size ∧ u = .int .i64 i ∧ t = .int .i64 n ∧ n ≤ 9223372036854775807 ∧ Hid (wv (rest x i) n = o)) (fun _ u => x.size - (intOf u).toNat)
  case atStart => exact ⟨0, 0, by omega, rfl, rfl, by omega, HO⟩
  case round =>
    obtain ⟨i, n, hi, rfl, rfl, hn, HR⟩ := hrel
    clear HO
    by_cases hlt : i < x.size
    · have hlt' : (i : Int) < (x.size : Int) := by omega
      have hr := rest_at x i hlt
      obtain ⟨c, hc⟩ : ∃ c, x[i] = c := ⟨_, rfl⟩
      rw [hc] at hr
      have hdc : digB c = true := by
        refine HD.out c ?_
        have : rest x i = (rest x 0).drop i := by unfold rest; simp
        exact List.mem_of_mem_drop (i := i) (by rw [← this, hr]; simp)
      obtain ⟨k1, k2⟩ : 48 ≤ c.toNat ∧ c.toNat ≤ 57 := by unfold digB at hdc; exact of_decide_eq_true hdc
      obtain ⟨g, hg⟩ : ∃ g : Nat, c.toNat = g + 48 := ⟨c.toNat - 48, by omega⟩
      have hgI : (c.toNat : Int) - 48 = (g : Int) := by omega
      have K : Hid (wv (rest x i) n = if 10 * n + g > 9223372036854775807 then none else wv (rest x (i + 1)) (10 * n + g)) := by
        show _ = _
        rw [hr, wv, show c.toNat - 48 = g by omega]
      have k1' : (48 : Int) ≤ (c.toNat : Int) := by omega
      have hg9 : g ≤ 9 := by omega
      clear hr hdc
      by_cases hb : 10 * n + g > 9223372036854775807
      · have hb' : (9223372036854775807 - (g : Int)) / 10 < (n : Int) := by omega
        have KO : Hid (o = none) := by show _ = _; rw [← HR.out, K.out, if_pos hb]
        clear K HR
        go_wp2_with fail
        exact bodyPost_ret (results_t2 (p := 2) (u := 3) rfl _ _) rfl ⟨by rw [KO.out]; rfl, rfl⟩
      · have hb' : ¬ (9223372036854775807 - (g : Int)) / 10 < (n : Int) := by omega
        have KO : Hid (wv (rest x (i + 1)) (10 * n + g) = o) := by show _ = _; rw [← HR.out, K.out, if_neg hb]
        clear K HR
        go_wp2_with fail
        exact ⟨⟨i + 1, 10 * n + g, by omega, by go_num, by rw [show (n : Int) * 10 + (g : Int) = ((10 * n + g : Nat) : Int) by omega], by omega, KO⟩, by simp only [intOf]; omega⟩
    · obtain rfl : i = x.size := by omega
      have hn' : ¬ (x.size : Int) < (x.size : Int) := by omega
      have KO : Hid (o = some n) := by show _ = _; rw [← HR.out, rest_end x x.size (Nat.le_refl _)]; rfl
      clear HR
      go_wp2_with fail
      exact bodyPost_ret (results_t2 (p := 2) (u := 3) rfl _ _) rfl ⟨by rw [KO.out]; rfl, rfl⟩
end Go.Proofs.YtighocmdlifheaaDoor
