import Derived.Test.YtighocmdlifheaaGreatDoorM1
import Derived.Deep.AppendLies
import Derived.Deep.RegionLaw
/-
  Expressions in plain words: nodes with the places of their kids; how they lie in memory.
-/
namespace Go.Proofs.YtighocmdlifheaaGreatDoor
open Go.RowKit

/-- What a node says itself. -/
structure Hd where
  k : Int
  o : Int
  t : Int
  n : Int
  f : Int
  x : ByteArray
  p : Int
/-- A node: itself, where its kids lie, with how much room, and its kids. -/
inductive Nd where
  | mk (h : Hd) (a : Option Addr) (c : Nat) (ks : List Nd)
namespace Nd
def h : Nd → Hd | .mk h _ _ _ => h
def a : Nd → Option Addr | .mk _ a _ _ => a
def c : Nd → Nat | .mk _ _ c _ => c
def ks : Nd → List Nd | .mk _ _ _ ks => ks
theorem ind {P : Nd → Prop} (H : ∀ h a c ks, (∀ k ∈ ks, P k) → P (.mk h a c ks)) : ∀ m, P m :=
  @Nd.rec P (fun ks => ∀ k ∈ ks, P k) (fun h a c ks ih => H h a c ks ih) (fun _ hk => by cases hk) (fun k ks h1 h2 x hx => by
    rcases List.mem_cons.1 hx with e | e
    · rw [e]; exact h1
    · exact h2 x e)
end Nd
def hdA (h : Hd) (a : Option Addr) (l c : Nat) : Array Value := #[.int .u8 h.k, .int .u8 h.o, .int .u8 h.t, .int .i64 h.n, .int .u8 h.f, .string h.x, .slice a l c, .int .i64 h.p]
def Nd.vals (m : Nd) : Array Value := hdA m.h m.a m.ks.length m.c
/-- Eight cells that hold a node. -/
structure NdAt (w : World) (b o : Nat) (m : Nd) : Prop where
  c0 : w.cell? ⟨b, o, none⟩ = some (.int .u8 m.h.k)
  c1 : w.cell? ⟨b, o + 1, none⟩ = some (.int .u8 m.h.o)
  c2 : w.cell? ⟨b, o + 2, none⟩ = some (.int .u8 m.h.t)
  c3 : w.cell? ⟨b, o + 3, none⟩ = some (.int .i64 m.h.n)
  c4 : w.cell? ⟨b, o + 4, none⟩ = some (.int .u8 m.h.f)
  c5 : w.cell? ⟨b, o + 5, none⟩ = some (.string m.h.x)
  c6 : w.cell? ⟨b, o + 6, none⟩ = some (.slice m.a m.ks.length m.c)
  c7 : w.cell? ⟨b, o + 7, none⟩ = some (.int .i64 m.h.p)
theorem NdAt.lt {w : World} {b o : Nat} {m : Nd} (h : NdAt w b o m) : b < w.heap.size := World.block_lt_of_cell? w _ h.c0
theorem NdAt.blk {w w' : World} {b o : Nat} {m : Nd} (h : NdAt w b o m) (k : w'.heap[b]? = w.heap[b]?) : NdAt w' b o m :=
  ⟨(World.cell?_of_block k).trans h.c0, (World.cell?_of_block k).trans h.c1, (World.cell?_of_block k).trans h.c2, (World.cell?_of_block k).trans h.c3, (World.cell?_of_block k).trans h.c4, (World.cell?_of_block k).trans h.c5, (World.cell?_of_block k).trans h.c6, (World.cell?_of_block k).trans h.c7⟩
theorem NdAt.on {w w' : World} {b o : Nat} {m : Nd} (h : NdAt w b o m) (k : Below w.heap.size w w') : NdAt w' b o m := h.blk (k.block b h.lt)
/-- What a node's numbers may be. -/
structure Rg (h : Hd) : Prop where
  k0 : 0 ≤ h.k
  k1 : h.k ≤ 255
  o0 : 0 ≤ h.o
  o1 : h.o ≤ 255
  t0 : 0 ≤ h.t
  t1 : h.t ≤ 255
  n0 : -9223372036854775808 ≤ h.n
  n1 : h.n ≤ 9223372036854775807
  f0 : 0 ≤ h.f
  f1 : h.f ≤ 255
  p0 : -9223372036854775808 ≤ h.p
  p1 : h.p ≤ 9223372036854775807
  x1 : h.x.size ≤ 140737488355328
/-- An expression that lies in memory. -/
inductive Lies (w : World) : Nd → Prop
  | mk (h : Hd) (a : Option Addr) (c : Nat) (ks : List Nd) (hr : Rg h) (hc : ks.length ≤ c) (hm : c ≤ 9223372036854775807)
      (hk : ∀ i (hi : i < ks.length), ∃ b o, a = some ⟨b, o, none⟩ ∧ NdAt w b (o + i * 8) ks[i]) (hs : ∀ k ∈ ks, Lies w k) : Lies w (.mk h a c ks)
theorem Lies.rg {w : World} {m : Nd} (h : Lies w m) : Rg m.h := by cases h; assumption
theorem Lies.cap {w : World} {m : Nd} (h : Lies w m) : m.ks.length ≤ m.c := by cases h; assumption
theorem Lies.max {w : World} {m : Nd} (h : Lies w m) : m.c ≤ 9223372036854775807 := by cases h; assumption
theorem Lies.kid {w : World} {m : Nd} (h : Lies w m) (i : Nat) (hi : i < m.ks.length) : ∃ b o, m.a = some ⟨b, o, none⟩ ∧ NdAt w b (o + i * 8) m.ks[i] := by cases h with | mk h a c ks hr hc hm hk hs => exact hk i hi
theorem Lies.sub {w : World} {m : Nd} (h : Lies w m) (k : Nd) (hk : k ∈ m.ks) : Lies w k := by cases h with | mk h a c ks hr hc hm hk' hs => exact hs k hk
theorem Lies.blk {w w' : World} : ∀ {m : Nd}, Lies w m → (∀ b, b < w.heap.size → w'.heap[b]? = w.heap[b]?) → Lies w' m := by
  intro m h k
  induction h with
  | mk h a c ks hr hc hm hk hs ih =>
    refine .mk h a c ks hr hc hm (fun i hi => ?_) ih
    obtain ⟨b, o, e, hat⟩ := hk i hi
    exact ⟨b, o, e, hat.blk (k b hat.lt)⟩
theorem Lies.on {w w' : World} {m : Nd} (h : Lies w m) (k : Below w.heap.size w w') : Lies w' m := h.blk k.block
theorem Lies.cut {w : World} {h : Hd} {a : Option Addr} {c d : Nat} {ks : List Nd} (l : Lies w (.mk h a c ks)) (hd : ks.length ≤ d) (hm : d ≤ 9223372036854775807) : Lies w (.mk h a d ks) := by
  cases l with | mk _ _ _ _ hr hc hm' hk hs => exact .mk h a d ks hr hd hm hk hs
theorem Lies.hid {w : World} {m : Nd} (h : Lies w m) : Hid (Lies w m) := h
/-- A block that holds a node by itself. -/
def NdH (w : World) (b : Nat) (m : Nd) : Prop := w.heap[b]? = some (.cells m.vals 55 (0, 0))
theorem NdH.lt {w : World} {b : Nat} {m : Nd} (h : NdH w b m) : b < w.heap.size := (Array.getElem?_eq_some_iff.1 h).1
theorem NdH.at {w : World} {b : Nat} {m : Nd} (h : NdH w b m) : NdAt w b 0 m := ⟨cell_of h 0, cell_of h 1, cell_of h 2, cell_of h 3, cell_of h 4, cell_of h 5, cell_of h 6, cell_of h 7⟩
theorem NdH.on {w w' : World} {b : Nat} {m : Nd} (h : NdH w b m) (k : Below w.heap.size w w') : NdH w' b m := (k.block b h.lt).trans h
theorem NdH.hid {w : World} {b : Nat} {m : Nd} (h : NdH w b m) : Hid (NdH w b m) := h
theorem NdAt.hid {w : World} {b o : Nat} {m : Nd} (h : NdAt w b o m) : Hid (NdAt w b o m) := h
mutual
/-- How many nodes. -/
def size : Nd → Nat
  | .mk _ _ _ ks => 1 + sizes ks
def sizes : List Nd → Nat
  | [] => 0
  | k :: ks => size k + sizes ks
end
mutual
/-- All nodes, a node ahead of its kids. -/
def pre : Nd → List Nd
  | .mk h a c ks => .mk h a c ks :: pres ks
def pres : List Nd → List Nd
  | [] => []
  | k :: ks => pre k ++ pres ks
end
theorem size_pre : ∀ m, (pre m).length = size m := by
  refine Nd.ind fun h a c ks ih => ?_
  have : ∀ l : List Nd, (∀ k ∈ l, (pre k).length = size k) → (pres l).length = sizes l := by
    intro l
    induction l with
    | nil => intro _; rfl
    | cons k l ihl => intro hl; simp only [pres, sizes, List.length_append]; rw [hl k (by simp), ihl fun x hx => hl x (by simp [hx])]
  simp only [pre, size, List.length_cons]
  rw [this ks ih]; omega
def numB (t : Int) : Bool := decide (1 ≤ t ∧ t ≤ 4)
def litB (t n : Int) : Bool := if t = 5 then decide (0 ≤ n ∧ n ≤ 1) else if t = 6 then decide (1 ≤ n ∧ n ≤ 2) else numB t && decide (0 ≤ n)
/-- What a node says, with nothing but what its kind names. -/
def nm (h : Hd) : Hd :=
  if h.k = 1 then ⟨h.k, 0, h.t, h.n, 0, ⟨#[]⟩, 0⟩ else
  if h.k = 9 then ⟨h.k, 0, h.t, 0, 0, ⟨#[]⟩, 0⟩ else
  if h.k = 2 then ⟨h.k, 0, 0, 0, 0, h.x, 0⟩ else
  if h.k = 3 ∨ h.k = 4 then ⟨h.k, 0, 0, 0, h.f, ⟨#[]⟩, 0⟩ else
  if h.k = 5 ∨ h.k = 6 ∨ h.k = 8 then ⟨h.k, h.o, 0, 0, 0, ⟨#[]⟩, 0⟩ else ⟨h.k, 0, 0, 0, 0, ⟨#[]⟩, 0⟩
/-- Are they as they may be, with so many kids? -/
def fitB (h : Hd) (l : Nat) : Bool :=
  if h.k = 1 then decide (l = 0) && litB h.t h.n else
  if h.k = 2 then decide (l = 0) && nameB h.x else
  if h.k = 3 then decide (l = 0) && decide (1 ≤ h.f ∧ h.f ≤ 6) else
  if h.k = 4 then decide (l = 0) && decide (1 ≤ h.f ∧ h.f ≤ 3) else
  if h.k = 5 then decide (l = 1) && decide (1 ≤ h.o ∧ h.o ≤ 2) else
  if h.k = 6 then decide (l = 2) && decide (6 ≤ h.o ∧ h.o ≤ 18) else
  if h.k = 7 then decide (l = 3) else
  if h.k = 8 then (decide (l = 1) && decide (h.o = 3)) || (decide (l = 2) && decide (4 ≤ h.o ∧ h.o ≤ 5)) else
  if h.k = 9 then decide (l = 1) && numB h.t else false
def selfA (h : Hd) : Array Value := #[.int .u8 h.k, .int .u8 h.o, .int .u8 h.t, .int .i64 h.n, .int .u8 h.f, .string h.x]
/-- Are two nodes the same, but for kids and places? -/
def alike (g h : Hd) : Bool := decide (g.k = h.k) && (decide (g.o = h.o) && (decide (g.t = h.t) && (decide (g.n = h.n) && (decide (g.f = h.f) && decide (g.x = h.x)))))
def oneH (h : Hd) (l : Nat) : Bool := alike h (nm h) && fitB h l
mutual
/-- Is each node one of the table's? -/
def formB : Nd → Bool
  | .mk h _ _ ks => oneH h ks.length && formsB ks
def formsB : List Nd → Bool
  | [] => true
  | k :: ks => formB k && formsB ks
end
def lvO (o : Int) : Int := if o = 18 then 2 else if o = 17 then 3 else if o = 6 ∨ o = 7 then 5 else if o = 8 ∨ o = 9 ∨ o = 10 then 6 else 4
/-- The level of a node. -/
def lvl (h : Hd) : Int := if h.k = 7 then 1 else if h.k = 6 then lvO h.o else if h.k = 5 then 7 else 8
/-- The level that a kid's place asks for. -/
def ask (h : Hd) (i : Nat) : Int := if h.k = 7 then (if i = 0 then 2 else 1) else if h.k = 6 then (if lvl h = 4 then 5 else lvl h + i) else if h.k = 5 then 7 else 1
def dwn (h : Hd) (i : Nat) : Bool := if h.k = 6 then false else if h.k = 7 then decide (0 < i) else true
def inc (b : Bool) (d : Nat) : Nat := if b = true then d + 1 else d
mutual
/-- How deep an expression goes. -/
def dep : Nd → Nat
  | .mk h _ _ ks => deps h 0 ks
def deps (h : Hd) : Nat → List Nd → Nat
  | _, [] => 0
  | i, k :: ks => Nat.max (inc (dwn h i) (inc (decide (lvl k.h < ask h i)) (dep k))) (deps h (i + 1) ks)
end
mutual
/-- Are two expressions the same, but for places? -/
def sameB : Nd → Nd → Bool
  | .mk g _ _ js, m => alike g m.h && (decide (js.length = m.ks.length) && samesB js m.ks)
def samesB : List Nd → List Nd → Bool
  | [], _ => true
  | _ :: _, [] => true
  | j :: js, k :: ks => sameB j k && samesB js ks
end
theorem nth_mem {ks : List Nd} {i : Nat} (hi : i < ks.length) : ks[i] ∈ ks := List.getElem_mem hi
theorem drop_nth {ks : List Nd} {i : Nat} (hi : i < ks.length) : ks.drop i = ks[i] :: ks.drop (i + 1) := List.drop_eq_getElem_cons hi
end Go.Proofs.YtighocmdlifheaaGreatDoor

/-
  What a node says itself: selfOf, named; numbers within bounds; isLiteral.
-/
namespace Go.Proofs.YtighocmdlifheaaGreatDoor
open Go.RowKit

/-- A block that holds what a node says. -/
def SfH (w : World) (b : Nat) (h : Hd) : Prop := w.heap[b]? = some (.cells (selfA h) 117 (0, 0))
theorem SfH.lt {w : World} {b : Nat} {h : Hd} (k : SfH w b h) : b < w.heap.size := (Array.getElem?_eq_some_iff.1 k).1
theorem SfH.on {w w' : World} {b : Nat} {h : Hd} (k : SfH w b h) (j : Below w.heap.size w w') : SfH w' b h := (j.block b k.lt).trans k
theorem SfH.hid {w : World} {b : Nat} {h : Hd} (k : SfH w b h) : Hid (SfH w b h) := k
theorem SfH.cells {w : World} {b : Nat} {h : Hd} (k : SfH w b h) : w.cell? ⟨b, 0, none⟩ = some (.int .u8 h.k) ∧ w.cell? ⟨b, 1, none⟩ = some (.int .u8 h.o) ∧ w.cell? ⟨b, 2, none⟩ = some (.int .u8 h.t) ∧ w.cell? ⟨b, 3, none⟩ = some (.int .i64 h.n) ∧ w.cell? ⟨b, 4, none⟩ = some (.int .u8 h.f) ∧ w.cell? ⟨b, 5, none⟩ = some (.string h.x) :=
  ⟨cell_of k 0, cell_of k 1, cell_of k 2, cell_of k 3, cell_of k 4, cell_of k 5⟩
theorem SfH.froz {w : World} {b : Nat} {h : Hd} (k : SfH w b h) : w.frozen? ⟨b, 0, none⟩ = false ∧ w.frozen? ⟨b, 1, none⟩ = false ∧ w.frozen? ⟨b, 2, none⟩ = false ∧ w.frozen? ⟨b, 3, none⟩ = false ∧ w.frozen? ⟨b, 4, none⟩ = false ∧ w.frozen? ⟨b, 5, none⟩ = false :=
  ⟨frozen_of k 0, frozen_of k 1, frozen_of k 2, frozen_of k 3, frozen_of k 4, frozen_of k 5⟩
theorem put6 {w : World} {b : Nat} {cs : Array Value} (h : w.heap[b]? = some (.cells cs 117 (0, 0))) (hs : cs.size = 6) (v0 v1 v2 v3 v4 v5 : Value) :
    ((((((w.setCell ⟨b, 0, none⟩ v0).setCell ⟨b, 1, none⟩ v1).setCell ⟨b, 2, none⟩ v2).setCell ⟨b, 3, none⟩ v3).setCell ⟨b, 4, none⟩ v4).setCell ⟨b, 5, none⟩ v5).heap[b]? = some (.cells #[v0, v1, v2, v3, v4, v5] 117 (0, 0)) := by
  obtain ⟨a0, a1, a2, a3, a4, a5, e⟩ : ∃ a0 a1 a2 a3 a4 a5, cs = #[a0, a1, a2, a3, a4, a5] := ⟨cs[0], cs[1], cs[2], cs[3], cs[4], cs[5], by
    apply Array.ext
    · simpa using hs
    · intro i h1 h2
      have : i < 6 := by omega
      match i, this with
      | 0, _ => rfl
      | 1, _ => rfl
      | 2, _ => rfl
      | 3, _ => rfl
      | 4, _ => rfl
      | 5, _ => rfl⟩
  subst e
  exact heap_set _ (heap_set _ (heap_set _ (heap_set _ (heap_set _ (heap_set _ h)))))
theorem belowput6 {B : Nat} {w v : World} {b : Nat} (h : Below B w v) (hb : B ≤ b) (v0 v1 v2 v3 v4 v5 : Value) : Below B w ((((((v.setCell ⟨b, 0, none⟩ v0).setCell ⟨b, 1, none⟩ v1).setCell ⟨b, 2, none⟩ v2).setCell ⟨b, 3, none⟩ v3).setCell ⟨b, 4, none⟩ v4).setCell ⟨b, 5, none⟩ v5) :=
  (((((h.setCell (p := ⟨b, 0, none⟩) hb v0).setCell (p := ⟨b, 1, none⟩) hb v1).setCell (p := ⟨b, 2, none⟩) hb v2).setCell (p := ⟨b, 3, none⟩) hb v3).setCell (p := ⟨b, 4, none⟩) hb v4).setCell (p := ⟨b, 5, none⟩) hb v5
def hdN : Hd := ⟨0, 0, 0, 0, 0, ⟨#[]⟩, 0⟩
set_option maxRecDepth 100000 in
theorem selfOf_any (h : Hd) (a : Option Addr) (l c : Nat) (w : World) : Calls Tryz.prog 80 #[.agg (hdA h a l c)] w fun e w' => e = .returned (.agg (selfA h)) ∧ Below w.heap.size w w' := by
  obtain ⟨W, eW⟩ : ∃ W, (w.alloc (.cells (hdA h a l c) 55)).alloc (.cells #[.int .u8 0, .int .u8 0, .int .u8 0, .int .i64 0, .int .u8 0, .string ⟨#[]⟩] 117) = W := ⟨_, rfl⟩
  have HB : Hid (Below w.heap.size w W) := by rw [← eW]; exact below_two _ _ _
  have HN : Hid (W.heap[w.heap.size]? = some (.cells (hdA h a l c) 55 (0, 0))) := by show _ = _; rw [← eW]; exact heap_old (heap_new _ _) (by rw [size_alloc]; omega)
  have HS : Hid (SfH W (w.heap.size + 1) hdN) := by show SfH _ _ _; rw [← eW, ← size_alloc w (.cells (hdA h a l c) 55)]; exact heap_new _ _
  obtain ⟨y0, y1, y2, y3, y4, y5⟩ : W.cell? ⟨w.heap.size, 0, none⟩ = some (.int .u8 h.k) ∧ W.cell? ⟨w.heap.size, 1, none⟩ = some (.int .u8 h.o) ∧ W.cell? ⟨w.heap.size, 2, none⟩ = some (.int .u8 h.t) ∧ W.cell? ⟨w.heap.size, 3, none⟩ = some (.int .i64 h.n) ∧ W.cell? ⟨w.heap.size, 4, none⟩ = some (.int .u8 h.f) ∧ W.cell? ⟨w.heap.size, 5, none⟩ = some (.string h.x) :=
    ⟨cell_of HN.out 0, cell_of HN.out 1, cell_of HN.out 2, cell_of HN.out 3, cell_of HN.out 4, cell_of HN.out 5⟩
  obtain ⟨z0, z1, z2, z3, z4, z5⟩ := HS.out.cells
  obtain ⟨f0, f1, f2, f3, f4, f5⟩ := HS.out.froz
  unfold hdA at eW ⊢
  go_enter Tryz.func80, Tryz.ntmps80
  go_wp2
  exact bodyPost_ret (results_cell_row rfl _ _ (w.heap.size + 1) 117 (selfA h) (0, 0) _ rfl (put6 HS.out rfl _ _ _ _ _ _) Tryz.underlying117 rfl (by kernel_rfl)) rfl ⟨rfl, belowput6 HB.out (by omega) _ _ _ _ _ _⟩
end Go.Proofs.YtighocmdlifheaaGreatDoor

/-
  level, asked, goesDown: how tightly a node binds, what a kid's place asks.
-/
namespace Go.Proofs.YtighocmdlifheaaGreatDoor
open Go.RowKit
theorem box8 {w w' : World} {k o t n f p : Int} {x : ByteArray} {a : Option Addr} {l c : Nat} (hb : Below (w.alloc (.cells #[.int .u8 k, .int .u8 o, .int .u8 t, .int .i64 n, .int .u8 f, .string x, .slice a l c, .int .i64 p] 55)).heap.size (w.alloc (.cells #[.int .u8 k, .int .u8 o, .int .u8 t, .int .i64 n, .int .u8 f, .string x, .slice a l c, .int .i64 p] 55)) w') :
    w'.cell? ⟨w.heap.size, 0, none⟩ = some (.int .u8 k) ∧ w'.cell? ⟨w.heap.size, 1, none⟩ = some (.int .u8 o) ∧ w'.cell? ⟨w.heap.size, 2, none⟩ = some (.int .u8 t) ∧ w'.cell? ⟨w.heap.size, 3, none⟩ = some (.int .i64 n) ∧ w'.cell? ⟨w.heap.size, 4, none⟩ = some (.int .u8 f) ∧ w'.cell? ⟨w.heap.size, 5, none⟩ = some (.string x) ∧ w'.cell? ⟨w.heap.size, 6, none⟩ = some (.slice a l c) ∧ w'.cell? ⟨w.heap.size, 7, none⟩ = some (.int .i64 p) := by
  have h := (hb.block w.heap.size (by rw [size_alloc]; omega)).trans (heap_new w _)
  exact ⟨cell_of h 0, cell_of h 1, cell_of h 2, cell_of h 3, cell_of h 4, cell_of h 5, cell_of h 6, cell_of h 7⟩
theorem levelOf_any (o : Int) (w : World) : Calls Tryz.prog 108 #[.int .u8 o] w fun e w' => e = .returned (.int .i64 (lvO o)) ∧ w' = w := by
  unfold lvO
  by_cases a : o = 18
  · subst a; go_enter Tryz.func108, Tryz.ntmps108; go_wp2_with fail; go_ret; exact ⟨rfl, rfl⟩
  by_cases b : o = 17
  · subst b; go_enter Tryz.func108, Tryz.ntmps108; go_wp2_with fail; go_ret; exact ⟨rfl, rfl⟩
  by_cases c : o = 6
  · subst c; go_enter Tryz.func108, Tryz.ntmps108; go_wp2_with fail; go_ret; exact ⟨rfl, rfl⟩
  by_cases d : o = 7
  · subst d; go_enter Tryz.func108, Tryz.ntmps108; go_wp2_with fail; go_ret; exact ⟨rfl, rfl⟩
  by_cases e : o = 8
  · subst e; go_enter Tryz.func108, Tryz.ntmps108; go_wp2_with fail; go_ret; exact ⟨rfl, rfl⟩
  by_cases f : o = 9
  · subst f; go_enter Tryz.func108, Tryz.ntmps108; go_wp2_with fail; go_ret; exact ⟨rfl, rfl⟩
  by_cases g : o = 10
  · subst g; go_enter Tryz.func108, Tryz.ntmps108; go_wp2_with fail; go_ret; exact ⟨rfl, rfl⟩
  rw [if_neg a, if_neg b, if_neg (by omega), if_neg (by omega)]
  have a' : (o == 18) = false := by simp [a]
  have b' : (o == 17) = false := by simp [b]
  have c' : (o == 6) = false := by simp [c]
  have d' : (o == 7) = false := by simp [d]
  have e' : (o == 8) = false := by simp [e]
  have f' : (o == 9) = false := by simp [f]
  have g' : (o == 10) = false := by simp [g]
  clear a b c d e f g
  go_enter Tryz.func108, Tryz.ntmps108; go_wp2_with fail; go_ret; exact ⟨rfl, rfl⟩
set_option maxRecDepth 100000 in
theorem level_any (h : Hd) (a : Option Addr) (l c : Nat) (w : World) : Calls Tryz.prog 77 #[.agg (hdA h a l c)] w fun e w' => e = .returned (.int .i64 (lvl h)) ∧ Below w.heap.size w w' := by
  obtain ⟨k, o, t, n, f, x, p⟩ := h
  unfold hdA lvl
  simp only
  have cO := levelOf_any o
  obtain ⟨V, eV⟩ : ∃ V, lvO o = V := ⟨_, rfl⟩
  simp only [eV] at cO
  rw [eV]
  clear eV
  by_cases a7 : k = 7
  · subst a7; go_enter Tryz.func77, Tryz.ntmps77; go_wp2_with fail; go_ret; exact ⟨rfl, below_new _ _⟩
  by_cases a6 : k = 6
  · subst a6; go_enter Tryz.func77, Tryz.ntmps77; go_wp2_with (go_at_call 108; refine (cO _).mono ?_; rintro e w' ⟨rfl, rfl⟩); go_ret; exact ⟨rfl, below_new _ _⟩
  by_cases a5 : k = 5
  · subst a5; go_enter Tryz.func77, Tryz.ntmps77; go_wp2_with fail; go_ret; exact ⟨rfl, below_new _ _⟩
  rw [if_neg a7, if_neg a6, if_neg a5]
  have b7 : (k == 7) = false := by simp [a7]
  have b6 : (k == 6) = false := by simp [a6]
  have b5 : (k == 5) = false := by simp [a5]
  clear a7 a6 a5
  go_enter Tryz.func77, Tryz.ntmps77; go_wp2_with fail; go_ret; exact ⟨rfl, below_new _ _⟩
theorem lvl_le (h : Hd) : 1 ≤ lvl h ∧ lvl h ≤ 8 := by
  unfold lvl lvO
  split
  · omega
  · split
    · repeat (first | omega | split)
    · split <;> omega
set_option maxRecDepth 100000 in
set_option maxHeartbeats 1000000 in
theorem asked_any (h : Hd) (a : Option Addr) (l c i : Nat) (hi : i ≤ 9223372036854775000) (w : World) : Calls Tryz.prog 109 #[.agg (hdA h a l c), .int .i64 i] w fun e w' => e = .returned (.int .i64 (ask h i)) ∧ Below w.heap.size w w' := by
  have cL := fun v => level_any h a l c v
  have hle := lvl_le h
  unfold ask
  obtain ⟨V, eV⟩ : ∃ V, lvl h = V := ⟨_, rfl⟩
  rw [eV] at hle
  simp only [eV] at cL
  simp only [eV]
  clear eV
  obtain ⟨k, o, t, n, f, x, p⟩ := h
  unfold hdA at cL ⊢
  simp only at cL ⊢
  obtain ⟨hl1, hl2⟩ := hle
  by_cases a7 : k = 7
  · subst a7
    by_cases i0 : i = 0
    · subst i0; go_enter Tryz.func109, Tryz.ntmps109; go_wp2_with fail; go_ret; exact ⟨rfl, below_new _ _⟩
    · have i0' : ((i : Int) == 0) = false := by simp; omega
      rw [if_pos rfl, if_neg i0]
      go_enter Tryz.func109, Tryz.ntmps109; go_wp2_with fail; go_ret; exact ⟨rfl, below_new _ _⟩
  by_cases a6 : k = 6
  · subst a6
    by_cases v4 : V = 4
    · subst v4; go_enter Tryz.func109, Tryz.ntmps109; go_wp2_with (go_at_call 77; refine (cL _).mono ?_; rintro e w' ⟨rfl, hb⟩); go_ret; exact ⟨rfl, (below_new _ _).trans (hb.mono (by simp))⟩
    · have v4' : (V == 4) = false := by simp [v4]
      have g1 : -9223372036854775808 ≤ V + (i : Int) := by omega
      have g2 : V + (i : Int) ≤ 9223372036854775807 := by omega
      rw [if_neg (by decide), if_pos rfl, if_neg v4]
      go_enter Tryz.func109, Tryz.ntmps109
      go_wp2_with fail
      refine (cL _).mono ?_
      rintro e w1 ⟨rfl, hb⟩
      obtain ⟨q0, q1, q2, q3, q4, q5, q6, q7⟩ := box8 hb
      have HB1 : Hid (Below w.heap.size w w1) := (below_new _ _).trans (hb.mono (by simp))
      clear hb
      go_wp2_with fail
      refine (cL _).mono ?_
      rintro e w2 ⟨rfl, hb⟩
      have HB2 : Hid (Below w.heap.size w w2) := HB1.out.trans (hb.mono HB1.out.size)
      clear hb
      go_wp2_with fail
      go_ret
      exact ⟨rfl, HB2.out⟩
  by_cases a5 : k = 5
  · subst a5; go_enter Tryz.func109, Tryz.ntmps109; go_wp2_with fail; go_ret; exact ⟨rfl, below_new _ _⟩
  rw [if_neg a7, if_neg a6, if_neg a5]
  have b7 : (k == 7) = false := by simp [a7]
  have b6 : (k == 6) = false := by simp [a6]
  have b5 : (k == 5) = false := by simp [a5]
  clear a7 a6 a5
  go_enter Tryz.func109, Tryz.ntmps109; go_wp2_with fail; go_ret; exact ⟨rfl, below_new _ _⟩
set_option maxRecDepth 100000 in
theorem goesDown_any (h : Hd) (a : Option Addr) (l c i : Nat) (w : World) : Calls Tryz.prog 110 #[.agg (hdA h a l c), .int .i64 i] w fun e w' => e = .returned (.bool (dwn h i)) ∧ Below w.heap.size w w' := by
  obtain ⟨k, o, t, n, f, x, p⟩ := h
  unfold hdA dwn
  simp only
  by_cases a6 : k = 6
  · subst a6; go_enter Tryz.func110, Tryz.ntmps110; go_wp2_with fail; go_ret; exact ⟨rfl, below_new _ _⟩
  by_cases a7 : k = 7
  · subst a7
    by_cases i0 : 0 < i
    · have i1 : (0 : Int) < (i : Int) := by omega
      go_enter Tryz.func110, Tryz.ntmps110; go_wp2_with fail; go_ret; exact ⟨retB (by simp), below_new _ _⟩
    · have i1 : ¬ (0 : Int) < (i : Int) := by omega
      go_enter Tryz.func110, Tryz.ntmps110; go_wp2_with fail; go_ret; exact ⟨retB (by simp), below_new _ _⟩
  rw [if_neg a6, if_neg a7]
  have b7 : (k == 7) = false := by simp [a7]
  have b6 : (k == 6) = false := by simp [a6]
  clear a7 a6
  go_enter Tryz.func110, Tryz.ntmps110; go_wp2_with fail; go_ret; exact ⟨rfl, below_new _ _⟩
end Go.Proofs.YtighocmdlifheaaGreatDoor

/-
  One node more, behind a list of the call's own.
-/
namespace Go.Proofs.YtighocmdlifheaaGreatDoor
open Go.RowKit

theorem Tryz.info55 : (Tryz.prog.info? 55).map (fun i => (i.zero, i.size, i.bytes)) = some (some (.agg #[.int .u8 0, .int .u8 0, .int .u8 0, .int .i64 0, .int .u8 0, .string ⟨#[]⟩, .slice none 0 0, .int .i64 0]), 8, 72) := by kernel_rfl
def nd0 : Nd := .mk hdN none 0 []
/-- The cells of a list of nodes. -/
def ndF (A : Nat → Nd) (j : Nat) : Value := (A (j / 8)).vals.getD (j % 8) undef
def ldF (L : List Nd) : Nat → Nd := fun i => L.getD i nd0
theorem ldF_lt {L : List Nd} {y : Nd} {i : Nat} (h : i < L.length) : ldF (L ++ [y]) i = ldF L i := by
  unfold ldF
  simp [List.getD, List.getElem?_append_left h]
theorem ldF_at (L : List Nd) (y : Nd) : ldF (L ++ [y]) L.length = y := by
  unfold ldF
  simp [List.getD]
/-- A list of tokens, of the call's own. -/
def RowN (w : World) (v : Value) (L : List Nd) : Prop := Row w 55 8 v L.length (ndF (ldF L))
/-- It lies in memory that is newer than W; and W's is as it was. -/
structure RN (W w : World) (v : Value) (L : List Nd) : Prop where
  row : RowN w v L
  nb : ∀ k, v.ownBlock = some k → W.heap.size ≤ k
  B : Below W.heap.size W w
theorem RN.nil (W : World) : RN W W (.slice none 0 0) [] := ⟨Row.nil _ _ _ _, fun k h => by simp [Value.ownBlock] at h, Below.refl _ _⟩
theorem RN.call {W w w' : World} {v : Value} {L : List Nd} (h : RN W w v L) (k : Below w.heap.size w w') : RN W w' v L :=
  ⟨h.row.of_block (fun b hb => k.block b (h.row.lt b hb)), h.nb, h.B.trans (k.mono h.B.size)⟩
theorem RN.alloc {W w : World} {v : Value} {L : List Nd} (h : RN W w v L) (o : Obj) : RN W (w.alloc o) v L := h.call (below_new w o)
theorem RN.drew {W w : World} {v : Value} {L : List Nd} (h : RN W w v L) : RN W w.drew v L := ⟨h.row.of_block (fun _ _ => rfl), h.nb, h.B.drew⟩
theorem RN.drewN {W w : World} {v : Value} {L : List Nd} (h : RN W w v L) (n : Nat) : RN W (w.drewN n) v L := ⟨h.row.of_block (fun _ _ => rfl), h.nb, below_drew h.B n⟩
theorem RN.hid {W w : World} {v : Value} {L : List Nd} (h : RN W w v L) : Hid (RN W w v L) := h
theorem nd_cells (y : Nd) : ∀ j, j < 8 → (y.vals).toList[j]? = some (ndF (fun _ => y) j) := by
  intro j hj
  match j, hj with
  | 0, _ => rfl
  | 1, _ => rfl
  | 2, _ => rfl
  | 3, _ => rfl
  | 4, _ => rfl
  | 5, _ => rfl
  | 6, _ => rfl
  | 7, _ => rfl
theorem appn_core {W w0 w' : World} {v : Value} {L : List Nd} {y : Nd} {g cap : Nat} (hR : RN W w0 v L)
    (h2 : w'.ownsRow 0 55 8 (.slice (some ⟨g, 0, none⟩) (L.length + 1) cap) (L.length + 1) ((List.range (L.length * 8)).map (ndF (ldF L)) ++ (y.vals).toList))
    (h3 : (w0.alloc (.cells (y.vals) 55)).grownBy w' v.ownBlock) (h4 : v.ownBlock = some g ∨ g = (w0.alloc (.cells (y.vals) 55)).heap.size) :
    RN W w' (.slice (some ⟨g, 0, none⟩) (L.length + 1) cap) (L ++ [y]) ∧ w0.heap.size ≤ w'.heap.size ∧ ∀ b, b < w0.heap.size → v.ownBlock ≠ some b → w'.heap[b]? = w0.heap[b]? := by
  have hsz := size_alloc w0 (.cells (y.vals) 55)
  have hB0 := hR.B.alloc hR.B.size (.cells (y.vals) 55)
  refine ⟨⟨?_, ?_, hB0.grown h3 hB0.size (fun k hk => hR.nb k hk)⟩, ?_, ?_⟩
  · have hr := Row.snoc (x := ndF (fun _ => y)) h2 rfl (fun j hj => nd_cells y j hj)
    unfold RowN
    rw [List.length_append, List.length_singleton]
    refine hr.congr fun j hj => ?_
    by_cases h : j < L.length * 8
    · simp only [h, if_true]
      unfold ndF
      rw [ldF_lt (by omega)]
    · have e : j / 8 = L.length := by omega
      simp only [h, if_false]
      unfold ndF
      rw [e, ldF_at, show (j - L.length * 8) % 8 = j % 8 by omega]
  · intro k hk
    simp [Value.ownBlock] at hk
    subst hk
    rcases h4 with h4 | h4
    · exact hR.nb _ h4
    · have := hR.B.size; omega
  · have := h3.size; omega
  · intro b hb hne
    rw [h3.block b (by omega) (fun e => hne e.symm)]
    exact Below.heap_alloc _ _ _ hb

theorem newsn_core (w0 : World) (y : Nd) : ∀ j u, (y.vals).toList[j]? = some u → (w0.alloc (.cells (y.vals) 55)).cell? ((⟨w0.heap.size, 0, none⟩ : Addr).add j) = some u := World.news_of_block (heap_new w0 _)
theorem onen_core (y : Nd) : ∀ u ∈ (y.vals).toList, u.oneCell' = true := by
  intro u hu
  simp [Nd.vals, hdA] at hu
  rcases hu with rfl | rfl | rfl | rfl | rfl | rfl | rfl | rfl <;> rfl
theorem append_node {W w0 : World} {ops : Array Oper} {rest : List Oper} {o : Oper} {a : Act} {Q : Exit → Act → World → Prop} (hgd : o.guard = none) (d x : Operand)
    (ho : o.op = .call { callee := .builtin .append, args := #[d, x], argTypes := #[53, 53] }) (y : Nd) {v : Value} {L : List Nd} (hR : RN W w0 v L) (hs : a.eval d = v) (hx : a.eval x = .slice (some ⟨w0.heap.size, 0, none⟩) 1 1) (hlen : L.length ≤ 1000000000)
    (h : ∀ v' w', RN W w' v' (L ++ [y]) → w0.heap.size ≤ w'.heap.size → (∀ b, b < w0.heap.size → v.ownBlock ≠ some b → w'.heap[b]? = w0.heap[b]?) → (v'.ownBlock = v.ownBlock ∨ ∃ g, v'.ownBlock = some g ∧ w0.heap.size < g) → wpList Tryz.prog ops Q rest (a.put o.dst v') w') :
    wpList Tryz.prog ops Q (o :: rest) a (w0.alloc (.cells (y.vals) 55)) := by
  obtain ⟨i0, hi, hz0, hz1, hz2⟩ := info_parts Tryz.info55
  refine wpList_append_lies _ hgd d x 53 ho 0 55 i0 _ 8 72 Tryz.underlying53 hi hz0 hz1 hz2 rfl (by decide) v L.length _ hs (hR.row.alloc _) ⟨w0.heap.size, 0, none⟩ 1 1 (y.vals).toList hx rfl (newsn_core w0 y) (onen_core y) (by decide) (by unfold maxLen; omega) (by omega) (Nat.zero_le _) _ rfl ?_
  intro g cap w' h2 h3 h4 h5
  obtain ⟨q1, q2, q3⟩ := appn_core hR h2 h3 h4
  refine h _ w' q1 q2 q3 ?_
  rcases h4 with h4 | h4
  · exact .inl h4.symm
  · exact .inr ⟨g, rfl, by rw [h4, size_alloc]; omega⟩
theorem ndF_at (A : Nat → Nd) (j i : Nat) (hi : i < 8) : ndF A (j * 8 + i) = (A j).vals.getD i undef := by
  unfold ndF
  rw [show (j * 8 + i) / 8 = j by omega, show (j * 8 + i) % 8 = i by omega]
theorem RowN.lies {w : World} {v : Value} {L : List Nd} (h : RowN w v L) : (v = .slice none 0 0 ∧ L = []) ∨ ∃ g cap, v = .slice (some ⟨g, 0, none⟩) L.length cap ∧ L.length ≤ cap ∧ cap ≤ 9223372036854775807 ∧ ∀ j, j < L.length → NdAt w g (0 + j * 8) (ldF L j) := by
  have h' := h
  rcases h.2 with ⟨rfl, e⟩ | ⟨g, cap, cur, rfl, _, _, hc1, hc2, _⟩
  · left
    exact ⟨rfl, List.length_eq_zero_iff.1 e⟩
  · right
    refine ⟨g, cap, rfl, hc1, hc2, fun j hj => ?_⟩
    rw [Nat.zero_add]
    have c := fun i (hi : i < 8) => (Row.cell h' (j := j * 8 + i) (by omega)).trans (congrArg some (ndF_at (ldF L) j i hi))
    exact ⟨c 0 (by omega), c 1 (by omega), c 2 (by omega), c 3 (by omega), c 4 (by omega), c 5 (by omega), c 6 (by omega), c 7 (by omega)⟩
theorem ldF_get {L : List Nd} {i : Nat} (h : i < L.length) : ldF L i = L[i] := by
  unfold ldF
  rw [List.getD_eq_getElem?_getD, List.getElem?_eq_getElem h]; rfl
/-- All blocks in which kids lie are such. -/
inductive Bk (P : Nat → Prop) : Nd → Prop
  | mk (h : Hd) (a : Option Addr) (c : Nat) (ks : List Nd) (hb : ∀ x, a = some x → P x.block) (hs : ∀ k ∈ ks, Bk P k) : Bk P (.mk h a c ks)
theorem Bk.mono {P Q : Nat → Prop} (h : ∀ b, P b → Q b) : ∀ {m : Nd}, Bk P m → Bk Q m := by
  intro m hm
  induction hm with
  | mk g a c ks hb _ ih => exact .mk g a c ks (fun x e => h _ (hb x e)) ih
theorem Lies.bk {P : Nat → Prop} {w w' : World} (k : ∀ b, b < w.heap.size → P b → w'.heap[b]? = w.heap[b]?) : ∀ {m : Nd}, Lies w m → Bk P m → Lies w' m := by
  intro m hl
  induction hl with
  | mk h a c ks hr hc hm hk _ ih =>
    intro hB
    cases hB with
    | mk _ _ _ _ hb hs =>
      refine .mk h a c ks hr hc hm (fun i hi => ?_) (fun x hx => ih x hx (hs x hx))
      obtain ⟨b, o, e, hat⟩ := hk i hi
      exact ⟨b, o, e, hat.blk (k b hat.lt (hb _ e))⟩
/-- The same expression without places. -/
inductive Bare : Nd → Nd → Prop
  | mk (h : Hd) (a a' : Option Addr) (c c' : Nat) (ks ks' : List Nd) (hl : ks'.length = ks.length) (hk : ∀ i (h1 : i < ks.length) (h2 : i < ks'.length), Bare ks[i] ks'[i]) : Bare (.mk h a c ks) (.mk { h with p := 0 } a' c' ks')
end Go.Proofs.YtighocmdlifheaaGreatDoor

/-
  named: what a node says, with nothing but what its kind names.
-/
namespace Go.Proofs.YtighocmdlifheaaGreatDoor
open Go.RowKit
theorem mid3 (w : World) (A B C : Obj) : (((w.alloc A).alloc B).alloc C).heap[w.heap.size + 1]? = some B := by
  refine heap_old ?_ (by rw [size_alloc, size_alloc]; omega)
  rw [← size_alloc w A]; exact heap_new _ _
theorem below3 (w : World) (A B C : Obj) : Below w.heap.size w (((w.alloc A).alloc B).alloc C) := (below_two _ _ _).alloc (by rw [size_alloc, size_alloc]; omega) _
set_option maxRecDepth 100000 in
set_option maxHeartbeats 2000000 in
theorem nm_1 (o t n f : Int) (x : ByteArray) (w : World) : Calls Tryz.prog 126 #[.agg #[.int .u8 1, .int .u8 o, .int .u8 t, .int .i64 n, .int .u8 f, .string x]] w fun e w' => e = .returned (.agg #[.int .u8 1, .int .u8 0, .int .u8 t, .int .i64 n, .int .u8 0, .string ⟨#[]⟩]) ∧ Below w.heap.size w w' := by
  go_enter Tryz.func126, Tryz.ntmps126
  go_wp2_with fail
  exact bodyPost_ret (results_cell_row rfl _ _ (w.heap.size + 1) 117 #[.int .u8 1, .int .u8 0, .int .u8 t, .int .i64 n, .int .u8 0, .string ⟨#[]⟩] (0, 0) _ rfl (mid3 _ _ _ _) Tryz.underlying117 rfl (by kernel_rfl)) rfl ⟨rfl, below3 _ _ _ _⟩
set_option maxRecDepth 100000 in
set_option maxHeartbeats 2000000 in
theorem nm_9 (o t n f : Int) (x : ByteArray) (w : World) : Calls Tryz.prog 126 #[.agg #[.int .u8 9, .int .u8 o, .int .u8 t, .int .i64 n, .int .u8 f, .string x]] w fun e w' => e = .returned (.agg #[.int .u8 9, .int .u8 0, .int .u8 t, .int .i64 0, .int .u8 0, .string ⟨#[]⟩]) ∧ Below w.heap.size w w' := by
  go_enter Tryz.func126, Tryz.ntmps126
  go_wp2_with fail
  exact bodyPost_ret (results_cell_row rfl _ _ (w.heap.size + 1) 117 #[.int .u8 9, .int .u8 0, .int .u8 t, .int .i64 0, .int .u8 0, .string ⟨#[]⟩] (0, 0) _ rfl (mid3 _ _ _ _) Tryz.underlying117 rfl (by kernel_rfl)) rfl ⟨rfl, below3 _ _ _ _⟩
set_option maxRecDepth 100000 in
set_option maxHeartbeats 2000000 in
theorem nm_2 (o t n f : Int) (x : ByteArray) (w : World) : Calls Tryz.prog 126 #[.agg #[.int .u8 2, .int .u8 o, .int .u8 t, .int .i64 n, .int .u8 f, .string x]] w fun e w' => e = .returned (.agg #[.int .u8 2, .int .u8 0, .int .u8 0, .int .i64 0, .int .u8 0, .string x]) ∧ Below w.heap.size w w' := by
  go_enter Tryz.func126, Tryz.ntmps126
  go_wp2_with fail
  exact bodyPost_ret (results_cell_row rfl _ _ (w.heap.size + 1) 117 #[.int .u8 2, .int .u8 0, .int .u8 0, .int .i64 0, .int .u8 0, .string x] (0, 0) _ rfl (mid3 _ _ _ _) Tryz.underlying117 rfl (by kernel_rfl)) rfl ⟨rfl, below3 _ _ _ _⟩
set_option maxRecDepth 100000 in
set_option maxHeartbeats 2000000 in
theorem nm_3 (o t n f : Int) (x : ByteArray) (w : World) : Calls Tryz.prog 126 #[.agg #[.int .u8 3, .int .u8 o, .int .u8 t, .int .i64 n, .int .u8 f, .string x]] w fun e w' => e = .returned (.agg #[.int .u8 3, .int .u8 0, .int .u8 0, .int .i64 0, .int .u8 f, .string ⟨#[]⟩]) ∧ Below w.heap.size w w' := by
  go_enter Tryz.func126, Tryz.ntmps126
  go_wp2_with fail
  exact bodyPost_ret (results_cell_row rfl _ _ (w.heap.size + 1) 117 #[.int .u8 3, .int .u8 0, .int .u8 0, .int .i64 0, .int .u8 f, .string ⟨#[]⟩] (0, 0) _ rfl (mid3 _ _ _ _) Tryz.underlying117 rfl (by kernel_rfl)) rfl ⟨rfl, below3 _ _ _ _⟩
set_option maxRecDepth 100000 in
set_option maxHeartbeats 2000000 in
theorem nm_4 (o t n f : Int) (x : ByteArray) (w : World) : Calls Tryz.prog 126 #[.agg #[.int .u8 4, .int .u8 o, .int .u8 t, .int .i64 n, .int .u8 f, .string x]] w fun e w' => e = .returned (.agg #[.int .u8 4, .int .u8 0, .int .u8 0, .int .i64 0, .int .u8 f, .string ⟨#[]⟩]) ∧ Below w.heap.size w w' := by
  go_enter Tryz.func126, Tryz.ntmps126
  go_wp2_with fail
  exact bodyPost_ret (results_cell_row rfl _ _ (w.heap.size + 1) 117 #[.int .u8 4, .int .u8 0, .int .u8 0, .int .i64 0, .int .u8 f, .string ⟨#[]⟩] (0, 0) _ rfl (mid3 _ _ _ _) Tryz.underlying117 rfl (by kernel_rfl)) rfl ⟨rfl, below3 _ _ _ _⟩
set_option maxRecDepth 100000 in
set_option maxHeartbeats 2000000 in
theorem nm_5 (o t n f : Int) (x : ByteArray) (w : World) : Calls Tryz.prog 126 #[.agg #[.int .u8 5, .int .u8 o, .int .u8 t, .int .i64 n, .int .u8 f, .string x]] w fun e w' => e = .returned (.agg #[.int .u8 5, .int .u8 o, .int .u8 0, .int .i64 0, .int .u8 0, .string ⟨#[]⟩]) ∧ Below w.heap.size w w' := by
  go_enter Tryz.func126, Tryz.ntmps126
  go_wp2_with fail
  exact bodyPost_ret (results_cell_row rfl _ _ (w.heap.size + 1) 117 #[.int .u8 5, .int .u8 o, .int .u8 0, .int .i64 0, .int .u8 0, .string ⟨#[]⟩] (0, 0) _ rfl (mid3 _ _ _ _) Tryz.underlying117 rfl (by kernel_rfl)) rfl ⟨rfl, below3 _ _ _ _⟩
set_option maxRecDepth 100000 in
set_option maxHeartbeats 2000000 in
theorem nm_6 (o t n f : Int) (x : ByteArray) (w : World) : Calls Tryz.prog 126 #[.agg #[.int .u8 6, .int .u8 o, .int .u8 t, .int .i64 n, .int .u8 f, .string x]] w fun e w' => e = .returned (.agg #[.int .u8 6, .int .u8 o, .int .u8 0, .int .i64 0, .int .u8 0, .string ⟨#[]⟩]) ∧ Below w.heap.size w w' := by
  go_enter Tryz.func126, Tryz.ntmps126
  go_wp2_with fail
  exact bodyPost_ret (results_cell_row rfl _ _ (w.heap.size + 1) 117 #[.int .u8 6, .int .u8 o, .int .u8 0, .int .i64 0, .int .u8 0, .string ⟨#[]⟩] (0, 0) _ rfl (mid3 _ _ _ _) Tryz.underlying117 rfl (by kernel_rfl)) rfl ⟨rfl, below3 _ _ _ _⟩
set_option maxRecDepth 100000 in
set_option maxHeartbeats 2000000 in
theorem nm_8 (o t n f : Int) (x : ByteArray) (w : World) : Calls Tryz.prog 126 #[.agg #[.int .u8 8, .int .u8 o, .int .u8 t, .int .i64 n, .int .u8 f, .string x]] w fun e w' => e = .returned (.agg #[.int .u8 8, .int .u8 o, .int .u8 0, .int .i64 0, .int .u8 0, .string ⟨#[]⟩]) ∧ Below w.heap.size w w' := by
  go_enter Tryz.func126, Tryz.ntmps126
  go_wp2_with fail
  exact bodyPost_ret (results_cell_row rfl _ _ (w.heap.size + 1) 117 #[.int .u8 8, .int .u8 o, .int .u8 0, .int .i64 0, .int .u8 0, .string ⟨#[]⟩] (0, 0) _ rfl (mid3 _ _ _ _) Tryz.underlying117 rfl (by kernel_rfl)) rfl ⟨rfl, below3 _ _ _ _⟩
set_option maxRecDepth 100000 in
set_option maxHeartbeats 2000000 in
theorem nm_z (k : Int) (e1 : (k == 1) = false) (e2 : (k == 2) = false) (e3 : (k == 3) = false) (e4 : (k == 4) = false) (e5 : (k == 5) = false) (e6 : (k == 6) = false) (e8 : (k == 8) = false) (e9 : (k == 9) = false) (o t n f : Int) (x : ByteArray) (w : World) : Calls Tryz.prog 126 #[.agg #[.int .u8 k, .int .u8 o, .int .u8 t, .int .i64 n, .int .u8 f, .string x]] w fun e w' => e = .returned (.agg #[.int .u8 k, .int .u8 0, .int .u8 0, .int .i64 0, .int .u8 0, .string ⟨#[]⟩]) ∧ Below w.heap.size w w' := by
  go_enter Tryz.func126, Tryz.ntmps126
  go_wp2_with fail
  exact bodyPost_ret (results_cell_row rfl _ _ (w.heap.size + 1) 117 #[.int .u8 k, .int .u8 0, .int .u8 0, .int .i64 0, .int .u8 0, .string ⟨#[]⟩] (0, 0) _ rfl (mid3 _ _ _ _) Tryz.underlying117 rfl (by kernel_rfl)) rfl ⟨rfl, below3 _ _ _ _⟩
theorem named_any (h : Hd) (w : World) : Calls Tryz.prog 126 #[.agg (selfA h)] w fun e w' => e = .returned (.agg (selfA (nm h))) ∧ Below w.heap.size w w' := by
  obtain ⟨k, o, t, n, f, x, p⟩ := h
  unfold selfA nm
  simp only
  by_cases e1 : k = 1
  · subst e1; exact nm_1 o t n f x w
  by_cases e9 : k = 9
  · subst e9; exact nm_9 o t n f x w
  by_cases e2 : k = 2
  · subst e2; exact nm_2 o t n f x w
  by_cases e3 : k = 3
  · subst e3; exact nm_3 o t n f x w
  by_cases e4 : k = 4
  · subst e4; exact nm_4 o t n f x w
  by_cases e5 : k = 5
  · subst e5; exact nm_5 o t n f x w
  by_cases e6 : k = 6
  · subst e6; exact nm_6 o t n f x w
  by_cases e8 : k = 8
  · subst e8; exact nm_8 o t n f x w
  rw [if_neg e1, if_neg e9, if_neg e2, if_neg (by omega), if_neg (by omega)]
  exact nm_z k (by simp [e1]) (by simp [e2]) (by simp [e3]) (by simp [e4]) (by simp [e5]) (by simp [e6]) (by simp [e8]) (by simp [e9]) o t n f x w
end Go.Proofs.YtighocmdlifheaaGreatDoor
