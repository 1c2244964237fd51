/-
  Expressions in plain words: nodes with the places of their kids; how they lie in memory.
-/
import Derived.Test.YtkfabnchhjfjjabGreatDoorLxy
namespace Go.Proofs.YtkfabnchhjfjjabGreatDoor
open Go.RowKit

/-- What a node says itself. -/
structure Hd where
  k : Int
  o : Int
  t : Int
  n : Int
  f : Int
  x : ByteArray
  p : Int
/-- A node: itself, where its kids lie, with how much room, and its kids. -/
inductive Nd where
  | mk (h : Hd) (a : Option Addr) (c : Nat) (ks : List Nd)
namespace Nd
def h : Nd → Hd | .mk h _ _ _ => h
def a : Nd → Option Addr | .mk _ a _ _ => a
def c : Nd → Nat | .mk _ _ c _ => c
def ks : Nd → List Nd | .mk _ _ _ ks => ks
theorem ind {P : Nd → Prop} (H : ∀ h a c ks, (∀ k ∈ ks, P k) → P (.mk h a c ks)) : ∀ m, P m :=
  @Nd.rec P (fun ks => ∀ k ∈ ks, P k) (fun h a c ks ih => H h a c ks ih) (fun _ hk => by cases hk) (fun k ks h1 h2 x hx => by
    rcases List.mem_cons.1 hx with e | e
    · rw [e]; exact h1
    · exact h2 x e)
end Nd
def hdA (h : Hd) (a : Option Addr) (l c : Nat) : Array Value := #[.int .u8 h.k, .int .u8 h.o, .int .u8 h.t, .int .i64 h.n, .int .u8 h.f, .string h.x, .slice a l c, .int .i64 h.p]
def Nd.vals (m : Nd) : Array Value := hdA m.h m.a m.ks.length m.c
/-- Eight cells that hold a node. -/
structure NdAt (w : World) (b o : Nat) (m : Nd) : Prop where
  c0 : w.cell? ⟨b, o, none⟩ = some (.int .u8 m.h.k)
  c1 : w.cell? ⟨b, o + 1, none⟩ = some (.int .u8 m.h.o)
  c2 : w.cell? ⟨b, o + 2, none⟩ = some (.int .u8 m.h.t)
  c3 : w.cell? ⟨b, o + 3, none⟩ = some (.int .i64 m.h.n)
  c4 : w.cell? ⟨b, o + 4, none⟩ = some (.int .u8 m.h.f)
  c5 : w.cell? ⟨b, o + 5, none⟩ = some (.string m.h.x)
  c6 : w.cell? ⟨b, o + 6, none⟩ = some (.slice m.a m.ks.length m.c)
  c7 : w.cell? ⟨b, o + 7, none⟩ = some (.int .i64 m.h.p)
theorem NdAt.lt {w : World} {b o : Nat} {m : Nd} (h : NdAt w b o m) : b < w.heap.size := World.block_lt_of_cell? w _ h.c0
theorem NdAt.blk {w w' : World} {b o : Nat} {m : Nd} (h : NdAt w b o m) (k : w'.heap[b]? = w.heap[b]?) : NdAt w' b o m :=
  ⟨(World.cell?_of_block k).trans h.c0, (World.cell?_of_block k).trans h.c1, (World.cell?_of_block k).trans h.c2, (World.cell?_of_block k).trans h.c3, (World.cell?_of_block k).trans h.c4, (World.cell?_of_block k).trans h.c5, (World.cell?_of_block k).trans h.c6, (World.cell?_of_block k).trans h.c7⟩
theorem NdAt.on {w w' : World} {b o : Nat} {m : Nd} (h : NdAt w b o m) (k : Below w.heap.size w w') : NdAt w' b o m := h.blk (k.block b h.lt)
/-- What a node's numbers may be. -/
structure Rg (h : Hd) : Prop where
  k0 : 0 ≤ h.k
  k1 : h.k ≤ 255
  o0 : 0 ≤ h.o
  o1 : h.o ≤ 255
  t0 : 0 ≤ h.t
  t1 : h.t ≤ 255
  n0 : -9223372036854775808 ≤ h.n
  n1 : h.n ≤ 9223372036854775807
  f0 : 0 ≤ h.f
  f1 : h.f ≤ 255
  p0 : -9223372036854775808 ≤ h.p
  p1 : h.p ≤ 9223372036854775807
  x1 : h.x.size ≤ 140737488355328
/-- An expression that lies in memory. -/
inductive Lies (w : World) : Nd → Prop
  | mk (h : Hd) (a : Option Addr) (c : Nat) (ks : List Nd) (hr : Rg h) (hc : ks.length ≤ c) (hm : c ≤ 9223372036854775807)
      (hk : ∀ i (hi : i < ks.length), ∃ b o, a = some ⟨b, o, none⟩ ∧ NdAt w b (o + i * 8) ks[i]) (hs : ∀ k ∈ ks, Lies w k) : Lies w (.mk h a c ks)
theorem Lies.rg {w : World} {m : Nd} (h : Lies w m) : Rg m.h := by cases h; assumption
theorem Lies.cap {w : World} {m : Nd} (h : Lies w m) : m.ks.length ≤ m.c := by cases h; assumption
theorem Lies.max {w : World} {m : Nd} (h : Lies w m) : m.c ≤ 9223372036854775807 := by cases h; assumption
theorem Lies.kid {w : World} {m : Nd} (h : Lies w m) (i : Nat) (hi : i < m.ks.length) : ∃ b o, m.a = some ⟨b, o, none⟩ ∧ NdAt w b (o + i * 8) m.ks[i] := by cases h with | mk h a c ks hr hc hm hk hs => exact hk i hi
theorem Lies.sub {w : World} {m : Nd} (h : Lies w m) (k : Nd) (hk : k ∈ m.ks) : Lies w k := by cases h with | mk h a c ks hr hc hm hk' hs => exact hs k hk
theorem Lies.blk {w w' : World} : ∀ {m : Nd}, Lies w m → (∀ b, b < w.heap.size → w'.heap[b]? = w.heap[b]?) → Lies w' m := by
  intro m h k
  induction h with
  | mk h a c ks hr hc hm hk hs ih =>
    refine .mk h a c ks hr hc hm (fun i hi => ?_) ih
    obtain ⟨b, o, e, hat⟩ := hk i hi
    exact ⟨b, o, e, hat.blk (k b hat.lt)⟩
theorem Lies.on {w w' : World} {m : Nd} (h : Lies w m) (k : Below w.heap.size w w') : Lies w' m := h.blk k.block
theorem Lies.cut {w : World} {h : Hd} {a : Option Addr} {c d : Nat} {ks : List Nd} (l : Lies w (.mk h a c ks)) (hd : ks.length ≤ d) (hm : d ≤ 9223372036854775807) : Lies w (.mk h a d ks) := by
  cases l with | mk _ _ _ _ hr hc hm' hk hs => exact .mk h a d ks hr hd hm hk hs
theorem Lies.hid {w : World} {m : Nd} (h : Lies w m) : Hid (Lies w m) := h
/-- A block that holds a node by itself. -/
def NdH (w : World) (b : Nat) (m : Nd) : Prop := w.heap[b]? = some (.cells m.vals 52 (0, 0))
theorem NdH.lt {w : World} {b : Nat} {m : Nd} (h : NdH w b m) : b < w.heap.size := (Array.getElem?_eq_some_iff.1 h).1
theorem NdH.at {w : World} {b : Nat} {m : Nd} (h : NdH w b m) : NdAt w b 0 m := ⟨cell_of h 0, cell_of h 1, cell_of h 2, cell_of h 3, cell_of h 4, cell_of h 5, cell_of h 6, cell_of h 7⟩
theorem NdH.on {w w' : World} {b : Nat} {m : Nd} (h : NdH w b m) (k : Below w.heap.size w w') : NdH w' b m := (k.block b h.lt).trans h
theorem NdH.hid {w : World} {b : Nat} {m : Nd} (h : NdH w b m) : Hid (NdH w b m) := h
theorem NdAt.hid {w : World} {b o : Nat} {m : Nd} (h : NdAt w b o m) : Hid (NdAt w b o m) := h
mutual
/-- How many nodes. -/
def size : Nd → Nat
  | .mk _ _ _ ks => 1 + sizes ks
def sizes : List Nd → Nat
  | [] => 0
  | k :: ks => size k + sizes ks
end
mutual
/-- All nodes, a node ahead of its kids. -/
def pre : Nd → List Nd
  | .mk h a c ks => .mk h a c ks :: pres ks
def pres : List Nd → List Nd
  | [] => []
  | k :: ks => pre k ++ pres ks
end
theorem size_pre : ∀ m, (pre m).length = size m := by
  refine Nd.ind fun h a c ks ih => ?_
  have : ∀ l : List Nd, (∀ k ∈ l, (pre k).length = size k) → (pres l).length = sizes l := by
    intro l
    induction l with
    | nil => intro _; rfl
    | cons k l ihl => intro hl; simp only [pres, sizes, List.length_append]; rw [hl k (by simp), ihl fun x hx => hl x (by simp [hx])]
  simp only [pre, size, List.length_cons]
  rw [this ks ih]; omega
def numB (t : Int) : Bool := decide (1 ≤ t ∧ t ≤ 4)
def litB (t n : Int) : Bool := if t = 5 then decide (0 ≤ n ∧ n ≤ 1) else if t = 6 then decide (1 ≤ n ∧ n ≤ 2) else numB t && decide (0 ≤ n)
/-- What a node says, with nothing but what its kind names. -/
def nm (h : Hd) : Hd :=
  if h.k = 1 then ⟨h.k, 0, h.t, h.n, 0, ⟨#[]⟩, 0⟩ else
  if h.k = 9 then ⟨h.k, 0, h.t, 0, 0, ⟨#[]⟩, 0⟩ else
  if h.k = 2 then ⟨h.k, 0, 0, 0, 0, h.x, 0⟩ else
  if h.k = 3 ∨ h.k = 4 then ⟨h.k, 0, 0, 0, h.f, ⟨#[]⟩, 0⟩ else
  if h.k = 5 ∨ h.k = 6 ∨ h.k = 8 then ⟨h.k, h.o, 0, 0, 0, ⟨#[]⟩, 0⟩ else ⟨h.k, 0, 0, 0, 0, ⟨#[]⟩, 0⟩
/-- Are they as they may be, with so many kids? -/
def fitB (h : Hd) (l : Nat) : Bool :=
  if h.k = 1 then decide (l = 0) && litB h.t h.n else
  if h.k = 2 then decide (l = 0) && nameB h.x else
  if h.k = 3 then decide (l = 0) && decide (1 ≤ h.f ∧ h.f ≤ 6) else
  if h.k = 4 then decide (l = 0) && decide (1 ≤ h.f ∧ h.f ≤ 3) else
  if h.k = 5 then decide (l = 1) && decide (1 ≤ h.o ∧ h.o ≤ 2) else
  if h.k = 6 then decide (l = 2) && decide (6 ≤ h.o ∧ h.o ≤ 18) else
  if h.k = 7 then decide (l = 3) else
  if h.k = 8 then (decide (l = 1) && decide (h.o = 3)) || (decide (l = 2) && decide (4 ≤ h.o ∧ h.o ≤ 5)) else
  if h.k = 9 then decide (l = 1) && numB h.t else false
def selfA (h : Hd) : Array Value := #[.int .u8 h.k, .int .u8 h.o, .int .u8 h.t, .int .i64 h.n, .int .u8 h.f, .string h.x]
/-- Are two nodes the same, but for kids and places? -/
def alike (g h : Hd) : Bool := decide (g.k = h.k) && (decide (g.o = h.o) && (decide (g.t = h.t) && (decide (g.n = h.n) && (decide (g.f = h.f) && decide (g.x = h.x)))))
def oneH (h : Hd) (l : Nat) : Bool := alike h (nm h) && fitB h l
mutual
/-- Is each node one of the table's? -/
def formB : Nd → Bool
  | .mk h _ _ ks => oneH h ks.length && formsB ks
def formsB : List Nd → Bool
  | [] => true
  | k :: ks => formB k && formsB ks
end
def lvO (o : Int) : Int := if o = 18 then 2 else if o = 17 then 3 else if o = 6 ∨ o = 7 then 5 else if o = 8 ∨ o = 9 ∨ o = 10 then 6 else 4
/-- The level of a node. -/
def lvl (h : Hd) : Int := if h.k = 7 then 1 else if h.k = 6 then lvO h.o else if h.k = 5 then 7 else 8
/-- The level that a kid's place asks for. -/
def ask (h : Hd) (i : Nat) : Int := if h.k = 7 then (if i = 0 then 2 else 1) else if h.k = 6 then (if lvl h = 4 then 5 else lvl h + i) else if h.k = 5 then 7 else 1
def dwn (h : Hd) (i : Nat) : Bool := if h.k = 6 then false else if h.k = 7 then decide (0 < i) else true
def inc (b : Bool) (d : Nat) : Nat := if b = true then d + 1 else d
mutual
/-- How deep an expression goes. -/
def dep : Nd → Nat
  | .mk h _ _ ks => deps h 0 ks
def deps (h : Hd) : Nat → List Nd → Nat
  | _, [] => 0
  | i, k :: ks => Nat.max (inc (dwn h i) (inc (decide (lvl k.h < ask h i)) (dep k))) (deps h (i + 1) ks)
end
mutual
/-- Are two expressions the same, but for places? -/
def sameB : Nd → Nd → Bool
  | .mk g _ _ js, m => alike g m.h && (decide (js.length = m.ks.length) && samesB js m.ks)
def samesB : List Nd → List Nd → Bool
  | [], _ => true
  | _ :: _, [] => true
  | j :: js, k :: ks => sameB j k && samesB js ks
end
theorem nth_mem {ks : List Nd} {i : Nat} (hi : i < ks.length) : ks[i] ∈ ks := List.getElem_mem hi
theorem drop_nth {ks : List Nd} {i : Nat} (hi : i < ks.length) : ks.drop i = ks[i] :: ks.drop (i + 1) := List.drop_eq_getElem_cons hi
end Go.Proofs.YtkfabnchhjfjjabGreatDoor
