/-
  Feeds in memory, and what a fold keeps in it.
-/
import Derived.Test.YtjjmpfpbfkploaaRdif
namespace Go.Proofs.Ytjjmpfpbfkploaa
open Go.RowKit

/-- A feed that came in: its numbers are of their kinds. -/
structure Wf (f : Fd) : Prop where
  k0 : 0 ≤ f.k
  k1 : f.k ≤ 255
  a0 : -9223372036854775808 ≤ f.a
  a1 : f.a ≤ 9223372036854775807
/-- A slice of feeds. -/
def Fds (w : World) (ao : Option Addr) (len : Nat) (A : Nat → Fd) : Prop :=
  0 < len → ∃ b off, ao = some ⟨b, off, none⟩ ∧ b < w.heap.size ∧ ∀ j, j < len → FdAt w b (off + j * 3) (A j) ∧ Wf (A j)
theorem Fds.on {w w' : World} {ao : Option Addr} {len : Nat} {A : Nat → Fd} (h : Fds w ao len A) (k : Below w.heap.size w w') : Fds w' ao len A := by
  intro h0
  obtain ⟨b, off, e, hb, hc⟩ := h h0
  exact ⟨b, off, e, Nat.lt_of_lt_of_le hb k.size, fun j hj => ⟨(hc j hj).1.on k hb, (hc j hj).2⟩⟩

theorem heap_set {w : World} {g j : Nat} {cs : Array Value} {t : TypeId} {fr : Nat × Nat} (v : Value) (h : w.heap[g]? = some (.cells cs t fr)) : (w.setCell ⟨g, j, none⟩ v).heap[g]? = some (.cells (cs.setIfInBounds j v) t fr) := by
  have hg : g < w.heap.size := (Array.getElem?_eq_some_iff.1 h).1
  have hv : w.heap[g] = .cells cs t fr := (Array.getElem?_eq_some_iff.1 h).2
  unfold World.setCell
  simp [hg, Array.getElem_modify, hv]
theorem frozen_of {w : World} {g : Nat} {cs : Array Value} {t : TypeId} (h : w.heap[g]? = some (.cells cs t (0, 0))) (j : Nat) : w.frozen? ⟨g, j, none⟩ = false := by
  unfold World.frozen?; rw [h]; simp
theorem cell_of {w : World} {g : Nat} {cs : Array Value} {t : TypeId} {fr : Nat × Nat} (h : w.heap[g]? = some (.cells cs t fr)) (j : Nat) : w.cell? ⟨g, j, none⟩ = cs[j]? := by
  unfold World.cell?; rw [h]; simp
/-- A snapshot that fills a block of the call's own. -/
def SnH (w : World) (b : Nat) (t : TypeId) (s : Sn) : Prop := w.heap[b]? = some (.cells (snA s) t (0, 0))
theorem SnH.at {w : World} {b : Nat} {t : TypeId} {s : Sn} (h : SnH w b t s) : SnAt w b s :=
  ⟨cell_of h 0, cell_of h 1, cell_of h 2, cell_of h 3, cell_of h 4, cell_of h 5⟩
theorem SnH.lt {w : World} {b : Nat} {t : TypeId} {s : Sn} (h : SnH w b t s) : b < w.heap.size := (Array.getElem?_eq_some_iff.1 h).1
theorem SnH.on {w w' : World} {b B : Nat} {t : TypeId} {s : Sn} (h : SnH w b t s) (k : Below B w w') (hb : b < B) : SnH w' b t s := (k.block b hb).trans h
theorem SnH.new (w : World) (s : Sn) (t : TypeId) : SnH (w.alloc (.cells (snA s) t)) w.heap.size t s := heap_new w _
theorem SnH.put {w : World} {b : Nat} {t : TypeId} {s : Sn} (h : SnH w b t s) (n : Sn) : SnH ((((((w.setCell ⟨b, 0, none⟩ (.int .i64 n.bid)).setCell ⟨b, 1, none⟩ (.int .i64 n.ask)).setCell ⟨b, 2, none⟩ (.int .i64 n.last)).setCell ⟨b, 3, none⟩ (.int .i64 n.vol)).setCell ⟨b, 4, none⟩ (.int .i64 n.now)).setCell ⟨b, 5, none⟩ (.int .i64 n.opn)) b t n :=
  heap_set _ (heap_set _ (heap_set _ (heap_set _ (heap_set _ (heap_set _ h)))))
theorem below_put {B : Nat} {w v : World} {b : Nat} (h : Below B w v) (hb : B ≤ b) (v0 v1 v2 v3 v4 v5 : Value) : Below B w ((((((v.setCell ⟨b, 0, none⟩ v0).setCell ⟨b, 1, none⟩ v1).setCell ⟨b, 2, none⟩ v2).setCell ⟨b, 3, none⟩ v3).setCell ⟨b, 4, none⟩ v4).setCell ⟨b, 5, none⟩ v5) :=
  (((((h.setCell (p := ⟨b, 0, none⟩) hb v0).setCell (p := ⟨b, 1, none⟩) hb v1).setCell (p := ⟨b, 2, none⟩) hb v2).setCell (p := ⟨b, 3, none⟩) hb v3).setCell (p := ⟨b, 4, none⟩) hb v4).setCell (p := ⟨b, 5, none⟩) hb v5
theorem heap_put_other {v : World} {b c : Nat} (hc : c ≠ b) (v0 v1 v2 v3 v4 v5 : Value) : ((((((v.setCell ⟨b, 0, none⟩ v0).setCell ⟨b, 1, none⟩ v1).setCell ⟨b, 2, none⟩ v2).setCell ⟨b, 3, none⟩ v3).setCell ⟨b, 4, none⟩ v4).setCell ⟨b, 5, none⟩ v5).heap[c]? = v.heap[c]? := by
  rw [Below.heap_setCell _ _ _ _ (by exact hc), Below.heap_setCell _ _ _ _ (by exact hc), Below.heap_setCell _ _ _ _ (by exact hc), Below.heap_setCell _ _ _ _ (by exact hc), Below.heap_setCell _ _ _ _ (by exact hc), Below.heap_setCell _ _ _ _ (by exact hc)]

/-- What a fold keeps: the snapshot handed in, the result's block, the snapshot so far. -/
structure FG (w v : World) (R M : Nat) (tm : TypeId) (s cur : Sn) : Prop where
  S : SnH v w.heap.size 23 s
  Z : SnH v R 23 sn0
  V : SnH v M tm cur
  r : w.heap.size < R
  m : R < M
  B : Below w.heap.size w v
theorem FG.step {w v v' : World} {R M : Nat} {tm : TypeId} {s cur : Sn} (h : FG w v R M tm s cur) (k : Below v.heap.size v v') : FG w v' R M tm s cur :=
  ⟨h.S.on k h.S.lt, h.Z.on k h.Z.lt, h.V.on k h.V.lt, h.r, h.m, h.B.trans (k.mono h.B.size)⟩
theorem FG.drew {w v : World} {R M : Nat} {tm : TypeId} {s cur : Sn} (h : FG w v R M tm s cur) : FG w v.drew R M tm s cur := ⟨h.S, h.Z, h.V, h.r, h.m, h.B.drew⟩
theorem FG.hid {w v : World} {R M : Nat} {tm : TypeId} {s cur : Sn} (h : FG w v R M tm s cur) : Hid (FG w v R M tm s cur) := h
theorem FG.put {w v : World} {R M : Nat} {tm : TypeId} {s cur : Sn} (h : FG w v R M tm s cur) (n : Sn) : FG w ((((((v.setCell ⟨M, 0, none⟩ (.int .i64 n.bid)).setCell ⟨M, 1, none⟩ (.int .i64 n.ask)).setCell ⟨M, 2, none⟩ (.int .i64 n.last)).setCell ⟨M, 3, none⟩ (.int .i64 n.vol)).setCell ⟨M, 4, none⟩ (.int .i64 n.now)).setCell ⟨M, 5, none⟩ (.int .i64 n.opn)) R M tm s n :=
  ⟨(heap_put_other (by have := h.r; have := h.m; omega) _ _ _ _ _ _).trans h.S, (heap_put_other (by have := h.m; omega) _ _ _ _ _ _).trans h.Z, h.V.put n, h.r, h.m, below_put h.B (by have := h.r; have := h.m; omega) _ _ _ _ _ _⟩
theorem FG.out {w v : World} {R M : Nat} {tm : TypeId} {s cur : Sn} (h : FG w v R M tm s cur) (n : Sn) : SnH ((((((v.setCell ⟨R, 0, none⟩ (.int .i64 n.bid)).setCell ⟨R, 1, none⟩ (.int .i64 n.ask)).setCell ⟨R, 2, none⟩ (.int .i64 n.last)).setCell ⟨R, 3, none⟩ (.int .i64 n.vol)).setCell ⟨R, 4, none⟩ (.int .i64 n.now)).setCell ⟨R, 5, none⟩ (.int .i64 n.opn)) R 23 n ∧ Below w.heap.size w ((((((v.setCell ⟨R, 0, none⟩ (.int .i64 n.bid)).setCell ⟨R, 1, none⟩ (.int .i64 n.ask)).setCell ⟨R, 2, none⟩ (.int .i64 n.last)).setCell ⟨R, 3, none⟩ (.int .i64 n.vol)).setCell ⟨R, 4, none⟩ (.int .i64 n.now)).setCell ⟨R, 5, none⟩ (.int .i64 n.opn)) :=
  ⟨h.Z.put n, below_put h.B (by have := h.r; omega) _ _ _ _ _ _⟩
/-- What a fold hands back. -/
def foldV (s : Sn) (o : Option Sn) : Value := .tuple #[.agg (snA (outS o)), .int .u16 (outM s o), .int .i64 (outE o)]

/-- The world has only grown, from X on. -/
def HB (X v : World) : Prop := Below X.heap.size X v
theorem HB.refl (X : World) : HB X X := Below.refl _ X
theorem HB.drew {X v : World} (h : HB X v) : HB X v.drew := Below.drew h
theorem HB.alloc {X v : World} (h : HB X v) (o : Obj) : HB X (v.alloc o) := Below.alloc h h.size o
theorem HB.call {X u v : World} (k : Below u.heap.size u v) (h : HB X u) : HB X v := Below.trans h (k.mono h.size)
theorem HB.set {X u v : World} {j : Nat} {x : Value} (k : HB X u) (h : HB X v) : HB X (v.setCell ⟨u.heap.size, j, none⟩ x) := Below.setCell (p := ⟨u.heap.size, j, none⟩) h k.size x
theorem abs_world {Q P : World → Prop} {v : World} (h : P v) (k : ∀ v', P v' → Q v') : Q v := k v h
/-- The snapshot and the feed that a round reads. -/
structure KX (X : World) (M Y o : Nat) (cur : Sn) (x : Fd) : Prop where
  V : SnAt X M cur
  F : FdAt X Y o x
  m : M < X.heap.size
  y : Y < X.heap.size
theorem KX.hid {X : World} {M Y o : Nat} {cur : Sn} {x : Fd} (h : KX X M Y o cur x) : Hid (KX X M Y o cur x) := h
theorem KX.keep {X v : World} {M Y o : Nat} {cur : Sn} {x : Fd} (h : KX X M Y o cur x) (k : HB X v) :
    v.cell? ⟨M, 0, none⟩ = some (.int .i64 cur.bid) ∧ v.cell? ⟨M, 1, none⟩ = some (.int .i64 cur.ask) ∧ v.cell? ⟨M, 2, none⟩ = some (.int .i64 cur.last) ∧ v.cell? ⟨M, 3, none⟩ = some (.int .i64 cur.vol) ∧ v.cell? ⟨M, 4, none⟩ = some (.int .i64 cur.now) ∧ v.cell? ⟨M, 5, none⟩ = some (.int .i64 cur.opn) ∧
    v.cell? ⟨Y, o, none⟩ = some (.int .u8 x.k) ∧ v.cell? ⟨Y, o + 1, none⟩ = some (.int .i64 x.a) ∧ v.cell? ⟨Y, o + 2, none⟩ = some (.int .i64 x.b) ∧ HB X v := by
  have a := h.V.on k h.m
  have b := h.F.on k h.y
  exact ⟨a.c0, a.c1, a.c2, a.c3, a.c4, a.c5, b.c0, b.c1, b.c2, k⟩
theorem SnH.hid {w : World} {b : Nat} {t : TypeId} {s : Sn} (h : SnH w b t s) : Hid (SnH w b t s) := h
theorem SnH.onto {w w' : World} {b : Nat} {t : TypeId} {s : Sn} (h : SnH w b t s) (k : Below w.heap.size w w') : SnH w' b t s := h.on k h.lt
theorem zofA {X v : World} {t : TypeId} (h : Below (X.drew.alloc (.cells (snA sn0) t)).heap.size (X.drew.alloc (.cells (snA sn0) t)) v) : SnH v X.heap.size t sn0 := (SnH.new X.drew sn0 t).onto h
theorem zofB {X v : World} {t : TypeId} (h : Below (X.alloc (.cells (snA sn0) t)).heap.size (X.alloc (.cells (snA sn0) t)) v) : SnH v X.heap.size t sn0 := (SnH.new X sn0 t).onto h
theorem SnH.zero {w : World} {b : Nat} {t : TypeId} (h : SnH w b t sn0) :
    (w.cell? ⟨b, 0, none⟩ = some (.int .i64 0) ∧ w.cell? ⟨b, 1, none⟩ = some (.int .i64 0) ∧ w.cell? ⟨b, 2, none⟩ = some (.int .i64 0) ∧ w.cell? ⟨b, 3, none⟩ = some (.int .i64 0) ∧ w.cell? ⟨b, 4, none⟩ = some (.int .i64 0) ∧ w.cell? ⟨b, 5, none⟩ = some (.int .i64 0)) ∧ (w.frozen? ⟨b, 0, none⟩ = false ∧ w.frozen? ⟨b, 1, none⟩ = false ∧ w.frozen? ⟨b, 2, none⟩ = false ∧ w.frozen? ⟨b, 3, none⟩ = false ∧ w.frozen? ⟨b, 4, none⟩ = false ∧ w.frozen? ⟨b, 5, none⟩ = false) :=
  ⟨⟨h.at.c0, h.at.c1, h.at.c2, h.at.c3, h.at.c4, h.at.c5⟩, frozen_of h 0, frozen_of h 1, frozen_of h 2, frozen_of h 3, frozen_of h 4, frozen_of h 5⟩
theorem SnH.froz {w : World} {b : Nat} {t : TypeId} {s : Sn} (h : SnH w b t s) : w.frozen? ⟨b, 0, none⟩ = false ∧ w.frozen? ⟨b, 1, none⟩ = false ∧ w.frozen? ⟨b, 2, none⟩ = false ∧ w.frozen? ⟨b, 3, none⟩ = false ∧ w.frozen? ⟨b, 4, none⟩ = false ∧ w.frozen? ⟨b, 5, none⟩ = false := ⟨frozen_of h 0, frozen_of h 1, frozen_of h 2, frozen_of h 3, frozen_of h 4, frozen_of h 5⟩

theorem FG.keep {w v : World} {R M : Nat} {tm : TypeId} {s cur : Sn} (h : FG w v R M tm s cur) : (v).cell? ⟨M, 0, none⟩ = some (.int .i64 cur.bid) ∧ (v).cell? ⟨M, 1, none⟩ = some (.int .i64 cur.ask) ∧ (v).cell? ⟨M, 2, none⟩ = some (.int .i64 cur.last) ∧ (v).cell? ⟨M, 3, none⟩ = some (.int .i64 cur.vol) ∧ (v).cell? ⟨M, 4, none⟩ = some (.int .i64 cur.now) ∧ (v).cell? ⟨M, 5, none⟩ = some (.int .i64 cur.opn) ∧ (v).cell? ⟨w.heap.size, 0, none⟩ = some (.int .i64 s.bid) ∧ (v).cell? ⟨w.heap.size, 1, none⟩ = some (.int .i64 s.ask) ∧ (v).cell? ⟨w.heap.size, 2, none⟩ = some (.int .i64 s.last) ∧ (v).cell? ⟨w.heap.size, 3, none⟩ = some (.int .i64 s.vol) ∧ (v).cell? ⟨w.heap.size, 4, none⟩ = some (.int .i64 s.now) ∧ (v).cell? ⟨w.heap.size, 5, none⟩ = some (.int .i64 s.opn) := by
  have a := h.V.at
  have b := h.S.at
  exact ⟨a.c0, a.c1, a.c2, a.c3, a.c4, a.c5, b.c0, b.c1, b.c2, b.c3, b.c4, b.c5⟩
theorem FG.keepD {w v : World} {R M : Nat} {tm : TypeId} {s cur : Sn} (h : FG w v R M tm s cur) : (v.drew).cell? ⟨M, 0, none⟩ = some (.int .i64 cur.bid) ∧ (v.drew).cell? ⟨M, 1, none⟩ = some (.int .i64 cur.ask) ∧ (v.drew).cell? ⟨M, 2, none⟩ = some (.int .i64 cur.last) ∧ (v.drew).cell? ⟨M, 3, none⟩ = some (.int .i64 cur.vol) ∧ (v.drew).cell? ⟨M, 4, none⟩ = some (.int .i64 cur.now) ∧ (v.drew).cell? ⟨M, 5, none⟩ = some (.int .i64 cur.opn) ∧ (v.drew).cell? ⟨w.heap.size, 0, none⟩ = some (.int .i64 s.bid) ∧ (v.drew).cell? ⟨w.heap.size, 1, none⟩ = some (.int .i64 s.ask) ∧ (v.drew).cell? ⟨w.heap.size, 2, none⟩ = some (.int .i64 s.last) ∧ (v.drew).cell? ⟨w.heap.size, 3, none⟩ = some (.int .i64 s.vol) ∧ (v.drew).cell? ⟨w.heap.size, 4, none⟩ = some (.int .i64 s.now) ∧ (v.drew).cell? ⟨w.heap.size, 5, none⟩ = some (.int .i64 s.opn) := h.drew.keep
theorem FG.keepO {w v : World} {R M : Nat} {tm : TypeId} {s cur : Sn} (h : FG w v R M tm s cur) (n : Sn) : (((((((v.setCell ⟨R, 0, none⟩ (.int .i64 n.bid)).setCell ⟨R, 1, none⟩ (.int .i64 n.ask)).setCell ⟨R, 2, none⟩ (.int .i64 n.last)).setCell ⟨R, 3, none⟩ (.int .i64 n.vol)).setCell ⟨R, 4, none⟩ (.int .i64 n.now)).setCell ⟨R, 5, none⟩ (.int .i64 n.opn))).cell? ⟨M, 0, none⟩ = some (.int .i64 cur.bid) ∧ (((((((v.setCell ⟨R, 0, none⟩ (.int .i64 n.bid)).setCell ⟨R, 1, none⟩ (.int .i64 n.ask)).setCell ⟨R, 2, none⟩ (.int .i64 n.last)).setCell ⟨R, 3, none⟩ (.int .i64 n.vol)).setCell ⟨R, 4, none⟩ (.int .i64 n.now)).setCell ⟨R, 5, none⟩ (.int .i64 n.opn))).cell? ⟨M, 1, none⟩ = some (.int .i64 cur.ask) ∧ (((((((v.setCell ⟨R, 0, none⟩ (.int .i64 n.bid)).setCell ⟨R, 1, none⟩ (.int .i64 n.ask)).setCell ⟨R, 2, none⟩ (.int .i64 n.last)).setCell ⟨R, 3, none⟩ (.int .i64 n.vol)).setCell ⟨R, 4, none⟩ (.int .i64 n.now)).setCell ⟨R, 5, none⟩ (.int .i64 n.opn))).cell? ⟨M, 2, none⟩ = some (.int .i64 cur.last) ∧ (((((((v.setCell ⟨R, 0, none⟩ (.int .i64 n.bid)).setCell ⟨R, 1, none⟩ (.int .i64 n.ask)).setCell ⟨R, 2, none⟩ (.int .i64 n.last)).setCell ⟨R, 3, none⟩ (.int .i64 n.vol)).setCell ⟨R, 4, none⟩ (.int .i64 n.now)).setCell ⟨R, 5, none⟩ (.int .i64 n.opn))).cell? ⟨M, 3, none⟩ = some (.int .i64 cur.vol) ∧ (((((((v.setCell ⟨R, 0, none⟩ (.int .i64 n.bid)).setCell ⟨R, 1, none⟩ (.int .i64 n.ask)).setCell ⟨R, 2, none⟩ (.int .i64 n.last)).setCell ⟨R, 3, none⟩ (.int .i64 n.vol)).setCell ⟨R, 4, none⟩ (.int .i64 n.now)).setCell ⟨R, 5, none⟩ (.int .i64 n.opn))).cell? ⟨M, 4, none⟩ = some (.int .i64 cur.now) ∧ (((((((v.setCell ⟨R, 0, none⟩ (.int .i64 n.bid)).setCell ⟨R, 1, none⟩ (.int .i64 n.ask)).setCell ⟨R, 2, none⟩ (.int .i64 n.last)).setCell ⟨R, 3, none⟩ (.int .i64 n.vol)).setCell ⟨R, 4, none⟩ (.int .i64 n.now)).setCell ⟨R, 5, none⟩ (.int .i64 n.opn))).cell? ⟨M, 5, none⟩ = some (.int .i64 cur.opn) ∧ (((((((v.setCell ⟨R, 0, none⟩ (.int .i64 n.bid)).setCell ⟨R, 1, none⟩ (.int .i64 n.ask)).setCell ⟨R, 2, none⟩ (.int .i64 n.last)).setCell ⟨R, 3, none⟩ (.int .i64 n.vol)).setCell ⟨R, 4, none⟩ (.int .i64 n.now)).setCell ⟨R, 5, none⟩ (.int .i64 n.opn))).cell? ⟨w.heap.size, 0, none⟩ = some (.int .i64 s.bid) ∧ (((((((v.setCell ⟨R, 0, none⟩ (.int .i64 n.bid)).setCell ⟨R, 1, none⟩ (.int .i64 n.ask)).setCell ⟨R, 2, none⟩ (.int .i64 n.last)).setCell ⟨R, 3, none⟩ (.int .i64 n.vol)).setCell ⟨R, 4, none⟩ (.int .i64 n.now)).setCell ⟨R, 5, none⟩ (.int .i64 n.opn))).cell? ⟨w.heap.size, 1, none⟩ = some (.int .i64 s.ask) ∧ (((((((v.setCell ⟨R, 0, none⟩ (.int .i64 n.bid)).setCell ⟨R, 1, none⟩ (.int .i64 n.ask)).setCell ⟨R, 2, none⟩ (.int .i64 n.last)).setCell ⟨R, 3, none⟩ (.int .i64 n.vol)).setCell ⟨R, 4, none⟩ (.int .i64 n.now)).setCell ⟨R, 5, none⟩ (.int .i64 n.opn))).cell? ⟨w.heap.size, 2, none⟩ = some (.int .i64 s.last) ∧ (((((((v.setCell ⟨R, 0, none⟩ (.int .i64 n.bid)).setCell ⟨R, 1, none⟩ (.int .i64 n.ask)).setCell ⟨R, 2, none⟩ (.int .i64 n.last)).setCell ⟨R, 3, none⟩ (.int .i64 n.vol)).setCell ⟨R, 4, none⟩ (.int .i64 n.now)).setCell ⟨R, 5, none⟩ (.int .i64 n.opn))).cell? ⟨w.heap.size, 3, none⟩ = some (.int .i64 s.vol) ∧ (((((((v.setCell ⟨R, 0, none⟩ (.int .i64 n.bid)).setCell ⟨R, 1, none⟩ (.int .i64 n.ask)).setCell ⟨R, 2, none⟩ (.int .i64 n.last)).setCell ⟨R, 3, none⟩ (.int .i64 n.vol)).setCell ⟨R, 4, none⟩ (.int .i64 n.now)).setCell ⟨R, 5, none⟩ (.int .i64 n.opn))).cell? ⟨w.heap.size, 4, none⟩ = some (.int .i64 s.now) ∧ (((((((v.setCell ⟨R, 0, none⟩ (.int .i64 n.bid)).setCell ⟨R, 1, none⟩ (.int .i64 n.ask)).setCell ⟨R, 2, none⟩ (.int .i64 n.last)).setCell ⟨R, 3, none⟩ (.int .i64 n.vol)).setCell ⟨R, 4, none⟩ (.int .i64 n.now)).setCell ⟨R, 5, none⟩ (.int .i64 n.opn))).cell? ⟨w.heap.size, 5, none⟩ = some (.int .i64 s.opn) := by
  have a : SnAt ((((((v.setCell ⟨R, 0, none⟩ (.int .i64 n.bid)).setCell ⟨R, 1, none⟩ (.int .i64 n.ask)).setCell ⟨R, 2, none⟩ (.int .i64 n.last)).setCell ⟨R, 3, none⟩ (.int .i64 n.vol)).setCell ⟨R, 4, none⟩ (.int .i64 n.now)).setCell ⟨R, 5, none⟩ (.int .i64 n.opn)) M cur := SnH.at ((heap_put_other (by have := h.m; omega) _ _ _ _ _ _).trans h.V)
  have b : SnAt ((((((v.setCell ⟨R, 0, none⟩ (.int .i64 n.bid)).setCell ⟨R, 1, none⟩ (.int .i64 n.ask)).setCell ⟨R, 2, none⟩ (.int .i64 n.last)).setCell ⟨R, 3, none⟩ (.int .i64 n.vol)).setCell ⟨R, 4, none⟩ (.int .i64 n.now)).setCell ⟨R, 5, none⟩ (.int .i64 n.opn)) w.heap.size s := SnH.at ((heap_put_other (by have := h.r; omega) _ _ _ _ _ _).trans h.S)
  exact ⟨a.c0, a.c1, a.c2, a.c3, a.c4, a.c5, b.c0, b.c1, b.c2, b.c3, b.c4, b.c5⟩
theorem G3keep : True := trivial
end Go.Proofs.Ytjjmpfpbfkploaa
