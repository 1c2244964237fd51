/-
  What events are to a client: the list, in plain words; and what a walk of it keeps.
-/
import Derived.Test.YtjjmpfpbfkploaaAp
import Derived.Test.YtjjmpfpbfkploaaOpd
namespace Go.Proofs.Ytjjmpfpbfkploaa
open Go.RowKit

structure Tp where
  bid : Int
  ask : Int
  last : Int
  vol : Int
def tpA (t : Tp) : Array Value := #[.int .i64 t.bid, .int .i64 t.ask, .int .i64 t.last, .int .i64 t.vol]
structure TpAt (w : World) (b : Nat) (s : Tp) : Prop where
  c0 : w.cell? ⟨b, 0, none⟩ = some (.int .i64 s.bid)
  c1 : w.cell? ⟨b, 1, none⟩ = some (.int .i64 s.ask)
  c2 : w.cell? ⟨b, 2, none⟩ = some (.int .i64 s.last)
  c3 : w.cell? ⟨b, 3, none⟩ = some (.int .i64 s.vol)
theorem TpAt.on {w w' : World} {b B : Nat} {r : Tp} (h : TpAt w b r) (k : Below B w w') (hb : b < B) : TpAt w' b r :=
  ⟨(k.cell hb).trans h.c0, (k.cell hb).trans h.c1, (k.cell hb).trans h.c2, (k.cell hb).trans h.c3⟩
theorem TpAt.new (w : World) (r : Tp) (t : TypeId) : TpAt (w.alloc (.cells (tpA r) t)) w.heap.size r :=
  ⟨(cell_alloc ..).trans rfl, (cell_alloc ..).trans rfl, (cell_alloc ..).trans rfl, (cell_alloc ..).trans rfl⟩
def tr1 (e : Ev) : List Fd := if e.wh = 2 then [⟨3, e.pr, e.qt⟩] else []
def op1 (d : Int) : List Fd := if d = 0 then [] else [⟨5, d, 0⟩]
def evL (c : Int) (A : Nat → Ev) : Nat → List Fd
  | 0 => []
  | k + 1 => evL c A k ++ tr1 (A k) ++ op1 (chgN (A k) c)
def topL (k a b : Int) : List Fd := if b = a then [] else [⟨k, b, 0⟩]
def feedsL (s t : Tp) (c : Int) (A : Nat → Ev) (len : Nat) : List Fd := evL c A len ++ topL 1 s.bid t.bid ++ topL 2 s.ask t.ask
theorem evL_len (c : Int) (A : Nat → Ev) : ∀ k, (evL c A k).length ≤ 2 * k
  | 0 => by simp [evL]
  | k + 1 => by
    have ih := evL_len c A k
    have h1 : (tr1 (A k)).length ≤ 1 := by unfold tr1; split <;> simp
    have h2 : (op1 (chgN (A k) c)).length ≤ 1 := by unfold op1; split <;> simp
    show (evL c A k ++ tr1 (A k) ++ op1 (chgN (A k) c)).length ≤ _
    rw [List.length_append, List.length_append]
    omega
theorem evL_tt {c : Int} {A : Nat → Ev} {k : Nat} {x : Ev} (e : A k = x) (h : x.wh = 2) (h' : ¬ chgN x c = 0) : evL c A (k + 1) = evL c A k ++ [⟨3, x.pr, x.qt⟩] ++ [⟨5, chgN x c, 0⟩] := by
  show evL c A k ++ tr1 (A k) ++ op1 (chgN (A k) c) = _
  rw [e]; unfold tr1 op1; rw [if_pos h, if_neg h']
theorem evL_tf {c : Int} {A : Nat → Ev} {k : Nat} {x : Ev} (e : A k = x) (h : x.wh = 2) (h' : chgN x c = 0) : evL c A (k + 1) = evL c A k ++ [⟨3, x.pr, x.qt⟩] := by
  show evL c A k ++ tr1 (A k) ++ op1 (chgN (A k) c) = _
  rw [e]; unfold tr1 op1; rw [if_pos h, if_pos h', List.append_nil]
theorem evL_ft {c : Int} {A : Nat → Ev} {k : Nat} {x : Ev} (e : A k = x) (h : ¬ x.wh = 2) (h' : ¬ chgN x c = 0) : evL c A (k + 1) = evL c A k ++ [⟨5, chgN x c, 0⟩] := by
  show evL c A k ++ tr1 (A k) ++ op1 (chgN (A k) c) = _
  rw [e]; unfold tr1 op1; rw [if_neg h, if_neg h', List.append_nil]
theorem evL_ff {c : Int} {A : Nat → Ev} {k : Nat} {x : Ev} (e : A k = x) (h : ¬ x.wh = 2) (h' : chgN x c = 0) : evL c A (k + 1) = evL c A k := by
  show evL c A k ++ tr1 (A k) ++ op1 (chgN (A k) c) = _
  rw [e]; unfold tr1 op1; rw [if_neg h, if_pos h', List.append_nil, List.append_nil]
theorem EvAt.blk {w w' : World} {b o : Nat} {e : Ev} (h : EvAt w b o e) (hb : w'.heap[b]? = w.heap[b]?) : EvAt w' b o e :=
  ⟨(World.cell?_of_block hb).trans h.c0, (World.cell?_of_block hb).trans h.c1, (World.cell?_of_block hb).trans h.c2, (World.cell?_of_block hb).trans h.c3, (World.cell?_of_block hb).trans h.c4, (World.cell?_of_block hb).trans h.c5, (World.cell?_of_block hb).trans h.c6, (World.cell?_of_block hb).trans h.c7, (World.cell?_of_block hb).trans h.c8⟩
theorem TpAt.blk {w w' : World} {b : Nat} {e : Tp} (h : TpAt w b e) (hb : w'.heap[b]? = w.heap[b]?) : TpAt w' b e :=
  ⟨(World.cell?_of_block hb).trans h.c0, (World.cell?_of_block hb).trans h.c1, (World.cell?_of_block hb).trans h.c2, (World.cell?_of_block hb).trans h.c3⟩
end Go.Proofs.Ytjjmpfpbfkploaa
