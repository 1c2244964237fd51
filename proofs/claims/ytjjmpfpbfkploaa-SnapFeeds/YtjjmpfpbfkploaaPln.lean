/-
  Snapshots and feeds, in plain numbers: what may be, what a feed does, what differs.
-/
import Derived.Test.YtjjmpfpbfkploaaRows
import Derived.WalkKit
import Derived.ProofKit
import Derived.Outline
import Derived.Below
namespace Go.Proofs.Ytjjmpfpbfkploaa
open Go.RowKit

structure Sn where
  bid : Int
  ask : Int
  last : Int
  vol : Int
  now : Int
  opn : Int
structure Fd where
  k : Int
  a : Int
  b : Int

def snA (s : Sn) : Array Value := #[.int .i64 s.bid, .int .i64 s.ask, .int .i64 s.last, .int .i64 s.vol, .int .i64 s.now, .int .i64 s.opn]
def fdA (f : Fd) : Array Value := #[.int .u8 f.k, .int .i64 f.a, .int .i64 f.b]
def sn0 : Sn := ⟨0, 0, 0, 0, 0, 0⟩

/-- A snapshot that may be. -/
structure May (s : Sn) : Prop where
  b0 : 0 ≤ s.bid
  b1 : s.bid ≤ 1000000000
  a0 : 0 ≤ s.ask
  a1 : s.ask ≤ 1000000000
  l0 : 0 ≤ s.last
  l1 : s.last ≤ 1000000000
  v0 : 0 ≤ s.vol
  v1 : s.vol ≤ 1000000000000000
  n0 : 0 ≤ s.now
  n1 : s.now ≤ 1000000000000000
  o0 : 0 ≤ s.opn
  o1 : s.opn ≤ 256000000000
def inB (n m : Int) : Bool := decide (0 ≤ n) && decide (n ≤ m)
theorem inB_iff {n m : Int} : inB n m = true ↔ 0 ≤ n ∧ n ≤ m := by unfold inB; simp
theorem inB_f {n m : Int} (h : n < 0 ∨ m < n) : inB n m = false := by
  cases e : inB n m
  · rfl
  · have := inB_iff.1 e; omega
def mayB (s : Sn) : Bool := inB s.bid 1000000000 && inB s.ask 1000000000 && inB s.last 1000000000 && inB s.vol 1000000000000000 && inB s.now 1000000000000000 && inB s.opn 256000000000
theorem mayB_iff {s : Sn} : mayB s = true ↔ May s := by
  unfold mayB
  simp only [Bool.and_eq_true, inB_iff]
  constructor
  · rintro ⟨⟨⟨⟨⟨⟨a, b⟩, c, d⟩, e, f⟩, g, h⟩, i, j⟩, k, l⟩
    exact ⟨a, b, c, d, e, f, g, h, i, j, k, l⟩
  · rintro ⟨a, b, c, d, e, f, g, h, i, j, k, l⟩
    exact ⟨⟨⟨⟨⟨⟨a, b⟩, c, d⟩, e, f⟩, g, h⟩, i, j⟩, k, l⟩
theorem mayB_f {s : Sn} (h : ¬ May s) : mayB s = false := by
  cases e : mayB s
  · rfl
  · exact absurd (mayB_iff.1 e) h
theorem not_may {s : Sn} (h : mayB s = false) : ¬ May s := fun k => by rw [mayB_iff.2 k] at h; cases h
def chkN (s : Sn) : Int := if mayB s = true then 0 else 100
theorem chk_f {s : Sn} (h : mayB s = false) : chkN s = 100 := by unfold chkN; rw [h]; rfl
theorem chk_t {s : Sn} (h : mayB s = true) : chkN s = 0 := by unfold chkN; rw [h]; rfl
theorem chk_no {s : Sn} (h : ¬ May s) : chkN s = 100 := chk_f (mayB_f h)
theorem chk_ok {s : Sn} (h : May s) : chkN s = 0 := chk_t (mayB_iff.2 h)

def getN (s : Sn) (f : Int) : Int := if f = 1 then s.bid else if f = 2 then s.ask else if f = 3 then s.last else if f = 4 then s.vol else if f = 5 then s.now else if f = 6 then s.opn else 0

def bitN (a b m : Int) : Int := if a = b then 0 else m
def diffN (s t : Sn) : Int := bitN s.bid t.bid 2 + bitN s.ask t.ask 4 + bitN s.last t.last 8 + bitN s.vol t.vol 16 + bitN s.now t.now 32 + bitN s.opn t.opn 64
/-- What differs among the first fields. -/
def diffK (s t : Sn) : Nat → Int
  | 0 => 0
  | k + 1 => diffK s t k + bitN (getN s k) (getN t k) (2 ^ k : Nat)

/-- What a feed does to a snapshot that may be. -/
def stepO (s : Sn) (x : Fd) : Option Sn :=
  if x.k = 1 then (if 0 ≤ x.a ∧ x.a ≤ 1000000000 then some ⟨x.a, s.ask, s.last, s.vol, s.now, s.opn⟩ else none)
  else if x.k = 2 then (if 0 ≤ x.a ∧ x.a ≤ 1000000000 then some ⟨s.bid, x.a, s.last, s.vol, s.now, s.opn⟩ else none)
  else if x.k = 3 then (if 1 ≤ x.a ∧ x.a ≤ 1000000000 ∧ 1 ≤ x.b ∧ x.b ≤ 1000000000 ∧ s.vol + x.b ≤ 1000000000000000 then some ⟨s.bid, s.ask, x.a, s.vol + x.b, s.now, s.opn⟩ else none)
  else if x.k = 4 then (if s.now ≤ x.a ∧ x.a ≤ 1000000000000000 then some ⟨s.bid, s.ask, s.last, s.vol, x.a, s.opn⟩ else none)
  else if x.k = 5 then (if 0 ≤ s.opn + x.a ∧ s.opn + x.a ≤ 256000000000 then some ⟨s.bid, s.ask, s.last, s.vol, s.now, s.opn + x.a⟩ else none)
  else none
theorem stepO_may {s t : Sn} {x : Fd} (h : May s) (e : stepO s x = some t) : May t := by
  obtain ⟨a, b, c, d, e', f, g, h', i, j, k, l⟩ := h
  unfold stepO at e
  repeat' split at e
  all_goals first
    | (injection e with e; subst e; constructor <;> (dsimp only; omega))
    | cases e
/-- The first feeds, one by one. -/
def foldK (s : Sn) (A : Nat → Fd) : Nat → Option Sn
  | 0 => some s
  | k + 1 => (foldK s A k).bind (fun v => stepO v (A k))
theorem foldK_may {s : Sn} {A : Nat → Fd} (h : May s) : ∀ (k : Nat) (t : Sn), foldK s A k = some t → May t
  | 0, t, e => by cases e; exact h
  | k + 1, t, e => by
    unfold foldK at e
    cases e1 : foldK s A k with
    | none => rw [e1] at e; cases e
    | some v => rw [e1] at e; exact stepO_may (foldK_may h k v e1) e
theorem foldK_none {s : Sn} {A : Nat → Fd} {k : Nat} (h : foldK s A k = none) : ∀ n, k ≤ n → foldK s A n = none := by
  intro n hn
  induction n with
  | zero => obtain rfl : k = 0 := by omega
            exact h
  | succ n ih =>
    by_cases e : k = n + 1
    · rw [← e]; exact h
    · unfold foldK; rw [ih (by omega)]; rfl
/-- One list behind another. -/
def joinA (n : Nat) (A B : Nat → Fd) : Nat → Fd := fun j => if j < n then A j else B (j - n)
theorem foldK_congr {s : Sn} {A B : Nat → Fd} : ∀ (n : Nat), (∀ j, j < n → A j = B j) → foldK s A n = foldK s B n
  | 0, _ => rfl
  | n + 1, h => by
    unfold foldK
    rw [foldK_congr n (fun j hj => h j (by omega)), h n (by omega)]
theorem foldK_join {s : Sn} {A B : Nat → Fd} {n : Nat} : ∀ (m : Nat), foldK s (joinA n A B) (n + m) = (foldK s A n).bind (fun v => foldK v B m)
  | 0 => by
    rw [Nat.add_zero, foldK_congr (B := A) n (fun j hj => by unfold joinA; rw [if_pos hj])]
    cases foldK s A n <;> rfl
  | m + 1 => by
    show (foldK s (joinA n A B) (n + m)).bind (fun v => stepO v (joinA n A B (n + m))) = _
    rw [foldK_join m, show joinA n A B (n + m) = B m by unfold joinA; rw [if_neg (by omega), Nat.add_sub_cancel_left]]
    cases foldK s A n <;> rfl
/-- All feeds, or nothing. -/
def foldO (s : Sn) (A : Nat → Fd) (n : Nat) : Option Sn := if mayB s = true then foldK s A n else none
def outS (o : Option Sn) : Sn := o.getD sn0
def outM (s : Sn) : Option Sn → Int
  | none => 0
  | some t => diffN s t
def outE : Option Sn → Int
  | none => 100
  | some _ => 0

/-- Snapshots, feeds in six, in three cells of a block. -/
structure SnAt (w : World) (b : Nat) (s : Sn) : Prop where
  c0 : w.cell? ⟨b, 0, none⟩ = some (.int .i64 s.bid)
  c1 : w.cell? ⟨b, 1, none⟩ = some (.int .i64 s.ask)
  c2 : w.cell? ⟨b, 2, none⟩ = some (.int .i64 s.last)
  c3 : w.cell? ⟨b, 3, none⟩ = some (.int .i64 s.vol)
  c4 : w.cell? ⟨b, 4, none⟩ = some (.int .i64 s.now)
  c5 : w.cell? ⟨b, 5, none⟩ = some (.int .i64 s.opn)
structure FdAt (w : World) (b o : Nat) (f : Fd) : Prop where
  c0 : w.cell? ⟨b, o, none⟩ = some (.int .u8 f.k)
  c1 : w.cell? ⟨b, o + 1, none⟩ = some (.int .i64 f.a)
  c2 : w.cell? ⟨b, o + 2, none⟩ = some (.int .i64 f.b)
theorem SnAt.on {w w' : World} {b B : Nat} {r : Sn} (h : SnAt w b r) (k : Below B w w') (hb : b < B) : SnAt w' b r :=
  ⟨(k.cell hb).trans h.c0, (k.cell hb).trans h.c1, (k.cell hb).trans h.c2, (k.cell hb).trans h.c3, (k.cell hb).trans h.c4, (k.cell hb).trans h.c5⟩
theorem FdAt.on {w w' : World} {b B o : Nat} {r : Fd} (h : FdAt w b o r) (k : Below B w w') (hb : b < B) : FdAt w' b o r :=
  ⟨(k.cell hb).trans h.c0, (k.cell hb).trans h.c1, (k.cell hb).trans h.c2⟩
theorem cell_alloc (w : World) (a : Array Value) (t : TypeId) (j : Nat) : (w.alloc (.cells a t)).cell? ⟨w.heap.size, j, none⟩ = a[j]? := by
  unfold World.cell? World.alloc; simp
theorem SnAt.new (w : World) (r : Sn) (t : TypeId) : SnAt (w.alloc (.cells (snA r) t)) w.heap.size r :=
  ⟨(cell_alloc ..).trans rfl, (cell_alloc ..).trans rfl, (cell_alloc ..).trans rfl, (cell_alloc ..).trans rfl, (cell_alloc ..).trans rfl, (cell_alloc ..).trans rfl⟩
theorem FdAt.new (w : World) (r : Fd) (t : TypeId) : FdAt (w.alloc (.cells (fdA r) t)) w.heap.size 0 r :=
  ⟨(cell_alloc ..).trans rfl, (cell_alloc ..).trans rfl, (cell_alloc ..).trans rfl⟩
theorem size_alloc (w : World) (o : Obj) : (w.alloc o).heap.size = w.heap.size + 1 := by simp
theorem heap_new (w : World) (o : Obj) : (w.alloc o).heap[w.heap.size]? = some o := by
  show (w.heap.push o)[w.heap.size]? = _
  simp
theorem below_new (w : World) (o : Obj) : Below w.heap.size w (w.alloc o) := (Below.refl _ w).alloc (Nat.le_refl _) o

theorem retI {a b : Int} (h : a = b) : Ending.returned (.int .i64 a) = .returned (.int .i64 b) := by rw [h]
theorem retB {a b : Bool} (h : a = b) : Ending.returned (.bool a) = .returned (.bool b) := by rw [h]
end Go.Proofs.Ytjjmpfpbfkploaa
