/-
  Texts and tokens in plain words: what a byte is, where blanks, names, digits end; what stands at a place. (Prepared ahead, of the document's side alone.)
-/
import Derived.Test.YtighocmdlifheaaDoorChecked
import Derived.WalkKit
import Derived.ProofKit
import Derived.Outline
import Derived.Below
import Derived.Deep.QuietTactic
import Derived.BigQuiet
import Derived.Laws.Rows
namespace Go.Proofs.YtighocmdlifheaaDoor
open Go.RowKit

def letB (c : UInt8) : Bool := decide (97 ≤ c.toNat ∧ c.toNat ≤ 122)
def digB (c : UInt8) : Bool := decide (48 ≤ c.toNat ∧ c.toNat ≤ 57)
def upB (c : UInt8) : Bool := decide (65 ≤ c.toNat ∧ c.toNat ≤ 90)
def goB (c : UInt8) : Bool := letB c || digB c || decide (c.toNat = 95)
def blankB (c : UInt8) : Bool := decide (c.toNat = 32) || decide (c.toNat = 9) || decide (c.toNat = 10) || decide (c.toNat = 13)
/-- Is one within a remark, behind this byte? -/
def remB (r : Bool) (c : UInt8) : Bool := if c.toNat = 35 then true else if c.toNat = 10 then false else r
/-- How many bytes of blanks and remarks stand at the beginning. -/
def ov : List UInt8 → Bool → Nat
  | [], _ => 0
  | c :: l, r => if remB r c = false ∧ blankB c = false then 0 else ov l (remB r c) + 1
theorem ov_le : ∀ (l : List UInt8) (r : Bool), ov l r ≤ l.length
  | [], _ => Nat.le_refl _
  | c :: l, r => by
    have := ov_le l (remB r c)
    unfold ov
    split
    · exact Nat.zero_le _
    · simp only [List.length_cons]; omega
/-- How many bytes of a kind stand at the beginning. -/
def lead (p : UInt8 → Bool) : List UInt8 → Nat
  | [] => 0
  | c :: l => if p c = true then lead p l + 1 else 0
theorem lead_le (p : UInt8 → Bool) : ∀ l : List UInt8, lead p l ≤ l.length
  | [] => Nat.le_refl _
  | c :: l => by
    have := lead_le p l
    unfold lead
    split
    · simp only [List.length_cons]; omega
    · exact Nat.zero_le _
/-- The digits at the beginning, in tens: the number so far, how many; nothing where it has grown too great. -/
def nmS : List UInt8 → Nat → Nat → Option (Nat × Nat)
  | [], n, k => some (n, k)
  | c :: l, n, k => if digB c = true then (if n > 922337203685477580 then none else nmS l (10 * n + (c.toNat - 48)) (k + 1)) else some (n, k)
def wordsL : List ByteArray := [⟨#[97, 98, 115]⟩, ⟨#[97, 109, 101, 110, 100]⟩, ⟨#[97, 115]⟩, ⟨#[97, 115, 107]⟩, ⟨#[97, 116]⟩, ⟨#[98, 105, 100]⟩, ⟨#[98, 111, 111, 108]⟩, ⟨#[98, 117, 121]⟩, ⟨#[99, 97, 110, 99, 101, 108]⟩, ⟨#[100, 111]⟩, ⟨#[102, 97, 108, 115, 101]⟩, ⟨#[102, 111, 107]⟩, ⟨#[103, 111, 116, 111]⟩, ⟨#[104, 97, 108, 116]⟩, ⟨#[104, 97, 115]⟩, ⟨#[105, 110, 116]⟩, ⟨#[105, 111, 99]⟩, ⟨#[108, 97, 115, 116]⟩, ⟨#[108, 105, 109, 105, 116]⟩, ⟨#[109, 97, 114, 107, 101, 116]⟩, ⟨#[109, 97, 120]⟩, ⟨#[109, 105, 110]⟩, ⟨#[110, 111, 119]⟩, ⟨#[111, 102]⟩, ⟨#[111, 112, 101, 110]⟩, ⟨#[112, 111, 115, 116]⟩, ⟨#[112, 114, 105, 99, 101]⟩, ⟨#[113, 116, 121]⟩, ⟨#[114, 101, 103]⟩, ⟨#[115, 101, 108, 108]⟩, ⟨#[115, 101, 116]⟩, ⟨#[115, 105, 100, 101]⟩, ⟨#[115, 108, 111, 116]⟩, ⟨#[115, 116, 97, 116, 101]⟩, ⟨#[115, 116, 114, 97, 116, 101, 103, 121]⟩, ⟨#[115, 117, 98, 109, 105, 116]⟩, ⟨#[116, 105, 109, 101]⟩, ⟨#[116, 111]⟩, ⟨#[116, 114, 117, 101]⟩, ⟨#[118, 111, 108, 117, 109, 101]⟩, ⟨#[119, 104, 101, 110]⟩]
def marksL : List ByteArray := [⟨#[61, 61]⟩, ⟨#[33, 61]⟩, ⟨#[60, 61]⟩, ⟨#[62, 61]⟩, ⟨#[38, 38]⟩, ⟨#[124, 124]⟩, ⟨#[123]⟩, ⟨#[125]⟩, ⟨#[40]⟩, ⟨#[41]⟩, ⟨#[44]⟩, ⟨#[59]⟩, ⟨#[63]⟩, ⟨#[58]⟩, ⟨#[61]⟩, ⟨#[33]⟩, ⟨#[60]⟩, ⟨#[62]⟩, ⟨#[43]⟩, ⟨#[45]⟩, ⟨#[42]⟩, ⟨#[47]⟩, ⟨#[37]⟩]
def wd (i : Nat) : ByteArray := wordsL.getD i ⟨#[]⟩
def mk (i : Nat) : ByteArray := marksL.getD i ⟨#[]⟩
def isW (x : ByteArray) : Bool := wordsL.any (fun y => y.data.toList == x.data.toList)
structure Tk where
  k : Int
  x : ByteArray
  ty : Int
  n : Int
  p : Int
def tkA (t : Tk) : Array Value := #[.int .u8 t.k, .string t.x, .int .u8 t.ty, .int .i64 t.n, .int .i64 t.p]
def tk0 : Tk := ⟨0, ⟨#[]⟩, 0, 0, 0⟩
def rest (s : ByteArray) (a : Nat) : List UInt8 := s.data.toList.drop a
theorem len_of (s : ByteArray) : s.data.toList.length = s.size := by
  cases s; simp [ByteArray.size]
theorem rest_at (s : ByteArray) (i : Nat) (h : i < s.size) : rest s i = s[i] :: rest s (i + 1) := by
  unfold rest
  rw [List.drop_eq_getElem_cons (by rw [len_of]; exact h)]
  rfl
theorem rest_end (s : ByteArray) (i : Nat) (h : s.size ≤ i) : rest s i = [] := List.drop_eq_nil_of_le (by rw [len_of]; exact h)
theorem rest_len (s : ByteArray) (a : Nat) : (rest s a).length = s.size - a := by unfold rest; rw [List.length_drop, len_of]
theorem size_alloc (w : World) (o : Obj) : (w.alloc o).heap.size = w.heap.size + 1 := by simp
theorem heap_new (w : World) (o : Obj) : (w.alloc o).heap[w.heap.size]? = some o := by
  show (w.heap.push o)[w.heap.size]? = _
  simp
theorem below_new (w : World) (o : Obj) : Below w.heap.size w (w.alloc o) := (Below.refl _ w).alloc (Nat.le_refl _) o
theorem cell_alloc (w : World) (a : Array Value) (t : TypeId) (j : Nat) : (w.alloc (.cells a t)).cell? ⟨w.heap.size, j, none⟩ = a[j]? := by
  unfold World.cell? World.alloc; simp
theorem retI {a b : Int} (h : a = b) : Ending.returned (.int .i64 a) = .returned (.int .i64 b) := by rw [h]
theorem retB {a b : Bool} (h : a = b) : Ending.returned (.bool a) = .returned (.bool b) := by rw [h]
theorem str_eq {a b : ByteArray} (h : a.data.toList = b.data.toList) : a = b := by
  cases a; cases b
  simp at h
  rw [h]
theorem byte_lt (c : UInt8) : (c.toNat : Int) ≤ 255 := by have := c.toNat_lt; omega

end Go.Proofs.YtighocmdlifheaaDoor
