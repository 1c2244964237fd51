import Derived.Test.YtighocmdlifheaaGreatDoorProg
import Derived.WalkKit
import Derived.ProofKit
import Derived.Outline
import Derived.Below
import Derived.Deep.QuietTactic
import Derived.BigQuiet
import Derived.Laws.Rows
import Derived.Deep.DeepCutAuto
import Derived.Deep.CutRange
import Derived.Lib.Bytealg
import Derived.LaidLaws
/-
  Texts and tokens in plain words: what a byte is, where blanks, names, digits end; what stands at a place. (Prepared ahead, of the document's side alone.)
-/
namespace Go.Proofs.YtighocmdlifheaaGreatDoor
open Go.RowKit

def letB (c : UInt8) : Bool := decide (97 ≤ c.toNat ∧ c.toNat ≤ 122)
def digB (c : UInt8) : Bool := decide (48 ≤ c.toNat ∧ c.toNat ≤ 57)
def upB (c : UInt8) : Bool := decide (65 ≤ c.toNat ∧ c.toNat ≤ 90)
def goB (c : UInt8) : Bool := letB c || digB c || decide (c.toNat = 95)
def blankB (c : UInt8) : Bool := decide (c.toNat = 32) || decide (c.toNat = 9) || decide (c.toNat = 10) || decide (c.toNat = 13)
/-- Is one within a remark, behind this byte? -/
def remB (r : Bool) (c : UInt8) : Bool := if c.toNat = 35 then true else if c.toNat = 10 then false else r
/-- How many bytes of blanks and remarks stand at the beginning. -/
def ov : List UInt8 → Bool → Nat
  | [], _ => 0
  | c :: l, r => if remB r c = false ∧ blankB c = false then 0 else ov l (remB r c) + 1
theorem ov_le : ∀ (l : List UInt8) (r : Bool), ov l r ≤ l.length
  | [], _ => Nat.le_refl _
  | c :: l, r => by
    have := ov_le l (remB r c)
    unfold ov
    split
    · exact Nat.zero_le _
    · simp only [List.length_cons]; omega
/-- How many bytes of a kind stand at the beginning. -/
def lead (p : UInt8 → Bool) : List UInt8 → Nat
  | [] => 0
  | c :: l => if p c = true then lead p l + 1 else 0
theorem lead_le (p : UInt8 → Bool) : ∀ l : List UInt8, lead p l ≤ l.length
  | [] => Nat.le_refl _
  | c :: l => by
    have := lead_le p l
    unfold lead
    split
    · simp only [List.length_cons]; omega
    · exact Nat.zero_le _
/-- The digits at the beginning, in tens: the number so far, how many; nothing where it has grown too great. -/
def nmS : List UInt8 → Nat → Nat → Option (Nat × Nat)
  | [], n, k => some (n, k)
  | c :: l, n, k => if digB c = true then (if n > 922337203685477580 then none else nmS l (10 * n + (c.toNat - 48)) (k + 1)) else some (n, k)
def wordsL : List ByteArray := [⟨#[97, 98, 115]⟩, ⟨#[97, 109, 101, 110, 100]⟩, ⟨#[97, 115]⟩, ⟨#[97, 115, 107]⟩, ⟨#[97, 116]⟩, ⟨#[98, 105, 100]⟩, ⟨#[98, 111, 111, 108]⟩, ⟨#[98, 117, 121]⟩, ⟨#[99, 97, 110, 99, 101, 108]⟩, ⟨#[100, 111]⟩, ⟨#[102, 97, 108, 115, 101]⟩, ⟨#[102, 111, 107]⟩, ⟨#[103, 111, 116, 111]⟩, ⟨#[104, 97, 108, 116]⟩, ⟨#[104, 97, 115]⟩, ⟨#[105, 110, 116]⟩, ⟨#[105, 111, 99]⟩, ⟨#[108, 97, 115, 116]⟩, ⟨#[108, 105, 109, 105, 116]⟩, ⟨#[109, 97, 114, 107, 101, 116]⟩, ⟨#[109, 97, 120]⟩, ⟨#[109, 105, 110]⟩, ⟨#[110, 111, 119]⟩, ⟨#[111, 102]⟩, ⟨#[111, 112, 101, 110]⟩, ⟨#[112, 111, 115, 116]⟩, ⟨#[112, 114, 105, 99, 101]⟩, ⟨#[113, 116, 121]⟩, ⟨#[114, 101, 103]⟩, ⟨#[115, 101, 108, 108]⟩, ⟨#[115, 101, 116]⟩, ⟨#[115, 105, 100, 101]⟩, ⟨#[115, 108, 111, 116]⟩, ⟨#[115, 116, 97, 116, 101]⟩, ⟨#[115, 116, 114, 97, 116, 101, 103, 121]⟩, ⟨#[115, 117, 98, 109, 105, 116]⟩, ⟨#[116, 105, 109, 101]⟩, ⟨#[116, 111]⟩, ⟨#[116, 114, 117, 101]⟩, ⟨#[118, 111, 108, 117, 109, 101]⟩, ⟨#[119, 104, 101, 110]⟩]
def marksL : List ByteArray := [⟨#[61, 61]⟩, ⟨#[33, 61]⟩, ⟨#[60, 61]⟩, ⟨#[62, 61]⟩, ⟨#[38, 38]⟩, ⟨#[124, 124]⟩, ⟨#[123]⟩, ⟨#[125]⟩, ⟨#[40]⟩, ⟨#[41]⟩, ⟨#[44]⟩, ⟨#[59]⟩, ⟨#[63]⟩, ⟨#[58]⟩, ⟨#[61]⟩, ⟨#[33]⟩, ⟨#[60]⟩, ⟨#[62]⟩, ⟨#[43]⟩, ⟨#[45]⟩, ⟨#[42]⟩, ⟨#[47]⟩, ⟨#[37]⟩]
def wd (i : Nat) : ByteArray := wordsL.getD i ⟨#[]⟩
def mk (i : Nat) : ByteArray := marksL.getD i ⟨#[]⟩
def isW (x : ByteArray) : Bool := wordsL.any (fun y => y.data.toList == x.data.toList)
structure Tk where
  k : Int
  x : ByteArray
  ty : Int
  n : Int
  p : Int
def tkA (t : Tk) : Array Value := #[.int .u8 t.k, .string t.x, .int .u8 t.ty, .int .i64 t.n, .int .i64 t.p]
def tk0 : Tk := ⟨0, ⟨#[]⟩, 0, 0, 0⟩
def rest (s : ByteArray) (a : Nat) : List UInt8 := s.data.toList.drop a
theorem len_of (s : ByteArray) : s.data.toList.length = s.size := by
  cases s; simp [ByteArray.size]
theorem rest_at (s : ByteArray) (i : Nat) (h : i < s.size) : rest s i = s[i] :: rest s (i + 1) := by
  unfold rest
  rw [List.drop_eq_getElem_cons (by rw [len_of]; exact h)]
  rfl
theorem rest_end (s : ByteArray) (i : Nat) (h : s.size ≤ i) : rest s i = [] := List.drop_eq_nil_of_le (by rw [len_of]; exact h)
theorem rest_len (s : ByteArray) (a : Nat) : (rest s a).length = s.size - a := by unfold rest; rw [List.length_drop, len_of]
theorem size_alloc (w : World) (o : Obj) : (w.alloc o).heap.size = w.heap.size + 1 := by simp
theorem heap_new (w : World) (o : Obj) : (w.alloc o).heap[w.heap.size]? = some o := by
  show (w.heap.push o)[w.heap.size]? = _
  simp
theorem below_new (w : World) (o : Obj) : Below w.heap.size w (w.alloc o) := (Below.refl _ w).alloc (Nat.le_refl _) o
theorem cell_alloc (w : World) (a : Array Value) (t : TypeId) (j : Nat) : (w.alloc (.cells a t)).cell? ⟨w.heap.size, j, none⟩ = a[j]? := by
  unfold World.cell? World.alloc; simp
theorem retI {a b : Int} (h : a = b) : Ending.returned (.int .i64 a) = .returned (.int .i64 b) := by rw [h]
theorem retB {a b : Bool} (h : a = b) : Ending.returned (.bool a) = .returned (.bool b) := by rw [h]
theorem str_eq {a b : ByteArray} (h : a.data.toList = b.data.toList) : a = b := by
  cases a; cases b
  simp at h
  rw [h]
theorem byte_lt (c : UInt8) : (c.toNat : Int) ≤ 255 := by have := c.toNat_lt; omega

end Go.Proofs.YtighocmdlifheaaGreatDoor

/-
  Walks of the document's goes, over, Words, Word.
-/
namespace Go.Proofs.YtighocmdlifheaaGreatDoor
open Go.RowKit

theorem ov_stop {c : UInt8} {l : List UInt8} {r : Bool} (h1 : remB r c = false) (h2 : blankB c = false) : ov (c :: l) r = 0 := by unfold ov; rw [if_pos ⟨h1, h2⟩]
theorem ov_go {c : UInt8} {l : List UInt8} {r : Bool} (h : ¬ (remB r c = false ∧ blankB c = false)) : ov (c :: l) r = ov l (remB r c) + 1 := by rw [ov, if_neg h]

def wordsV : Array Value := (wordsL.map Value.string).toArray
def marksV : Array Value := (marksL.map Value.string).toArray
theorem words_cell (w : World) (j : Nat) (h : j < 41) : (w.alloc (.cells wordsV 9)).cell? ⟨w.heap.size, j, none⟩ = some (.string (wd j)) := by
  rw [cell_alloc]
  unfold wordsV wd
  have hl : j < wordsL.length := h
  simp [List.getElem?_map, List.getElem?_eq_getElem hl, List.getD]
theorem seq_ne {a b : ByteArray} (h : ¬ a = b) : (a.toList == b.toList) = false := by
  rw [ByteArray.toList_eq, ByteArray.toList_eq]
  exact beq_false_of_ne (fun h' => h (str_eq h'))
theorem isW_yes {s : ByteArray} {i : Nat} (h : i < 41) (e : wd i = s) : isW s = true := by
  unfold isW
  rw [List.any_eq_true]
  have hl : i < wordsL.length := h
  refine ⟨wordsL[i], List.getElem_mem hl, ?_⟩
  have : wd i = wordsL[i] := by unfold wd; simp [List.getD, hl]
  rw [← this, e]
  simp
theorem isW_no {s : ByteArray} (h : ∀ j, j < 41 → ¬ wd j = s) : isW s = false := by
  unfold isW
  rw [List.any_eq_false]
  intro x hx e
  obtain ⟨i, hi, rfl⟩ := List.mem_iff_getElem.1 hx
  refine h i hi ?_
  have e2 : wd i = wordsL[i] := by unfold wd; simp [List.getD, hi]
  rw [e2]
  exact str_eq (by simpa using e)
end Go.Proofs.YtighocmdlifheaaGreatDoor

/-
  Walks of the document's named, number and mark.
-/
namespace Go.Proofs.YtighocmdlifheaaGreatDoor
open Go.RowKit

theorem results_two {P : Program} {fn : Func} {p u : Tmp} {ty : TypeId} (h : fn.results = #[.cell p ty, .tmp u]) (tmps : Array Value) (w : World) (g : Nat) (t : TypeId) (cs : Array Value) (fr : Nat × Nat) (d : TypeDesc)
    (hp : tmps.getD p undef = .pointer (some ⟨g, 0, none⟩)) (hg : w.heap[g]? = some (.cells cs t fr))
    (hu : P.underlying ty = some d) (hd : (match d with | .struct _ | .array _ _ => true | _ => false) = true) (hi : (P.info? ty).map (·.size) = some cs.size) :
    (results fn tmps).run P w = .ok (.tuple #[.agg cs, tmps.getD u undef]) w := by
  have hp' : tmps[p]?.getD undef = .pointer (some ⟨g, 0, none⟩) := by simpa using hp
  simp [results, h, hp', asAddr, run_loadVar_row w g t ty cs fr d hg hu hd hi]
theorem results_three {P : Program} {fn : Func} {p u v : Tmp} {ty : TypeId} (h : fn.results = #[.cell p ty, .tmp u, .tmp v]) (tmps : Array Value) (w : World) (g : Nat) (t : TypeId) (cs : Array Value) (fr : Nat × Nat) (d : TypeDesc)
    (hp : tmps.getD p undef = .pointer (some ⟨g, 0, none⟩)) (hg : w.heap[g]? = some (.cells cs t fr))
    (hu : P.underlying ty = some d) (hd : (match d with | .struct _ | .array _ _ => true | _ => false) = true) (hi : (P.info? ty).map (·.size) = some cs.size) :
    (results fn tmps).run P w = .ok (.tuple #[.agg cs, tmps.getD u undef, tmps.getD v undef]) w := by
  have hp' : tmps[p]?.getD undef = .pointer (some ⟨g, 0, none⟩) := by simpa using hp
  simp [results, h, hp', asAddr, run_loadVar_row w g t ty cs fr d hg hu hd hi]
theorem below_two (w : World) (X Y : Obj) : Below w.heap.size w ((w.alloc X).alloc Y) := (below_new w X).alloc (by rw [size_alloc]; omega) Y
theorem heap_old {w : World} {o : Obj} {k : Nat} {x : Option Obj} (h : w.heap[k]? = x) (hk : k < w.heap.size) : (w.alloc o).heap[k]? = x := (Below.heap_alloc _ _ _ hk).trans h
theorem cell_of {w : World} {g : Nat} {cs : Array Value} {t : TypeId} {fr : Nat × Nat} (h : w.heap[g]? = some (.cells cs t fr)) (j : Nat) : w.cell? ⟨g, j, none⟩ = cs[j]? := by
  unfold World.cell?; rw [h]; simp
theorem frozen_of {w : World} {g : Nat} {cs : Array Value} {t : TypeId} (h : w.heap[g]? = some (.cells cs t (0, 0))) (j : Nat) : w.frozen? ⟨g, j, none⟩ = false := by
  unfold World.frozen?; rw [h]; simp
theorem heap_set {w : World} {g j : Nat} {cs : Array Value} {t : TypeId} {fr : Nat × Nat} (v : Value) (h : w.heap[g]? = some (.cells cs t fr)) : (w.setCell ⟨g, j, none⟩ v).heap[g]? = some (.cells (cs.setIfInBounds j v) t fr) := by
  have hg : g < w.heap.size := (Array.getElem?_eq_some_iff.1 h).1
  have hv : w.heap[g] = .cells cs t fr := (Array.getElem?_eq_some_iff.1 h).2
  unfold World.setCell
  simp [hg, Array.getElem_modify, hv]
def TkH (w : World) (b : Nat) (t : Tk) : Prop := w.heap[b]? = some (.cells (tkA t) 138 (0, 0))
theorem TkH.lt {w : World} {b : Nat} {t : Tk} (h : TkH w b t) : b < w.heap.size := (Array.getElem?_eq_some_iff.1 h).1
theorem TkH.onto {w w' : World} {b : Nat} {t : Tk} (h : TkH w b t) (k : Below w.heap.size w w') : TkH w' b t := (k.block b h.lt).trans h
theorem TkH.hid {w : World} {b : Nat} {t : Tk} (h : TkH w b t) : Hid (TkH w b t) := h
theorem TkH.cells {w : World} {b : Nat} {t : Tk} (h : TkH w b t) : w.cell? ⟨b, 0, none⟩ = some (.int .u8 t.k) ∧ w.cell? ⟨b, 1, none⟩ = some (.string t.x) ∧ w.cell? ⟨b, 2, none⟩ = some (.int .u8 t.ty) ∧ w.cell? ⟨b, 3, none⟩ = some (.int .i64 t.n) ∧ w.cell? ⟨b, 4, none⟩ = some (.int .i64 t.p) := ⟨cell_of h 0, cell_of h 1, cell_of h 2, cell_of h 3, cell_of h 4⟩
theorem TkH.froz {w : World} {b : Nat} {t : Tk} (h : TkH w b t) : w.frozen? ⟨b, 0, none⟩ = false ∧ w.frozen? ⟨b, 1, none⟩ = false ∧ w.frozen? ⟨b, 2, none⟩ = false ∧ w.frozen? ⟨b, 3, none⟩ = false ∧ w.frozen? ⟨b, 4, none⟩ = false := ⟨frozen_of h 0, frozen_of h 1, frozen_of h 2, frozen_of h 3, frozen_of h 4⟩
theorem TkH.put {w : World} {b : Nat} {t : Tk} (h : TkH w b t) (u : Tk) : TkH (((((w.setCell ⟨b, 0, none⟩ (.int .u8 u.k)).setCell ⟨b, 1, none⟩ (.string u.x)).setCell ⟨b, 2, none⟩ (.int .u8 u.ty)).setCell ⟨b, 3, none⟩ (.int .i64 u.n)).setCell ⟨b, 4, none⟩ (.int .i64 u.p)) b u :=
  heap_set _ (heap_set _ (heap_set _ (heap_set _ (heap_set _ h))))
theorem below_put {B : Nat} {w v : World} {b : Nat} (h : Below B w v) (hb : B ≤ b) (v0 v1 v2 v3 v4 : Value) : Below B w (((((v.setCell ⟨b, 0, none⟩ v0).setCell ⟨b, 1, none⟩ v1).setCell ⟨b, 2, none⟩ v2).setCell ⟨b, 3, none⟩ v3).setCell ⟨b, 4, none⟩ v4) :=
  ((((h.setCell (p := ⟨b, 0, none⟩) hb v0).setCell (p := ⟨b, 1, none⟩) hb v1).setCell (p := ⟨b, 2, none⟩) hb v2).setCell (p := ⟨b, 3, none⟩) hb v3).setCell (p := ⟨b, 4, none⟩) hb v4

/-- A word or a name at a place; what is wrong with it. -/
def nmT (s : ByteArray) (a : Nat) : Tk := if lead goB (rest s a) > 16 then tk0 else ⟨if isW (s.extract a (a + lead goB (rest s a))) = true then 1 else 2, s.extract a (a + lead goB (rest s a)), 0, 0, a⟩
def nmE (s : ByteArray) (a : Nat) : Int := if lead goB (rest s a) > 16 then 112 else 0
end Go.Proofs.YtighocmdlifheaaGreatDoor

/-
  The walk of the document's mark.
-/
namespace Go.Proofs.YtighocmdlifheaaGreatDoor
open Go.RowKit

/-- Does mark i stand at a place? -/
def mkB (s : ByteArray) (a i : Nat) : Bool := decide (a + (mk i).size ≤ s.size) && ((s.extract a (a + (mk i).size)).data.toList == (mk i).data.toList)
def mkO (s : ByteArray) (a : Nat) : Option Nat := (List.range 23).find? (mkB s a)
def mkT (s : ByteArray) (a : Nat) : Tk := match mkO s a with | none => tk0 | some i => ⟨4, mk i, 0, 0, a⟩
def mkE (s : ByteArray) (a : Nat) : Int := match mkO s a with | none => 111 | some _ => 0
theorem mkO_some {s : ByteArray} {a i : Nat} (hi : i < 23) (h : ∀ j, j < i → mkB s a j = false) (hm : mkB s a i = true) : mkO s a = some i := by
  unfold mkO
  rw [List.find?_range_eq_some]
  exact ⟨hm, by simpa using hi, fun j hj => by rw [h j hj]; rfl⟩
theorem mkO_none {s : ByteArray} {a : Nat} (h : ∀ j, j < 23 → mkB s a j = false) : mkO s a = none := by
  unfold mkO
  rw [List.find?_eq_none]
  intro x hx
  rw [h x (by simpa using hx)]
  decide
theorem marks_cell (w : World) (j : Nat) (h : j < 23) : (w.alloc (.cells marksV 9)).cell? ⟨w.heap.size, j, none⟩ = some (.string (mk j)) := by
  rw [cell_alloc]
  unfold marksV mk
  have hl : j < marksL.length := h
  simp [List.getElem?_map, List.getElem?_eq_getElem hl, List.getD]
theorem mk_size (i : Nat) : (mk i).size ≤ 2 := by
  unfold mk
  by_cases h : i < 23
  · have : ∀ x ∈ marksL, x.size ≤ 2 := by decide
    have hl : i < marksL.length := h
    rw [List.getD, List.getElem?_eq_getElem hl]
    exact this _ (List.getElem_mem hl)
  · rw [List.getD, List.getElem?_eq_none (by show 23 ≤ i; omega)]
    decide
theorem below_drew {B : Nat} {w w' : World} (h : Below B w w') (n : Nat) : Below B w (w'.drewN n) := ⟨h.os, h.tape, h.output, h.size, h.block⟩
theorem TkH.drewN {w : World} {b : Nat} {t : Tk} (h : TkH w b t) (n : Nat) : TkH (w.drewN n) b t := h

end Go.Proofs.YtighocmdlifheaaGreatDoor

/-
  The walk of the document's number.
-/
namespace Go.Proofs.YtighocmdlifheaaGreatDoor
open Go.RowKit
set_option linter.unusedSimpArgs false

def nbTy : List UInt8 → Int
  | [] => 1
  | c :: _ => if c.toNat = 113 then 2 else if c.toNat = 112 then 3 else if c.toNat = 116 then 4 else 1
def badH : List UInt8 → Bool
  | [] => false
  | c :: _ => goB c || upB c
def hd0 (l : List UInt8) : Bool := match l with | [] => false | c :: _ => decide (c.toNat = 48)
/-- Where a number ends, its number, its type; nothing, if it is none. -/
def nbO (s : ByteArray) (a : Nat) : Option (Nat × Nat × Int) :=
  match nmS (rest s a) 0 0 with
  | none => none
  | some (n, d) =>
    if n > 9223372036854775807 ∨ (d > 1 ∧ hd0 (rest s a) = true) then none
    else if badH (rest s (if nbTy (rest s (a + d)) = 1 then a + d else a + d + 1)) = true then none
    else some (n, if nbTy (rest s (a + d)) = 1 then a + d else a + d + 1, nbTy (rest s (a + d)))
def nbT (s : ByteArray) (a : Nat) : Tk := match nbO s a with | none => tk0 | some (n, e, ty) => ⟨3, s.extract a e, ty, n, a⟩
def nbE (s : ByteArray) (a : Nat) : Int := match nbO s a with | none => 113 | some _ => 0
theorem nb_no {s : ByteArray} {a : Nat} (h : nbO s a = none) : Hid (nbT s a = tk0 ∧ nbE s a = 113) := by show _ ∧ _; unfold nbT nbE; rw [h]; exact ⟨rfl, rfl⟩
theorem nb_yes {s : ByteArray} {a n e : Nat} {ty : Int} (h : nbO s a = some (n, e, ty)) : Hid (nbT s a = ⟨3, s.extract a e, ty, n, a⟩ ∧ nbE s a = 0) := by show _ ∧ _; unfold nbT nbE; rw [h]; exact ⟨rfl, rfl⟩
theorem nbO_of {s : ByteArray} {a i n : Nat} (h : nmS (rest s a) 0 0 = some (n, i - a)) (hi : a ≤ i) : nbO s a = if n > 9223372036854775807 ∨ (i - a > 1 ∧ hd0 (rest s a) = true) then none else if badH (rest s (if nbTy (rest s i) = 1 then i else i + 1)) = true then none else some (n, if nbTy (rest s i) = 1 then i else i + 1, nbTy (rest s i)) := by
  unfold nbO
  rw [h]
  simp only [show a + (i - a) = i by omega]
theorem heap_fst (w : World) (X Y : Obj) : ((w.alloc X).alloc Y).heap[w.heap.size]? = some X := heap_old (heap_new w X) (by rw [size_alloc]; omega)
theorem up_lo {c : UInt8} (h : (c.toNat : Int) < 65) : upB c = false := by unfold upB; exact decide_eq_false (by omega)

end Go.Proofs.YtighocmdlifheaaGreatDoor

/-
  The walk of the document's One and Next.
-/
namespace Go.Proofs.YtighocmdlifheaaGreatDoor
open Go.RowKit

def oneP (s : ByteArray) (f : Nat) : Nat := f + ov (rest s f) false
def hdB (p : UInt8 → Bool) : List UInt8 → Bool
  | [] => false
  | c :: _ => p c
/-- The first token from a place on; what is wrong, and where. -/
def oneT (s : ByteArray) (f : Nat) : Tk :=
  if oneP s f = s.size then ⟨0, ⟨#[]⟩, 0, 0, oneP s f⟩
  else if hdB letB (rest s (oneP s f)) = true then nmT s (oneP s f)
  else if hdB digB (rest s (oneP s f)) = true then nbT s (oneP s f) else mkT s (oneP s f)
def oneE (s : ByteArray) (f : Nat) : Int :=
  if oneP s f = s.size then 0
  else if hdB letB (rest s (oneP s f)) = true then nmE s (oneP s f)
  else if hdB digB (rest s (oneP s f)) = true then nbE s (oneP s f) else mkE s (oneP s f)
def oneB (s : ByteArray) (f : Nat) : Int := if oneE s f = 0 then 0 else oneP s f
def oneV (s : ByteArray) (f : Nat) : Value := .tuple #[.agg (tkA (oneT s f)), .int .i64 (oneE s f), .int .i64 (oneB s f)]

theorem oneP_le (s : ByteArray) (f : Nat) (hf : f ≤ s.size) : oneP s f ≤ s.size := by
  unfold oneP
  have := ov_le (rest s f) false
  rw [rest_len] at this
  omega
end Go.Proofs.YtighocmdlifheaaGreatDoor

/-
  The program's own small functions: bytes; the table of words; Word.
-/
namespace Go.Proofs.YtighocmdlifheaaGreatDoor
open Go.RowKit

/-- The table of words lies as the program's text lays it. -/
def Tab (w : World) : Prop := w.var? Tryz.prog "tripwire/lex.words" = some wordsV
theorem words_global : Tryz.prog.globalNamed "tripwire/lex.words" = some 0 := by kernel_rfl
theorem Tab.on {w w' : World} (h : Tab w) (hb : Below w.heap.size w w') : Tab w' := by
  unfold Tab World.var? at *
  rw [words_global] at h ⊢
  simp only [Option.bind_some] at h ⊢
  have hlt : 0 < w.heap.size := by
    rcases Nat.lt_or_ge 0 w.heap.size with h' | h'
    · exact h'
    · rw [Array.getElem?_eq_none h'] at h; simp at h
  rw [hb.block 0 hlt]
  exact h
theorem Tab.cell {w : World} (h : Tab w) (i : Nat) (hi : i < 41) : w.cell? ⟨0, i, none⟩ = some (.string (wd i)) := by
  have := World.var?_cell words_global h i
  rw [this]
  unfold wordsV wd
  have hl : i < wordsL.length := hi
  simp [List.getElem?_map, List.getElem?_eq_getElem hl, List.getD]
theorem Tab.hid {w : World} (h : Tab w) : Hid (Tab w) := h

theorem isLetter_any (c : UInt8) (w : World) : Calls Tryz.prog 140 #[.int .u8 (c.toNat : Int)] w fun e w' => e = .returned (.bool (letB c)) ∧ w' = w := by
  go_enter Tryz.func140, Tryz.ntmps140
  go_wp2
  all_goals go_ret
  all_goals refine ⟨retB ?_, rfl⟩
  all_goals unfold letB
  · have h : 97 ≤ c.toNat := by omega
    by_cases h2 : c.toNat ≤ 122
    · rw [decide_eq_true (show (c.toNat : Int) ≤ 122 by omega), decide_eq_true ⟨h, h2⟩]
    · rw [decide_eq_false (show ¬ (c.toNat : Int) ≤ 122 by omega), decide_eq_false (fun k => h2 k.2)]
  · rw [decide_eq_false (by omega)]
theorem isDigit_any (c : UInt8) (w : World) : Calls Tryz.prog 142 #[.int .u8 (c.toNat : Int)] w fun e w' => e = .returned (.bool (digB c)) ∧ w' = w := by
  go_enter Tryz.func142, Tryz.ntmps142
  go_wp2
  all_goals go_ret
  all_goals refine ⟨retB ?_, rfl⟩
  all_goals unfold digB
  · have h : 48 ≤ c.toNat := by omega
    by_cases h2 : c.toNat ≤ 57
    · rw [decide_eq_true (show (c.toNat : Int) ≤ 57 by omega), decide_eq_true ⟨h, h2⟩]
    · rw [decide_eq_false (show ¬ (c.toNat : Int) ≤ 57 by omega), decide_eq_false (fun k => h2 k.2)]
  · rw [decide_eq_false (by omega)]
theorem isLetter_b {c : UInt8} {b : Bool} (h : letB c = b) (w : World) : Calls Tryz.prog 140 #[.int .u8 (c.toNat : Int)] w fun e w' => e = .returned (.bool b) ∧ w' = w := h ▸ isLetter_any c w
theorem isDigit_b {c : UInt8} {b : Bool} (h : digB c = b) (w : World) : Calls Tryz.prog 142 #[.int .u8 (c.toNat : Int)] w fun e w' => e = .returned (.bool b) ∧ w' = w := h ▸ isDigit_any c w

set_option maxRecDepth 100000 in
theorem slite_any (s : ByteArray) (c : Int) (w : World) : Calls Tryz.prog 161 #[.string s, .int .u8 c] w fun e w' => e = .returned (.int .i64 (Lib.indexByte s.data.toList c.toNat.toUInt8)) ∧ w' = w := by
  go_enter Tryz.func161, Tryz.ntmps161
  go_wp2
  rw [run_callFunc_extern Tryz.func162 (by kernel_rfl) (by kernel_rfl) (by kernel_rfl) (e := Extern.BytealgIndexByte.indexByte) (by kernel_rfl), Lib.run_indexByteString]
  simp only [Result.andThen]
  rw [Oper.upon_value]
  go_wp2
  go_ret
  exact ⟨rfl, rfl⟩
set_option maxRecDepth 100000 in
theorem indexByte_any (s : ByteArray) (c : Int) (w : World) : Calls Tryz.prog 160 #[.string s, .int .u8 c] w fun e w' => e = .returned (.int .i64 (Lib.indexByte s.data.toList c.toNat.toUInt8)) ∧ w' = w := by
  go_enter Tryz.func160, Tryz.ntmps160
  go_wp2_with (go_at_call 161; refine (slite_any _ _ _).mono ?_; rintro e w' ⟨rfl, rfl⟩)
  go_ret
  exact ⟨rfl, rfl⟩

set_option maxHeartbeats 2000000 in
theorem wordP_any (s : ByteArray) (w : World) (ht : Tab w) : Calls Tryz.prog 153 #[.string s] w fun e w' => e = .returned (.bool (isW s)) ∧ w' = w := by
  have HC : Hid (∀ j, j < 41 → w.cell? ⟨0, j, none⟩ = some (.string (wd j))) := ht.cell
  clear ht
  go_enter Tryz.func153, Tryz.ntmps153
  go_wp2_with fail
  go_loop [4] (fun t => ∃ i : Nat, i ≤ 41 ∧ t = .int .i64 i ∧ Hid (∀ j, j < i → ¬ wd j = s)) (fun t => 41 - (intOf t).toNat)
  case atStart => exact ⟨0, by omega, rfl, fun j hj => by omega⟩
  case round =>
    obtain ⟨i, hi, rfl, HR⟩ := hrel
    by_cases hlt : i < 41
    · have hlt' : (i : Int) < 41 := by omega
      have hcell := HC.out i hlt
      obtain ⟨x, ex⟩ : ∃ x, wd i = x := ⟨_, rfl⟩
      rw [ex] at hcell
      by_cases he : x = s
      · have hw := isW_yes hlt (ex.trans he)
        subst he
        go_wp2
        go_ret
        exact ⟨by first | rfl | exact retB hw.symm, rfl⟩
      · have hne := seq_ne he
        have hn : Hid (∀ j, j < i + 1 → ¬ wd j = s) := fun j hj => by
          by_cases e : j = i
          · subst e; rw [ex]; exact he
          · exact HR.out j (by omega)
        clear he ex
        go_wp2
        exact ⟨⟨i + 1, by omega, by go_num, hn⟩, by simp only [intOf]; omega⟩
    · obtain rfl : i = 41 := by omega
      have hw := isW_no HR.out
      go_wp2
      go_ret
      exact ⟨by first | rfl | exact retB hw.symm, rfl⟩

theorem hd_at {s : ByteArray} {i : Nat} (h : i < s.size) {c : UInt8} (hc : s[i] = c) (p : UInt8 → Bool) : hdB p (rest s i) = p c := by rw [rest_at s i h, hc]; rfl
theorem hd_out {s : ByteArray} {i : Nat} (h : s.size ≤ i) (p : UInt8 → Bool) : hdB p (rest s i) = false := by rw [rest_end s i h]; rfl
set_option maxHeartbeats 2000000 in
theorem wordC_any (s : ByteArray) (i B : Nat) (w : World) (hB : w.cell? ⟨B, 0, none⟩ = some (.string s)) (hi : i ≤ s.size) :
    Calls Tryz.prog 152 #[.int .i64 i, .pointer (some ⟨B, 0, none⟩)] w fun e w' => e = .returned (.bool (hdB goB (rest s i))) ∧ w' = w := by
  by_cases hlt : i < s.size
  · have hlt' : (i : Int) < (s.size : Int) := by omega
    obtain ⟨c, hc⟩ : ∃ c, s[i] = c := ⟨_, rfl⟩
    rw [hd_at hlt hc]
    cases b1 : letB c
    · cases b2 : digB c
      · have hg : Hid (goB c = ((c.toNat : Int) == 95)) := by
          show _ = _
          unfold goB
          rw [b1, b2]
          by_cases h : c.toNat = 95
          · rw [h]; rfl
          · have h' : ((c.toNat : Int) == 95) = false := beq_false_of_ne (by omega)
            rw [h']; simp [h]
        go_enter Tryz.func152, Tryz.ntmps152
        go_wp2_with (first | (go_at_call 140; refine (isLetter_b b1 _).mono ?_; rintro _ v ⟨rfl, e⟩; obtain rfl := e.symm) | (go_at_call 142; refine (isDigit_b b2 _).mono ?_; rintro _ v ⟨rfl, e⟩; obtain rfl := e.symm))
        all_goals go_ret
        all_goals exact ⟨by rw [hg.out]; rfl, rfl⟩
      · have hg : goB c = true := by unfold goB; rw [b1, b2]; rfl
        rw [hg]
        go_enter Tryz.func152, Tryz.ntmps152
        go_wp2_with (first | (go_at_call 140; refine (isLetter_b b1 _).mono ?_; rintro _ v ⟨rfl, e⟩; obtain rfl := e.symm) | (go_at_call 142; refine (isDigit_b b2 _).mono ?_; rintro _ v ⟨rfl, e⟩; obtain rfl := e.symm))
        all_goals go_ret
        all_goals exact ⟨rfl, rfl⟩
    · have hg : goB c = true := by unfold goB; rw [b1]; rfl
      rw [hg]
      go_enter Tryz.func152, Tryz.ntmps152
      go_wp2_with (go_at_call 140; refine (isLetter_b b1 _).mono ?_; rintro _ v ⟨rfl, e⟩; obtain rfl := e.symm)
      all_goals go_ret
      all_goals exact ⟨rfl, rfl⟩
  · rw [hd_out (by omega)]
    have hn : ¬ (i : Int) < (s.size : Int) := by omega
    go_enter Tryz.func152, Tryz.ntmps152
    go_wp2_with fail
    go_ret
    exact ⟨rfl, rfl⟩
set_option maxHeartbeats 2000000 in
theorem numC_any (s : ByteArray) (i B : Nat) (w : World) (hB : w.cell? ⟨B, 0, none⟩ = some (.string s)) (hi : i ≤ s.size) :
    Calls Tryz.prog 154 #[.int .i64 i, .pointer (some ⟨B, 0, none⟩)] w fun e w' => e = .returned (.bool (hdB digB (rest s i))) ∧ w' = w := by
  by_cases hlt : i < s.size
  · have hlt' : (i : Int) < (s.size : Int) := by omega
    obtain ⟨c, hc⟩ : ∃ c, s[i] = c := ⟨_, rfl⟩
    rw [hd_at hlt hc]
    go_enter Tryz.func154, Tryz.ntmps154
    go_wp2_with (go_at_call 142; refine (isDigit_any _ _).mono ?_; rintro _ v ⟨rfl, e⟩; obtain rfl := e.symm)
    all_goals go_ret
    all_goals exact ⟨rfl, rfl⟩
  · rw [hd_out (by omega)]
    have hn : ¬ (i : Int) < (s.size : Int) := by omega
    go_enter Tryz.func154, Tryz.ntmps154
    go_wp2_with fail
    go_ret
    exact ⟨rfl, rfl⟩
set_option maxHeartbeats 2000000 in
theorem reachW_any (s : ByteArray) (a B : Nat) (hs : s.size ≤ 140737488355328) (ha : a ≤ s.size) (w : World) (hB : w.cell? ⟨B, 0, none⟩ = some (.string s)) (d : Nat) (hd : Hid (d = a + lead goB (rest s a))) :
    Calls Tryz.prog 151 #[.int .i64 a, .func (.func 152) #[] #[.pointer (some ⟨B, 0, none⟩)]] w fun e w' => e = .returned (.int .i64 d) ∧ w' = w := by
  go_enter Tryz.func151, Tryz.ntmps151
  go_wp2_with fail
  go_loop [0] (fun t => ∃ i : Nat, a ≤ i ∧ i ≤ s.size ∧ t = .int .i64 i ∧ Hid (d = i + lead goB (rest s i))) (fun t => s.size - (intOf t).toNat)
  case atStart => exact ⟨a, Nat.le_refl _, ha, rfl, hd⟩
  case round =>
    obtain ⟨i, hi1, hi2, rfl, HR⟩ := hrel
    clear hd
    have cF := wordC_any s i B w hB hi2
    cases hb : hdB goB (rest s i)
    · rw [hb] at cF
      have hs2 : Hid (i = d) := by
        show _ = _
        rw [HR.out]
        cases hr : rest s i with
        | nil => rfl
        | cons c l => rw [hr] at hb; rw [lead, if_neg (by rw [show goB c = false from hb]; decide)]; rfl
      clear hb
      go_wp2_with fail
      refine cF.mono ?_
      rintro _ v ⟨rfl, e⟩
      obtain rfl := e.symm
      go_wp2_with fail
      go_ret
      exact ⟨retI (by rw [hs2.out]), rfl⟩
    · rw [hb] at cF
      have hlt : i < s.size := by
        by_cases h : i < s.size
        · exact h
        · rw [hd_out (by omega)] at hb; cases hb
      have hs2 : Hid (d = (i + 1) + lead goB (rest s (i + 1))) := by
        show _ = _
        rw [HR.out]
        have hr := rest_at s i hlt
        rw [hr] at hb
        unfold hdB at hb
        rw [hr, lead, if_pos hb]; omega
      clear hb HR
      go_wp2_with fail
      refine cF.mono ?_
      rintro _ v ⟨rfl, e⟩
      obtain rfl := e.symm
      go_wp2_with fail
      exact ⟨⟨i + 1, by omega, by omega, by go_num, hs2⟩, by simp only [intOf]; omega⟩
set_option maxHeartbeats 2000000 in
theorem reachN_any (s : ByteArray) (a B : Nat) (hs : s.size ≤ 140737488355328) (ha : a ≤ s.size) (w : World) (hB : w.cell? ⟨B, 0, none⟩ = some (.string s)) (d : Nat) (hd : Hid (d = a + lead digB (rest s a))) :
    Calls Tryz.prog 151 #[.int .i64 a, .func (.func 154) #[] #[.pointer (some ⟨B, 0, none⟩)]] w fun e w' => e = .returned (.int .i64 d) ∧ w' = w := by
  go_enter Tryz.func151, Tryz.ntmps151
  go_wp2_with fail
  go_loop [0] (fun t => ∃ i : Nat, a ≤ i ∧ i ≤ s.size ∧ t = .int .i64 i ∧ Hid (d = i + lead digB (rest s i))) (fun t => s.size - (intOf t).toNat)
  case atStart => exact ⟨a, Nat.le_refl _, ha, rfl, hd⟩
  case round =>
    obtain ⟨i, hi1, hi2, rfl, HR⟩ := hrel
    clear hd
    have cF := numC_any s i B w hB hi2
    cases hb : hdB digB (rest s i)
    · rw [hb] at cF
      have hs2 : Hid (i = d) := by
        show _ = _
        rw [HR.out]
        cases hr : rest s i with
        | nil => rfl
        | cons c l => rw [hr] at hb; rw [lead, if_neg (by rw [show digB c = false from hb]; decide)]; rfl
      clear hb
      go_wp2_with fail
      refine cF.mono ?_
      rintro _ v ⟨rfl, e⟩
      obtain rfl := e.symm
      go_wp2_with fail
      go_ret
      exact ⟨retI (by rw [hs2.out]), rfl⟩
    · rw [hb] at cF
      have hlt : i < s.size := by
        by_cases h : i < s.size
        · exact h
        · rw [hd_out (by omega)] at hb; cases hb
      have hs2 : Hid (d = (i + 1) + lead digB (rest s (i + 1))) := by
        show _ = _
        rw [HR.out]
        have hr := rest_at s i hlt
        rw [hr] at hb
        unfold hdB at hb
        rw [hr, lead, if_pos hb]; omega
      clear hb HR
      go_wp2_with fail
      refine cF.mono ?_
      rintro _ v ⟨rfl, e⟩
      obtain rfl := e.symm
      go_wp2_with fail
      exact ⟨⟨i + 1, by omega, by omega, by go_num, hs2⟩, by simp only [intOf]; omega⟩
end Go.Proofs.YtighocmdlifheaaGreatDoor

/-
  Plain facts of a token that is right: where it stands, and that it stays within the text.
-/
namespace Go.Proofs.YtighocmdlifheaaGreatDoor
open Go.RowKit

theorem nmS_len : ∀ (l : List UInt8) (n k n' k' : Nat), nmS l n k = some (n', k') → k ≤ k' ∧ k' ≤ k + l.length ∧ (hdB digB l = true → k < k')
  | [], n, k, n', k', h => by
    simp only [nmS, Option.some.injEq, Prod.mk.injEq] at h
    obtain ⟨_, rfl⟩ := h
    exact ⟨Nat.le_refl _, Nat.le_add_right _ _, fun h => by simp [hdB] at h⟩
  | c :: l, n, k, n', k', h => by
    unfold nmS at h
    by_cases hg : digB c = true
    · rw [if_pos hg] at h
      by_cases hn : n > 922337203685477580
      · rw [if_pos hn] at h; exact absurd h (by simp)
      · rw [if_neg hn] at h
        have := nmS_len l _ _ _ _ h
        refine ⟨by omega, by simp only [List.length_cons]; omega, fun _ => by omega⟩
    · rw [if_neg hg] at h
      simp only [Option.some.injEq, Prod.mk.injEq] at h
      obtain ⟨_, rfl⟩ := h
      exact ⟨Nat.le_refl _, Nat.le_add_right _ _, fun h => absurd h hg⟩
theorem let_go {c : UInt8} (h : letB c = true) : goB c = true := by
  unfold goB; simp [h]
theorem lead_pos {p : UInt8 → Bool} {l : List UInt8} (h : hdB p l = true) : 0 < lead p l := by
  cases l with
  | nil => simp [hdB] at h
  | cons c l => unfold lead; rw [if_pos (show p c = true from h)]; omega
theorem hd_go {l : List UInt8} (h : hdB letB l = true) : hdB goB l = true := by
  cases l with
  | nil => simp [hdB] at h
  | cons c l => exact let_go h
theorem ext_size (s : ByteArray) (a b : Nat) (h : b ≤ s.size) : (s.extract a b).size = b - a := by
  rw [ByteArray.size_extract]; omega
theorem mk_pos (i : Nat) (h : i < 23) : 0 < (mk i).size := by
  have : ∀ x ∈ marksL, 0 < x.size := by decide
  have hl : i < marksL.length := h
  unfold mk
  rw [List.getD_eq_getElem?_getD, List.getElem?_eq_getElem hl]
  exact this _ (List.getElem_mem hl)
theorem nbTy_nil {s : ByteArray} {a : Nat} (h : ¬ nbTy (rest s a) = 1) : a < s.size := by
  by_cases ha : a < s.size
  · exact ha
  · exfalso
    apply h
    have : rest s a = [] := by
      apply List.eq_nil_of_length_eq_zero
      rw [rest_len]; omega
    rw [this]; rfl
/-- A right token: its place, and its end. -/
theorem one_fine (s : ByteArray) (f : Nat) (hf : f ≤ s.size) (h : oneE s f = 0) :
    (oneT s f).p = (oneP s f : Nat) ∧ f ≤ oneP s f ∧ oneP s f + (oneT s f).x.size ≤ s.size ∧ ((oneT s f).k ≠ 0 → 0 < (oneT s f).x.size) := by
  have hP := oneP_le s f hf
  have hfP : f ≤ oneP s f := by unfold oneP; omega
  unfold oneE at h
  unfold oneT
  generalize oneP s f = d at *
  by_cases h0 : d = s.size
  · rw [if_pos h0]
    exact ⟨rfl, hfP, (show d + 0 ≤ s.size from hP), fun h => absurd rfl h⟩
  rw [if_neg h0] at h ⊢
  by_cases hl : hdB letB (rest s d) = true
  · rw [if_pos hl] at h ⊢
    unfold nmE at h
    unfold nmT
    by_cases hk : lead goB (rest s d) > 16
    · rw [if_pos hk] at h; exact absurd h (by decide)
    · rw [if_neg hk]
      have hL := lead_le goB (rest s d)
      rw [rest_len] at hL
      have h1 := lead_pos (hd_go hl)
      have e := ext_size s d (d + lead goB (rest s d)) (by omega)
      refine ⟨rfl, hfP, ?_, fun _ => ?_⟩
      · show d + (s.extract d _).size ≤ _
        rw [e]; omega
      · show 0 < (s.extract d _).size
        rw [e]; omega
  rw [if_neg hl] at h ⊢
  by_cases hg : hdB digB (rest s d) = true
  · rw [if_pos hg] at h ⊢
    unfold nbE at h
    unfold nbT
    cases ho : nbO s d with
    | none => rw [ho] at h; exact absurd h (by decide)
    | some q =>
      obtain ⟨n, e, ty⟩ := q
      have he : d < e ∧ e ≤ s.size := by
        unfold nbO at ho
        cases hm : nmS (rest s d) 0 0 with
        | none => rw [hm] at ho; exact absurd ho (by simp)
        | some q =>
          obtain ⟨n2, k2⟩ := q
          have := nmS_len _ _ _ _ _ hm
          rw [rest_len] at this
          have h3 := this.2.2 hg
          rw [hm] at ho
          simp only at ho
          obtain ⟨E, hE⟩ : ∃ E, (if nbTy (rest s (d + k2)) = 1 then d + k2 else d + k2 + 1) = E := ⟨_, rfl⟩
          rw [hE] at ho
          have hE2 : d < E ∧ E ≤ s.size := by
            by_cases ht : nbTy (rest s (d + k2)) = 1
            · rw [if_pos ht] at hE; omega
            · rw [if_neg ht] at hE
              have := nbTy_nil ht
              omega
          split at ho
          · exact absurd ho (by simp)
          · split at ho
            · exact absurd ho (by simp)
            · simp only [Option.some.injEq, Prod.mk.injEq] at ho
              obtain ⟨_, ho, _⟩ := ho
              rw [← ho]; exact hE2
      have ee := ext_size s d e he.2
      refine ⟨rfl, hfP, ?_, fun _ => ?_⟩
      · show d + (s.extract d _).size ≤ _
        rw [ee]; omega
      · show 0 < (s.extract d _).size
        rw [ee]; omega
  rw [if_neg hg] at h ⊢
  unfold mkE at h
  unfold mkT
  cases ho : mkO s d with
  | none => rw [ho] at h; exact absurd h (by decide)
  | some i =>
    unfold mkO at ho
    rw [List.find?_range_eq_some] at ho
    obtain ⟨hm, hi, _⟩ := ho
    have hi' : i < 23 := by simpa using hi
    unfold mkB at hm
    rw [Bool.and_eq_true] at hm
    exact ⟨rfl, hfP, of_decide_eq_true hm.1, fun _ => mk_pos i hi'⟩
end Go.Proofs.YtighocmdlifheaaGreatDoor
