import Derived.Test.YtkfabnchhjfjjaaGreatDoorA0
import Derived.Test.YtkfabnchhjfjjaaGreatDoorProg
import Derived.WalkKit
import Derived.ProofKit
import Derived.Outline
import Derived.Below
import Derived.Deep.QuietTactic
import Derived.BigQuiet
import Derived.Laws.Rows
import Derived.Deep.DeepCutAuto
import Derived.Deep.CutRange
import Derived.Lib.Bytealg
import Derived.LaidLaws
namespace Go.Proofs.YtkfabnchhjfjjaaGreatDoor
open Go.RowKit
def letB (c : UInt8) : Bool := decide (97 ≤ c.toNat ∧ c.toNat ≤ 122)
def digB (c : UInt8) : Bool := decide (48 ≤ c.toNat ∧ c.toNat ≤ 57)
def upB (c : UInt8) : Bool := decide (65 ≤ c.toNat ∧ c.toNat ≤ 90)
def goB (c : UInt8) : Bool := letB c || digB c || decide (c.toNat = 95)
def blankB (c : UInt8) : Bool := decide (c.toNat = 32) || decide (c.toNat = 9) || decide (c.toNat = 10) || decide (c.toNat = 13)
def remB (r : Bool) (c : UInt8) : Bool := if c.toNat = 35 then true else if c.toNat = 10 then false else r
def ov : List UInt8 → Bool → Nat
 | [],_ => 0
 | c :: l,r => if remB r c = false ∧ blankB c = false then 0 else ov l (remB r c) + 1
theorem ov_le : ∀ (l : List UInt8) (r : Bool),ov l r ≤ l.length
 | [],_ => Nat.le_refl _
 | c :: l,r => by
  have := ov_le l (remB r c)
  unfold ov
  split
  ·exact Nat.zero_le _
  ·simp only [List.length_cons]; omega
def lead (p : UInt8 → Bool) : List UInt8 → Nat
 | [] => 0
 | c :: l => if p c = true then lead p l + 1 else 0
theorem lead_le (p : UInt8 → Bool) : ∀ l : List UInt8,lead p l ≤ l.length
 | [] => Nat.le_refl _
 | c :: l => by
  have := lead_le p l
  unfold lead
  split
  ·simp only [List.length_cons]; omega
  ·exact Nat.zero_le _
def nmS : List UInt8 → Nat → Nat → Option (Nat × Nat)
 | [],n,k => some (n,k)
 | c :: l,n,k => if digB c = true then (if n > 922337203685477580 then none else nmS l (10 * n + (c.toNat - 48)) (k + 1)) else some (n,k)
def wordsL : List ByteArray := [Z8,⟨#[97,109,101,110,100]⟩,⟨#[97,115]⟩,Z2,⟨#[97,116]⟩,Z3,⟨#[98,111,111,108]⟩,Zm,⟨#[99,97,110,99,101,108]⟩,⟨#[100,111]⟩,ZA,⟨#[102,111,107]⟩,⟨#[103,111,116,111]⟩,⟨#[104,97,108,116]⟩,ZC,Zd,⟨#[105,111,99]⟩,Z4,⟨#[108,105,109,105,116]⟩,⟨#[109,97,114,107,101,116]⟩,Z9,Za,Z5,⟨#[111,102]⟩,Z6,⟨#[112,111,115,116]⟩,Ze,Zf,ZI,Zi,⟨#[115,101,116]⟩,⟨#[115,105,100,101]⟩,ZJ,ZB,ZF,⟨#[115,117,98,109,105,116]⟩,Zg,⟨#[116,111]⟩,Zn,Z7,⟨#[119,104,101,110]⟩]
def marksL : List ByteArray := [Zo,Zp,Zq,Zr,ZG,ZH,Zk,Zs,Zb,Zl,Zt,⟨#[59]⟩,Zh,ZD,⟨#[61]⟩,Zu,Zv,Zw,Zj,Zc,Zx,Zy,Zz]
def wd (i : Nat) : ByteArray := wordsL.getD i ⟨#[]⟩
def mk (i : Nat) : ByteArray := marksL.getD i ⟨#[]⟩
def isW (x : ByteArray) : Bool := wordsL.any (fun y => y.data.toList == x.data.toList)
structure Tk where
 k : Int
 x : ByteArray
 ty : Int
 n : Int
 p : Int
def tkA (t : Tk) : Array Value := #[zU t.k,.string t.x,zU t.ty,zI t.n,zI t.p]
def tk0 : Tk := ⟨0,⟨#[]⟩,0,0,0⟩
def rest (s : ByteArray) (a : Nat) : List UInt8 := s.data.toList.drop a
theorem len_of (s : ByteArray) : s.data.toList.length = s.size := by
 cases s; simp [ByteArray.size]
theorem rest_at (s : ByteArray) (i : Nat) (h : i < s.size) : rest s i = s[i] :: rest s (i + 1) := by
 unfold rest
 rw [List.drop_eq_getElem_cons (by rw [len_of]; exact h)]
 rfl
theorem rest_end (s : ByteArray) (i : Nat) (h : s.size ≤ i) : rest s i = [] := List.drop_eq_nil_of_le (by rw [len_of]; exact h)
theorem rest_len (s : ByteArray) (a : Nat) : (rest s a).length = s.size - a := by unfold rest; rw [List.length_drop,len_of]
theorem size_alloc (w : World) (o : Obj) : (w.alloc o)§ = w§ + 1 := by simp
theorem heap_new (w : World) (o : Obj) : (w.alloc o).heap[w§]? = some o := by
 show (w.heap.push o)[w§]? = _
 simp
theorem below_new (w : World) (o : Obj) : Below w§ w (w.alloc o) := (Below.refl _ w).alloc (Nat.le_refl _) o
theorem cell_alloc (w : World) (a : Array Value) (t : TypeId) (j : Nat) : (w.alloc (.cells a t)).cell? ⟨w§,j,none⟩ = a[j]? := by
 unfold World.cell? World.alloc; simp
theorem retI {a b : Int} (h : a = b) : Ending.returned (zI a) = .returned (zI b) := by rw [h]
theorem retB {a b : Bool} (h : a = b) : Ending.returned (.bool a) = .returned (.bool b) := by rw [h]
theorem str_eq {a b : ByteArray} (h : a.data.toList = b.data.toList) : a = b := by
 cases a; cases b
 simp at h
 rw [h]
theorem byte_lt (c : UInt8) : (c.toNat : Int) ≤ 255 := by have := c.toNat_lt; omega
theorem ov_stop {c : UInt8} {l : List UInt8} {r : Bool} (h1 : remB r c = false) (h2 : blankB c = false) : ov (c :: l) r = 0 := by unfold ov; rw [if_pos ⟨h1,h2⟩]
theorem ov_go {c : UInt8} {l : List UInt8} {r : Bool} (h : ¬ (remB r c = false ∧ blankB c = false)) : ov (c :: l) r = ov l (remB r c) + 1 := by rw [ov,if_neg h]
def wordsV : Array Value := (wordsL.map Value.string).toArray
def marksV : Array Value := (marksL.map Value.string).toArray
theorem words_cell (w : World) (j : Nat) (h : j < 41) : (w.alloc (.cells wordsV 9)).cell? ⟨w§,j,none⟩ = some (.string (wd j)) := by
 rw [cell_alloc]
 unfold wordsV wd
 have hl : j < wordsL.length := h
 simp [List.getElem?_map,List.getElem?_eq_getElem hl,List.getD]
theorem seq_ne {a b : ByteArray} (h : ¬ a = b) : (a.toList == b.toList) = false := by
 rw [ByteArray.toList_eq,ByteArray.toList_eq]
 exact beq_false_of_ne (fun h' => h (str_eq h'))
theorem isW_yes {s : ByteArray} {i : Nat} (h : i < 41) (e : wd i = s) : isW s = true := by
 unfold isW
 rw [List.any_eq_true]
 have hl : i < wordsL.length := h
 refine ⟨wordsL[i],List.getElem_mem hl,?_⟩
 have : wd i = wordsL[i] := by unfold wd; simp [List.getD,hl]
 rw [← this,e]
 simp
theorem isW_no {s : ByteArray} (h : ∀ j,j < 41 → ¬ wd j = s) : isW s = false := by
 unfold isW
 rw [List.any_eq_false]
 intro x hx e
 obtain ⟨i,hi,rfl⟩ := List.mem_iff_getElem.1 hx
 refine h i hi ?_
 have e2 : wd i = wordsL[i] := by unfold wd; simp [List.getD,hi]
 rw [e2]
 exact str_eq (by simpa using e)
theorem results_two {P : Program} {fn : Func} {p u : Tmp} {ty : TypeId} (h : fn.results = #[.cell p ty,.tmp u]) (tmps : Array Value) (w : World) (g : Nat) (t : TypeId) (cs : Array Value) (fr : Nat × Nat) (d : TypeDesc)
  (hp : tmps.getD p undef = zP g) (hg : w.heap[g]? = some (.cells cs t fr))
  (hu : P.underlying ty = some d) (hd : (match d with | .struct _ | .array _ _ => true | _ => false) = true) (hi : (P.info? ty).map (·.size) = some cs.size) :
  (results fn tmps).run P w = .ok (.tuple #[.agg cs,tmps.getD u undef]) w := by
 have hp' : tmps[p]?.getD undef = zP g := by simpa using hp
 simp [results,h,hp',asAddr,run_loadVar_row w g t ty cs fr d hg hu hd hi]
theorem results_three {P : Program} {fn : Func} {p u v : Tmp} {ty : TypeId} (h : fn.results = #[.cell p ty,.tmp u,.tmp v]) (tmps : Array Value) (w : World) (g : Nat) (t : TypeId) (cs : Array Value) (fr : Nat × Nat) (d : TypeDesc)
  (hp : tmps.getD p undef = zP g) (hg : w.heap[g]? = some (.cells cs t fr))
  (hu : P.underlying ty = some d) (hd : (match d with | .struct _ | .array _ _ => true | _ => false) = true) (hi : (P.info? ty).map (·.size) = some cs.size) :
  (results fn tmps).run P w = .ok (.tuple #[.agg cs,tmps.getD u undef,tmps.getD v undef]) w := by
 have hp' : tmps[p]?.getD undef = zP g := by simpa using hp
 simp [results,h,hp',asAddr,run_loadVar_row w g t ty cs fr d hg hu hd hi]
theorem below_two (w : World) (X Y : Obj) : Below w§ w ((w.alloc X).alloc Y) := (below_new w X).alloc (by rw [size_alloc]; omega) Y
theorem heap_old {w : World} {o : Obj} {k : Nat} {x : Option Obj} (h : w.heap[k]? = x) (hk : k < w§) : (w.alloc o).heap[k]? = x := (Below.heap_alloc _ _ _ hk).trans h
theorem cell_of {w : World} {g : Nat} {cs : Array Value} {t : TypeId} {fr : Nat × Nat} (h : w.heap[g]? = some (.cells cs t fr)) (j : Nat) : w.cell? ⟨g,j,none⟩ = cs[j]? := by
 unfold World.cell?; rw [h]; simp
theorem frozen_of {w : World} {g : Nat} {cs : Array Value} {t : TypeId} (h : w.heap[g]? = some (.cells cs t (0,0))) (j : Nat) : w.frozen? ⟨g,j,none⟩ = false := by
 unfold World.frozen?; rw [h]; simp
theorem heap_set {w : World} {g j : Nat} {cs : Array Value} {t : TypeId} {fr : Nat × Nat} (v : Value) (h : w.heap[g]? = some (.cells cs t fr)) : (w.setCell ⟨g,j,none⟩ v).heap[g]? = some (.cells (cs.setIfInBounds j v) t fr) := by
 have hg : g < w§ := (Array.getElem?_eq_some_iff.1 h).1
 have hv : w.heap[g] = .cells cs t fr := (Array.getElem?_eq_some_iff.1 h).2
 unfold World.setCell
 simp [hg,Array.getElem_modify,hv]
def TkH (w : World) (b : Nat) (t : Tk) : Prop := w.heap[b]? = some (.cells (tkA t) 82 (0,0))
theorem TkH.lt {w : World} {b : Nat} {t : Tk} (h : TkH w b t) : b < w§ := (Array.getElem?_eq_some_iff.1 h).1
theorem TkH.onto {w w' : World} {b : Nat} {t : Tk} (h : TkH w b t) (k : Below w§ w w') : TkH w' b t := (k.block b h.lt).trans h
theorem TkH.hid {w : World} {b : Nat} {t : Tk} (h : TkH w b t) : Hid (TkH w b t) := h
theorem TkH.cells {w : World} {b : Nat} {t : Tk} (h : TkH w b t) : w.cell? ⟨b,0,none⟩ = some (zU t.k) ∧ w.cell? ⟨b,1,none⟩ = some (.string t.x) ∧ w.cell? ⟨b,2,none⟩ = some (zU t.ty) ∧ w.cell? ⟨b,3,none⟩ = some (zI t.n) ∧ w.cell? ⟨b,4,none⟩ = some (zI t.p) := ⟨cell_of h 0,cell_of h 1,cell_of h 2,cell_of h 3,cell_of h 4⟩
theorem TkH.froz {w : World} {b : Nat} {t : Tk} (h : TkH w b t) : w.frozen? ⟨b,0,none⟩ = false ∧ w.frozen? ⟨b,1,none⟩ = false ∧ w.frozen? ⟨b,2,none⟩ = false ∧ w.frozen? ⟨b,3,none⟩ = false ∧ w.frozen? ⟨b,4,none⟩ = false := ⟨frozen_of h 0,frozen_of h 1,frozen_of h 2,frozen_of h 3,frozen_of h 4⟩
theorem TkH.put {w : World} {b : Nat} {t : Tk} (h : TkH w b t) (u : Tk) : TkH (((((w.setCell ⟨b,0,none⟩ (zU u.k)).setCell ⟨b,1,none⟩ (.string u.x)).setCell ⟨b,2,none⟩ (zU u.ty)).setCell ⟨b,3,none⟩ (zI u.n)).setCell ⟨b,4,none⟩ (zI u.p)) b u :=
 heap_set _ (heap_set _ (heap_set _ (heap_set _ (heap_set _ h))))
theorem below_put {B : Nat} {w v : World} {b : Nat} (h : Below B w v) (hb : B ≤ b) (v0 v1 v2 v3 v4 : Value) : Below B w (((((v.setCell ⟨b,0,none⟩ v0).setCell ⟨b,1,none⟩ v1).setCell ⟨b,2,none⟩ v2).setCell ⟨b,3,none⟩ v3).setCell ⟨b,4,none⟩ v4) :=
 ((((h.setCell (p := ⟨b,0,none⟩) hb v0).setCell (p := ⟨b,1,none⟩) hb v1).setCell (p := ⟨b,2,none⟩) hb v2).setCell (p := ⟨b,3,none⟩) hb v3).setCell (p := ⟨b,4,none⟩) hb v4
def nmT (s : ByteArray) (a : Nat) : Tk := if lead goB (rest s a) > 16 then tk0 else ⟨if isW (s.extract a (a + lead goB (rest s a))) = true then 1 else 2,s.extract a (a + lead goB (rest s a)),0,0,a⟩
def nmE (s : ByteArray) (a : Nat) : Int := if lead goB (rest s a) > 16 then 112 else 0
def mkB (s : ByteArray) (a i : Nat) : Bool := decide (a + (mk i).size ≤ s.size) && ((s.extract a (a + (mk i).size)).data.toList == (mk i).data.toList)
def mkO (s : ByteArray) (a : Nat) : Option Nat := (List.range 23).find? (mkB s a)
def mkT (s : ByteArray) (a : Nat) : Tk := match mkO s a with | none => tk0 | some i => ⟨4,mk i,0,0,a⟩
def mkE (s : ByteArray) (a : Nat) : Int := match mkO s a with | none => 111 | some _ => 0
theorem mkO_some {s : ByteArray} {a i : Nat} (hi : i < 23) (h : ∀ j,j < i → mkB s a j = false) (hm : mkB s a i = true) : mkO s a = some i := by
 unfold mkO
 rw [List.find?_range_eq_some]
 exact ⟨hm,by simpa using hi,fun j hj => by rw [h j hj]; rfl⟩
theorem mkO_none {s : ByteArray} {a : Nat} (h : ∀ j,j < 23 → mkB s a j = false) : mkO s a = none := by
 unfold mkO
 rw [List.find?_eq_none]
 intro x hx
 rw [h x (by simpa using hx)]
 decide
theorem marks_cell (w : World) (j : Nat) (h : j < 23) : (w.alloc (.cells marksV 9)).cell? ⟨w§,j,none⟩ = some (.string (mk j)) := by
 rw [cell_alloc]
 unfold marksV mk
 have hl : j < marksL.length := h
 simp [List.getElem?_map,List.getElem?_eq_getElem hl,List.getD]
theorem mk_size (i : Nat) : (mk i).size ≤ 2 := by
 unfold mk
 by_cases h : i < 23
 ·have : ∀ x ∈ marksL,x.size ≤ 2 := by decide
  have hl : i < marksL.length := h
  rw [List.getD,List.getElem?_eq_getElem hl]
  exact this _ (List.getElem_mem hl)
 ·rw [List.getD,List.getElem?_eq_none (by show 23 ≤ i; omega)]
  decide
theorem below_drew {B : Nat} {w w' : World} (h : Below B w w') (n : Nat) : Below B w (w'.drewN n) := ⟨h.os,h.tape,h.output,h.size,h.block⟩
theorem TkH.drewN {w : World} {b : Nat} {t : Tk} (h : TkH w b t) (n : Nat) : TkH (w.drewN n) b t := h
set_option linter.unusedSimpArgs false
def nbTy : List UInt8 → Int
 | [] => 1
 | c :: _ => if c.toNat = 113 then 2 else if c.toNat = 112 then 3 else if c.toNat = 116 then 4 else 1
def badH : List UInt8 → Bool
 | [] => false
 | c :: _ => goB c || upB c
def hd0 (l : List UInt8) : Bool := match l with | [] => false | c :: _ => decide (c.toNat = 48)
def nbO (s : ByteArray) (a : Nat) : Option (Nat × Nat × Int) :=
 match nmS (rest s a) 0 0 with
 | none => none
 | some (n,d) =>
  if n > 9223372036854775807 ∨ (d > 1 ∧ hd0 (rest s a) = true) then none
  else if badH (rest s (if nbTy (rest s (a + d)) = 1 then a + d else a + d + 1)) = true then none
  else some (n,if nbTy (rest s (a + d)) = 1 then a + d else a + d + 1,nbTy (rest s (a + d)))
def nbT (s : ByteArray) (a : Nat) : Tk := match nbO s a with | none => tk0 | some (n,e,ty) => ⟨3,s.extract a e,ty,n,a⟩
def nbE (s : ByteArray) (a : Nat) : Int := match nbO s a with | none => 113 | some _ => 0
theorem nb_no {s : ByteArray} {a : Nat} (h : nbO s a = none) : Hid (nbT s a = tk0 ∧ nbE s a = 113) := by show _ ∧ _; unfold nbT nbE; rw [h]; exact ⟨rfl,rfl⟩
theorem nb_yes {s : ByteArray} {a n e : Nat} {ty : Int} (h : nbO s a = some (n,e,ty)) : Hid (nbT s a = ⟨3,s.extract a e,ty,n,a⟩ ∧ nbE s a = 0) := by show _ ∧ _; unfold nbT nbE; rw [h]; exact ⟨rfl,rfl⟩
theorem nbO_of {s : ByteArray} {a i n : Nat} (h : nmS (rest s a) 0 0 = some (n,i - a)) (hi : a ≤ i) : nbO s a = if n > 9223372036854775807 ∨ (i - a > 1 ∧ hd0 (rest s a) = true) then none else if badH (rest s (if nbTy (rest s i) = 1 then i else i + 1)) = true then none else some (n,if nbTy (rest s i) = 1 then i else i + 1,nbTy (rest s i)) := by
 unfold nbO
 rw [h]
 simp only [show a + (i - a) = i by omega]
theorem heap_fst (w : World) (X Y : Obj) : ((w.alloc X).alloc Y).heap[w§]? = some X := heap_old (heap_new w X) (by rw [size_alloc]; omega)
def oneP (s : ByteArray) (f : Nat) : Nat := f + ov (rest s f) false
def hdB (p : UInt8 → Bool) : List UInt8 → Bool
 | [] => false
 | c :: _ => p c
def oneT (s : ByteArray) (f : Nat) : Tk :=
 if oneP s f = s.size then ⟨0,⟨#[]⟩,0,0,oneP s f⟩
 else if hdB letB (rest s (oneP s f)) = true then nmT s (oneP s f)
 else if hdB digB (rest s (oneP s f)) = true then nbT s (oneP s f) else mkT s (oneP s f)
def oneE (s : ByteArray) (f : Nat) : Int :=
 if oneP s f = s.size then 0
 else if hdB letB (rest s (oneP s f)) = true then nmE s (oneP s f)
 else if hdB digB (rest s (oneP s f)) = true then nbE s (oneP s f) else mkE s (oneP s f)
def oneB (s : ByteArray) (f : Nat) : Int := if oneE s f = 0 then 0 else oneP s f
def oneV (s : ByteArray) (f : Nat) : Value := .tuple #[.agg (tkA (oneT s f)),zI (oneE s f),zI (oneB s f)]
theorem oneP_le (s : ByteArray) (f : Nat) (hf : f ≤ s.size) : oneP s f ≤ s.size := by
 unfold oneP
 have := ov_le (rest s f) false
 rw [rest_len] at this
 omega
def Tab (w : World) : Prop := w.var? Tryz.prog "tripwire/lex.words" = some wordsV
theorem words_global : Tryz.prog.globalNamed "tripwire/lex.words" = some 1 := by kernel_rfl
theorem Tab.on {w w' : World} (h : Tab w) (hb : Below w§ w w') : Tab w' := by
 unfold Tab World.var? at *
 rw [words_global] at h ⊢
 simp only [Option.bind_some] at h ⊢
 have hlt : 1 < w§ := by
  rcases Nat.lt_or_ge 1 w§ with h' | h'
  ·exact h'
  ·rw [Array.getElem?_eq_none h'] at h; simp at h
 rw [hb.block 1 hlt]
 exact h
theorem Tab.cell {w : World} (h : Tab w) (i : Nat) (hi : i < 41) : w.cell? ⟨1,i,none⟩ = some (.string (wd i)) := by
 have := World.var?_cell words_global h i
 rw [this]
 unfold wordsV wd
 have hl : i < wordsL.length := hi
 simp [List.getElem?_map,List.getElem?_eq_getElem hl,List.getD]
theorem Tab.hid {w : World} (h : Tab w) : Hid (Tab w) := h
theorem isLetter_any (c : UInt8) (w : World) : Calls zG 143 #[zU (c.toNat : Int)] w fun e w' => e = .returned (.bool (letB c)) ∧ w' = w := by
 go_enter Tryz.func143,Tryz.ntmps143
 go_wp2
 all_goals go_ret
 all_goals refine ⟨retB ?_,rfl⟩
 all_goals unfold letB
 ·have h : 97 ≤ c.toNat := by omega
  by_cases h2 : c.toNat ≤ 122
  ·rw [decide_eq_true (show (c.toNat : Int) ≤ 122 by omega),decide_eq_true ⟨h,h2⟩]
  ·rw [decide_eq_false (show ¬ (c.toNat : Int) ≤ 122 by omega),decide_eq_false (fun k => h2 k.2)]
 ·rw [decide_eq_false (by omega)]
theorem isDigit_any (c : UInt8) (w : World) : Calls zG 145 #[zU (c.toNat : Int)] w fun e w' => e = .returned (.bool (digB c)) ∧ w' = w := by
 go_enter Tryz.func145,Tryz.ntmps145
 go_wp2
 all_goals go_ret
 all_goals refine ⟨retB ?_,rfl⟩
 all_goals unfold digB
 ·have h : 48 ≤ c.toNat := by omega
  by_cases h2 : c.toNat ≤ 57
  ·rw [decide_eq_true (show (c.toNat : Int) ≤ 57 by omega),decide_eq_true ⟨h,h2⟩]
  ·rw [decide_eq_false (show ¬ (c.toNat : Int) ≤ 57 by omega),decide_eq_false (fun k => h2 k.2)]
 ·rw [decide_eq_false (by omega)]
theorem isLetter_b {c : UInt8} {b : Bool} (h : letB c = b) (w : World) : Calls zG 143 #[zU (c.toNat : Int)] w fun e w' => e = .returned (.bool b) ∧ w' = w := h ▸ isLetter_any c w
theorem isDigit_b {c : UInt8} {b : Bool} (h : digB c = b) (w : World) : Calls zG 145 #[zU (c.toNat : Int)] w fun e w' => e = .returned (.bool b) ∧ w' = w := h ▸ isDigit_any c w
set_option maxRecDepth 100000 in
theorem slite_any (s : ByteArray) (c : Int) (w : World) : Calls zG 177 #[.string s,zU c] w fun e w' => e = .returned (zI (Lib.indexByte s.data.toList c.toNat.toUInt8)) ∧ w' = w := by
 go_enter Tryz.func177,Tryz.ntmps177
 go_wp2
 rw [run_callFunc_extern Tryz.func182 zK zK zK (e := Extern.BytealgIndexByte.indexByte) zK,Lib.run_indexByteString]
 simp only [Result.andThen]
 rw [Oper.upon_value]
 go_wp2
 go_ret
 exact ⟨rfl,rfl⟩
set_option maxRecDepth 100000 in
theorem indexByte_any (s : ByteArray) (c : Int) (w : World) : Calls zG 170 #[.string s,zU c] w fun e w' => e = .returned (zI (Lib.indexByte s.data.toList c.toNat.toUInt8)) ∧ w' = w := by
 go_enter Tryz.func170,Tryz.ntmps170
 go_wp2_with (go_at_call 177; refine (slite_any _ _ _).mono ?_; rintro e w' ⟨rfl,rfl⟩)
 go_ret
 exact ⟨rfl,rfl⟩
set_option maxHeartbeats 2000000 in
theorem wordP_any (s : ByteArray) (w : World) (ht : Tab w) : Calls zG 163 #[.string s] w fun e w' => e = .returned (.bool (isW s)) ∧ w' = w := by
 have HC : Hid (∀ j,j < 41 → w.cell? ⟨1,j,none⟩ = some (.string (wd j))) := ht.cell
 clear ht
 go_enter Tryz.func163,Tryz.ntmps163
 go_wp2_with fail
 go_loop [4] (fun t => ∃ i : Nat,i ≤ 41 ∧ t = zI i ∧ Hid (∀ j,j < i → ¬ wd j = s)) (fun t => 41 - (intOf t).toNat)
 case atStart => exact ⟨0,by omega,rfl,fun j hj => by omega⟩
 case round =>
  obtain ⟨i,hi,rfl,HR⟩ := hrel
  by_cases hlt : i < 41
  ·have hlt' : (i : Int) < 41 := by omega
   have hcell := HC.out i hlt
   obtain ⟨x,ex⟩ : ∃ x,wd i = x := ⟨_,rfl⟩
   rw [ex] at hcell
   by_cases he : x = s
   ·have hw := isW_yes hlt (ex.trans he)
    subst he
    go_wp2
    go_ret
    exact ⟨by first | rfl | exact retB hw.symm,rfl⟩
   ·have hne := seq_ne he
    have hn : Hid (∀ j,j < i + 1 → ¬ wd j = s) := fun j hj => by
     by_cases e : j = i
     ·subst e; rw [ex]; exact he
     ·exact HR.out j (by omega)
    clear he ex
    go_wp2
    exact ⟨⟨i + 1,by omega,by go_num,hn⟩,by simp only [intOf]; omega⟩
  ·obtain rfl : i = 41 := by omega
   have hw := isW_no HR.out
   go_wp2
   go_ret
   exact ⟨by first | rfl | exact retB hw.symm,rfl⟩
theorem hd_at {s : ByteArray} {i : Nat} (h : i < s.size) {c : UInt8} (hc : s[i] = c) (p : UInt8 → Bool) : hdB p (rest s i) = p c := by rw [rest_at s i h,hc]; rfl
theorem hd_out {s : ByteArray} {i : Nat} (h : s.size ≤ i) (p : UInt8 → Bool) : hdB p (rest s i) = false := by rw [rest_end s i h]; rfl
set_option maxHeartbeats 2000000 in
theorem wordC_any (s : ByteArray) (i B : Nat) (w : World) (hB : w.cell? ⟨B,0,none⟩ = some (.string s)) (hi : i ≤ s.size) :
  Calls zG 162 #[zI i,zP B] w fun e w' => e = .returned (.bool (hdB goB (rest s i))) ∧ w' = w := by
 by_cases hlt : i < s.size
 ·have hlt' : (i : Int) < (s.size : Int) := by omega
  obtain ⟨c,hc⟩ : ∃ c,s[i] = c := ⟨_,rfl⟩
  rw [hd_at hlt hc]
  cases b1 : letB c
  ·cases b2 : digB c
   ·have hg : Hid (goB c = ((c.toNat : Int) == 95)) := by
     show _ = _
     unfold goB
     rw [b1,b2]
     by_cases h : c.toNat = 95
     ·rw [h]; rfl
     ·have h' : ((c.toNat : Int) == 95) = false := beq_false_of_ne (by omega)
      rw [h']; simp [h]
    go_enter Tryz.func162,Tryz.ntmps162
    go_wp2_with (first | (go_at_call 143; refine (isLetter_b b1 _).mono ?_; rintro _ v ⟨rfl,e⟩; obtain rfl := e.symm) | (go_at_call 145; refine (isDigit_b b2 _).mono ?_; rintro _ v ⟨rfl,e⟩; obtain rfl := e.symm))
    all_goals go_ret
    all_goals exact ⟨by rw [hg.out]; rfl,rfl⟩
   ·have hg : goB c = true := by unfold goB; rw [b1,b2]; rfl
    rw [hg]
    go_enter Tryz.func162,Tryz.ntmps162
    go_wp2_with (first | (go_at_call 143; refine (isLetter_b b1 _).mono ?_; rintro _ v ⟨rfl,e⟩; obtain rfl := e.symm) | (go_at_call 145; refine (isDigit_b b2 _).mono ?_; rintro _ v ⟨rfl,e⟩; obtain rfl := e.symm))
    all_goals go_ret
    all_goals exact ⟨rfl,rfl⟩
  ·have hg : goB c = true := by unfold goB; rw [b1]; rfl
   rw [hg]
   go_enter Tryz.func162,Tryz.ntmps162
   go_wp2_with (go_at_call 143; refine (isLetter_b b1 _).mono ?_; rintro _ v ⟨rfl,e⟩; obtain rfl := e.symm)
   all_goals go_ret
   all_goals exact ⟨rfl,rfl⟩
 ·rw [hd_out (by omega)]
  have hn : ¬ (i : Int) < (s.size : Int) := by omega
  go_enter Tryz.func162,Tryz.ntmps162
  go_wp2_with fail
  go_ret
  exact ⟨rfl,rfl⟩
set_option maxHeartbeats 2000000 in
theorem numC_any (s : ByteArray) (i B : Nat) (w : World) (hB : w.cell? ⟨B,0,none⟩ = some (.string s)) (hi : i ≤ s.size) :
  Calls zG 164 #[zI i,zP B] w fun e w' => e = .returned (.bool (hdB digB (rest s i))) ∧ w' = w := by
 by_cases hlt : i < s.size
 ·have hlt' : (i : Int) < (s.size : Int) := by omega
  obtain ⟨c,hc⟩ : ∃ c,s[i] = c := ⟨_,rfl⟩
  rw [hd_at hlt hc]
  go_enter Tryz.func164,Tryz.ntmps164
  go_wp2_with (go_at_call 145; refine (isDigit_any _ _).mono ?_; rintro _ v ⟨rfl,e⟩; obtain rfl := e.symm)
  all_goals go_ret
  all_goals exact ⟨rfl,rfl⟩
 ·rw [hd_out (by omega)]
  have hn : ¬ (i : Int) < (s.size : Int) := by omega
  go_enter Tryz.func164,Tryz.ntmps164
  go_wp2_with fail
  go_ret
  exact ⟨rfl,rfl⟩
set_option maxHeartbeats 2000000 in
theorem reachW_any (s : ByteArray) (a B : Nat) (hs : s.size ≤ 140737488355328) (ha : a ≤ s.size) (w : World) (hB : w.cell? ⟨B,0,none⟩ = some (.string s)) (d : Nat) (hd : Hid (d = a + lead goB (rest s a))) :
  Calls zG 161 #[zI a,.func (.func 162) #[] #[zP B]] w fun e w' => e = .returned (zI d) ∧ w' = w := by
 go_enter Tryz.func161,Tryz.ntmps161
 go_wp2_with fail
 go_loop [0] (fun t => ∃ i : Nat,a ≤ i ∧ i ≤ s.size ∧ t = zI i ∧ Hid (d = i + lead goB (rest s i))) (fun t => s.size - (intOf t).toNat)
 case atStart => exact ⟨a,Nat.le_refl _,ha,rfl,hd⟩
 case round =>
  obtain ⟨i,hi1,hi2,rfl,HR⟩ := hrel
  clear hd
  have cF := wordC_any s i B w hB hi2
  cases hb : hdB goB (rest s i)
  ·rw [hb] at cF
   have hs2 : Hid (i = d) := by
    show _ = _
    rw [HR.out]
    cases hr : rest s i with
    | nil => rfl
    | cons c l => rw [hr] at hb; rw [lead,if_neg (by rw [show goB c = false from hb]; decide)]; rfl
   clear hb
   go_wp2_with fail
   refine cF.mono ?_
   rintro _ v ⟨rfl,e⟩
   obtain rfl := e.symm
   go_wp2_with fail
   go_ret
   exact ⟨retI (by rw [hs2.out]),rfl⟩
  ·rw [hb] at cF
   have hlt : i < s.size := by
    by_cases h : i < s.size
    ·exact h
    ·rw [hd_out (by omega)] at hb; cases hb
   have hs2 : Hid (d = (i + 1) + lead goB (rest s (i + 1))) := by
    show _ = _
    rw [HR.out]
    have hr := rest_at s i hlt
    rw [hr] at hb
    unfold hdB at hb
    rw [hr,lead,if_pos hb]; omega
   clear hb HR
   go_wp2_with fail
   refine cF.mono ?_
   rintro _ v ⟨rfl,e⟩
   obtain rfl := e.symm
   go_wp2_with fail
   exact ⟨⟨i + 1,by omega,by omega,by go_num,hs2⟩,by simp only [intOf]; omega⟩
set_option maxHeartbeats 2000000 in
theorem reachN_any (s : ByteArray) (a B : Nat) (hs : s.size ≤ 140737488355328) (ha : a ≤ s.size) (w : World) (hB : w.cell? ⟨B,0,none⟩ = some (.string s)) (d : Nat) (hd : Hid (d = a + lead digB (rest s a))) :
  Calls zG 161 #[zI a,.func (.func 164) #[] #[zP B]] w fun e w' => e = .returned (zI d) ∧ w' = w := by
 go_enter Tryz.func161,Tryz.ntmps161
 go_wp2_with fail
 go_loop [0] (fun t => ∃ i : Nat,a ≤ i ∧ i ≤ s.size ∧ t = zI i ∧ Hid (d = i + lead digB (rest s i))) (fun t => s.size - (intOf t).toNat)
 case atStart => exact ⟨a,Nat.le_refl _,ha,rfl,hd⟩
 case round =>
  obtain ⟨i,hi1,hi2,rfl,HR⟩ := hrel
  clear hd
  have cF := numC_any s i B w hB hi2
  cases hb : hdB digB (rest s i)
  ·rw [hb] at cF
   have hs2 : Hid (i = d) := by
    show _ = _
    rw [HR.out]
    cases hr : rest s i with
    | nil => rfl
    | cons c l => rw [hr] at hb; rw [lead,if_neg (by rw [show digB c = false from hb]; decide)]; rfl
   clear hb
   go_wp2_with fail
   refine cF.mono ?_
   rintro _ v ⟨rfl,e⟩
   obtain rfl := e.symm
   go_wp2_with fail
   go_ret
   exact ⟨retI (by rw [hs2.out]),rfl⟩
  ·rw [hb] at cF
   have hlt : i < s.size := by
    by_cases h : i < s.size
    ·exact h
    ·rw [hd_out (by omega)] at hb; cases hb
   have hs2 : Hid (d = (i + 1) + lead digB (rest s (i + 1))) := by
    show _ = _
    rw [HR.out]
    have hr := rest_at s i hlt
    rw [hr] at hb
    unfold hdB at hb
    rw [hr,lead,if_pos hb]; omega
   clear hb HR
   go_wp2_with fail
   refine cF.mono ?_
   rintro _ v ⟨rfl,e⟩
   obtain rfl := e.symm
   go_wp2_with fail
   exact ⟨⟨i + 1,by omega,by omega,by go_num,hs2⟩,by simp only [intOf]; omega⟩
def wv : List UInt8 → Nat → Option Nat
 | [],n => some n
 | c :: l,n => if 10 * n + (c.toNat - 48) > 9223372036854775807 then none else wv l (10 * n + (c.toNat - 48))
theorem nmS_mono : ∀ (l : List UInt8) (n k n' k' : Nat),nmS l n k = some (n',k') → n ≤ n' ∧ k' = k + lead digB l
 | [],n,k,n',k',h => by
  simp only [nmS,Option.some.injEq,Prod.mk.injEq] at h
  obtain ⟨rfl,rfl⟩ := h
  exact ⟨Nat.le_refl _,rfl⟩
 | c :: l,n,k,n',k',h => by
  unfold nmS at h
  unfold lead
  by_cases hg : digB c = true
  ·rw [if_pos hg] at h ⊢
   by_cases hn : n > 922337203685477580
   ·rw [if_pos hn] at h; exact absurd h (by simp)
   ·rw [if_neg hn] at h
    have := nmS_mono l _ _ _ _ h
    exact ⟨by omega,by omega⟩
  ·rw [if_neg hg] at h ⊢
   simp only [Option.some.injEq,Prod.mk.injEq] at h
   obtain ⟨rfl,rfl⟩ := h
   exact ⟨Nat.le_refl _,rfl⟩
theorem wv_nmS : ∀ (l : List UInt8) (n k : Nat),n ≤ 9223372036854775807 →
  wv (l.take (lead digB l)) n = (match nmS l n k with | none => none | some (n',_) => if n' > 9223372036854775807 then none else some n')
 | [],n,k,h => by simp only [nmS,lead,List.take_zero,wv]; rw [if_neg (by omega)]
 | c :: l,n,k,h => by
  unfold lead nmS
  by_cases hg : digB c = true
  ·rw [if_pos hg,if_pos hg,List.take_succ_cons]
   have hdc : 48 ≤ c.toNat ∧ c.toNat ≤ 57 := by unfold digB at hg; exact of_decide_eq_true hg
   unfold wv
   by_cases ho : 10 * n + (c.toNat - 48) > 9223372036854775807
   ·rw [if_pos ho]
    by_cases hn : n > 922337203685477580
    ·rw [if_pos hn]
    ·rw [if_neg hn]
     cases hm : nmS l (10 * n + (c.toNat - 48)) (k + 1) with
     | none => rfl
     | some q =>
      obtain ⟨n',k'⟩ := q
      have := (nmS_mono _ _ _ _ _ hm).1
      simp only
      rw [if_pos (by omega)]
   ·rw [if_neg ho,if_neg (by omega)]
    exact wv_nmS l _ _ (by omega)
  ·rw [if_neg hg,if_neg hg]
   simp only [List.take_zero,wv]
   rw [if_neg (by omega)]
theorem lead_all {p : UInt8 → Bool} : ∀ (l : List UInt8) (c : UInt8),c ∈ l.take (lead p l) → p c = true
 | [],c,h => by simp at h
 | x :: l,c,h => by
  unfold lead at h
  by_cases hx : p x = true
  ·rw [if_pos hx,List.take_succ_cons,List.mem_cons] at h
   rcases h with rfl | h
   ·exact hx
   ·exact lead_all l c h
  ·rw [if_neg hx] at h; simp at h
theorem nbO_parts (s : ByteArray) (a d e : Nat) (hd : d = a + lead digB (rest s a)) (he : e = if nbTy (rest s d) = 1 then d else d + 1) :
  nbO s a = (match wv ((rest s a).take (lead digB (rest s a))) 0 with | none => none | some n => if (d - a > 1 ∧ hd0 (rest s a) = true) then none else if badH (rest s e) = true then none else some (n,e,nbTy (rest s d))) := by
 rw [wv_nmS (rest s a) 0 0 (by omega)]
 cases hm : nmS (rest s a) 0 0 with
 | none => unfold nbO; rw [hm]
 | some q =>
  obtain ⟨n,k⟩ := q
  obtain ⟨_,hk⟩ := nmS_mono _ _ _ _ _ hm
  have hk2 : d - a = k := by omega
  rw [nbO_of (i := d) (by rw [hm,hk2]) (by omega),← he]
  simp only
  by_cases hb : n > 9223372036854775807
  ·simp [hb]
  ·simp only [hb,false_or,if_false]
set_option maxHeartbeats 2000000 in
theorem typed_any (s : ByteArray) (a : Nat) (hs : s.size ≤ 140737488355328) (ha : a ≤ s.size) (w : World) :
  Calls zG 165 #[.string s,zI a] w fun e w' => e = .returned (.tuple #[zU (nbTy (rest s a)),zI ((if nbTy (rest s a) = 1 then a else a + 1 : Nat) : Int)]) ∧ w' = w := by
 by_cases hlt : a < s.size
 ·have hne : ((a : Int) == (s.size : Int)) = false := beq_false_of_ne (by omega)
  have hlt' : (a : Int) < (s.size : Int) := by omega
  have hr := rest_at s a hlt
  obtain ⟨c,hc⟩ : ∃ c,s[a] = c := ⟨_,rfl⟩
  rw [hc] at hr
  rw [hr]
  have K : nbTy (c :: rest s (a + 1)) = if c.toNat = 113 then 2 else if c.toNat = 112 then 3 else if c.toNat = 116 then 4 else 1 := rfl
  rw [K]
  clear K hr
  by_cases kt : c.toNat = 116
  ·have xt : ((c.toNat : Int) == 116) = true := by rw [kt]; rfl
   rw [if_neg (by omega),if_neg (by omega),if_pos kt,if_neg (by decide)]
   go_enter Tryz.func165,Tryz.ntmps165
   go_wp2_with fail
   exact bodyPost_ret (by simp [results]) rfl ⟨rfl,rfl⟩
  ·have xt : ((c.toNat : Int) == 116) = false := beq_false_of_ne (by omega)
   by_cases kp : c.toNat = 112
   ·have xp : ((c.toNat : Int) == 112) = true := by rw [kp]; rfl
    rw [if_neg (by omega),if_pos kp,if_neg (by decide)]
    go_enter Tryz.func165,Tryz.ntmps165
    go_wp2_with fail
    exact bodyPost_ret (by simp [results]) rfl ⟨rfl,rfl⟩
   ·have xp : ((c.toNat : Int) == 112) = false := beq_false_of_ne (by omega)
    by_cases kq : c.toNat = 113
    ·have xq : ((c.toNat : Int) == 113) = true := by rw [kq]; rfl
     rw [if_pos kq,if_neg (by decide)]
     go_enter Tryz.func165,Tryz.ntmps165
     go_wp2_with fail
     exact bodyPost_ret (by simp [results]) rfl ⟨rfl,rfl⟩
    ·have xq : ((c.toNat : Int) == 113) = false := beq_false_of_ne (by omega)
     rw [if_neg kq,if_neg kp,if_neg kt,if_pos rfl]
     go_enter Tryz.func165,Tryz.ntmps165
     go_wp2_with fail
     exact bodyPost_ret (by simp [results]) rfl ⟨rfl,rfl⟩
 ·obtain rfl : a = s.size := by omega
  rw [rest_end s s.size (Nat.le_refl _)]
  show Calls zG 165 #[.string s,zI s.size] w fun e w' => e = .returned (.tuple #[zU 1,zI (s.size : Int)]) ∧ w' = w
  go_enter Tryz.func165,Tryz.ntmps165
  go_wp2_with fail
  exact bodyPost_ret (by simp [results]) rfl ⟨rfl,rfl⟩
theorem results_t2 {P : Program} {fn : Func} {p u : Tmp} (h : fn.results = #[.tmp p,.tmp u]) (tmps : Array Value) (w : World) : (results fn tmps).run P w = .ok (.tuple #[tmps.getD p undef,tmps.getD u undef]) w := by
 simp [results,h]
def wvN (o : Option Nat) : Int := match o with | none => 0 | some n => n
theorem isPadded_any (x : ByteArray) (hx : x.size ≤ 140737488355328) (w : World) : Calls zG 167 #[.string x] w fun e w' => e = .returned (.bool (decide (x.size > 1) && hd0 (rest x 0))) ∧ w' = w := by
 by_cases h : x.size > 1
 ·have h' : (1 : Int) < (x.size : Int) := by omega
  have h0 : 0 < x.size := by omega
  have h0' : (0 : Int) < (x.size : Int) := by omega
  have hr := rest_at x 0 h0
  obtain ⟨c,hc⟩ : ∃ c,x[0] = c := ⟨_,rfl⟩
  rw [hc] at hr
  have K : Hid ((decide (x.size > 1) && hd0 (rest x 0)) = ((c.toNat : Int) == 48)) := by
   show _ = _
   rw [decide_eq_true h,hr]
   show decide (c.toNat = 48) = _
   by_cases hk : c.toNat = 48
   ·rw [hk]; rfl
   ·rw [decide_eq_false hk,beq_false_of_ne (by omega)]
  clear hr
  go_enter Tryz.func167,Tryz.ntmps167
  go_wp2_with fail
  go_ret
  exact ⟨retB (by rw [K.out]),rfl⟩
 ·have h' : ¬ (1 : Int) < (x.size : Int) := by omega
  rw [decide_eq_false h]
  go_enter Tryz.func167,Tryz.ntmps167
  go_wp2_with fail
  go_ret
  exact ⟨rfl,rfl⟩
set_option maxHeartbeats 2000000 in
theorem isGlued_any (s : ByteArray) (a : Nat) (ha : a ≤ s.size) (w : World) : Calls zG 168 #[.string s,zI a] w fun e w' => e = .returned (.bool (badH (rest s a))) ∧ w' = w := by
 by_cases hlt : a < s.size
 ·have hne : ((a : Int) == (s.size : Int)) = false := beq_false_of_ne (by omega)
  have hlt' : (a : Int) < (s.size : Int) := by omega
  have hr := rest_at s a hlt
  obtain ⟨c,hc⟩ : ∃ c,s[a] = c := ⟨_,rfl⟩
  rw [hc] at hr
  rw [hr]
  obtain ⟨R,eR⟩ : ∃ R,badH (c :: rest s (a + 1)) = R := ⟨_,rfl⟩
  have K : Hid (R = (goB c || upB c)) := eR.symm
  rw [eR]
  clear hr eR
  cases b1 : letB c
  ·by_cases u1 : 65 ≤ c.toNat
   ·by_cases u2 : c.toNat ≤ 90
    ·have hu : upB c = true := by unfold upB; exact decide_eq_true ⟨u1,u2⟩
     have KR : Hid (R = true) := by show _ = _; rw [K.out,hu,Bool.or_true]
     have u1' : (65 : Int) ≤ (c.toNat : Int) := by omega
     have u2' : (c.toNat : Int) ≤ 90 := by omega
     clear K
     go_enter Tryz.func168,Tryz.ntmps168
     go_wp2_with (first | (go_at_call 143; refine (isLetter_b b1 _).mono ?_; rintro _ v ⟨rfl,e⟩; obtain rfl := e.symm) | (go_at_call 145; refine (isDigit_any _ _).mono ?_; rintro _ v ⟨rfl,e⟩; obtain rfl := e.symm))
     all_goals go_ret
     all_goals exact ⟨retB (by rw [KR.out]),rfl⟩
    ·have hu : upB c = false := by unfold upB; exact decide_eq_false (by omega)
     have b2 : digB c = false := by unfold digB; exact decide_eq_false (by omega)
     have KR : Hid (R = ((c.toNat : Int) == 95)) := by
      show _ = _
      rw [K.out,hu]
      unfold goB
      rw [b1,b2]
      by_cases h : c.toNat = 95
      ·rw [h]; rfl
      ·rw [show ((c.toNat : Int) == 95) = false from beq_false_of_ne (by omega),decide_eq_false h]; rfl
     have u1' : (65 : Int) ≤ (c.toNat : Int) := by omega
     have u2' : ¬ (c.toNat : Int) ≤ 90 := by omega
     clear K
     go_enter Tryz.func168,Tryz.ntmps168
     go_wp2_with (first | (go_at_call 143; refine (isLetter_b b1 _).mono ?_; rintro _ v ⟨rfl,e⟩; obtain rfl := e.symm) | (go_at_call 145; refine (isDigit_b b2 _).mono ?_; rintro _ v ⟨rfl,e⟩; obtain rfl := e.symm))
     all_goals go_ret
     all_goals exact ⟨retB (by rw [KR.out,decide_eq_false (by omega)]; rfl),rfl⟩
   ·have hu : upB c = false := by unfold upB; exact decide_eq_false (by omega)
    have u1' : ¬ (65 : Int) ≤ (c.toNat : Int) := by omega
    cases b2 : digB c
    ·have KR : Hid (R = false) := by
      show _ = _
      rw [K.out,hu]
      unfold goB
      rw [b1,b2,decide_eq_false (by omega)]; rfl
     have x95 : ((c.toNat : Int) == 95) = false := beq_false_of_ne (by omega)
     clear K
     go_enter Tryz.func168,Tryz.ntmps168
     go_wp2_with (first | (go_at_call 143; refine (isLetter_b b1 _).mono ?_; rintro _ v ⟨rfl,e⟩; obtain rfl := e.symm) | (go_at_call 145; refine (isDigit_b b2 _).mono ?_; rintro _ v ⟨rfl,e⟩; obtain rfl := e.symm))
     all_goals go_ret
     all_goals exact ⟨retB (by rw [KR.out]),rfl⟩
    ·have KR : Hid (R = true) := by
      show _ = _
      rw [K.out]
      unfold goB
      rw [b2]; simp
     clear K
     go_enter Tryz.func168,Tryz.ntmps168
     go_wp2_with (first | (go_at_call 143; refine (isLetter_b b1 _).mono ?_; rintro _ v ⟨rfl,e⟩; obtain rfl := e.symm) | (go_at_call 145; refine (isDigit_b b2 _).mono ?_; rintro _ v ⟨rfl,e⟩; obtain rfl := e.symm))
     all_goals go_ret
     all_goals exact ⟨retB (by rw [KR.out]),rfl⟩
  ·have KR : Hid (R = true) := by
    show _ = _
    rw [K.out]
    unfold goB
    rw [b1]; simp
   clear K
   go_enter Tryz.func168,Tryz.ntmps168
   go_wp2_with (go_at_call 143; refine (isLetter_b b1 _).mono ?_; rintro _ v ⟨rfl,e⟩; obtain rfl := e.symm)
   all_goals go_ret
   all_goals exact ⟨retB (by rw [KR.out]),rfl⟩
 ·obtain rfl : a = s.size := by omega
  rw [rest_end s s.size (Nat.le_refl _)]
  go_enter Tryz.func168,Tryz.ntmps168
  go_wp2_with fail
  go_ret
  exact ⟨rfl,rfl⟩
set_option maxHeartbeats 2000000 in
theorem worth_any (x : ByteArray) (hx : x.size ≤ 140737488355328) (hd : ∀ c ∈ rest x 0,digB c = true) (w : World) :
  Calls zG 166 #[.string x] w fun e w' => e = .returned (.tuple #[zI (wvN (wv (rest x 0) 0)),.bool (wv (rest x 0) 0).isSome]) ∧ w' = w := by
 obtain ⟨o,ho⟩ : ∃ o,wv (rest x 0) 0 = o := ⟨_,rfl⟩
 have HO : Hid (wv (rest x 0) 0 = o) := ho
 have HD : Hid (∀ c ∈ rest x 0,digB c = true) := hd
 rw [ho]
 clear ho hd
 go_enter Tryz.func166,Tryz.ntmps166
 go_wp2_with fail
 go_loop [4,9] (fun t u => ∃ i n : Nat,i ≤ x.size ∧ u = zI i ∧ t = zI n ∧ n ≤ 9223372036854775807 ∧ Hid (wv (rest x i) n = o)) (fun _ u => x.size - (intOf u).toNat)
 case atStart => exact ⟨0,0,by omega,rfl,rfl,by omega,HO⟩
 case round =>
  obtain ⟨i,n,hi,rfl,rfl,hn,HR⟩ := hrel
  clear HO
  by_cases hlt : i < x.size
  ·have hlt' : (i : Int) < (x.size : Int) := by omega
   have hr := rest_at x i hlt
   obtain ⟨c,hc⟩ : ∃ c,x[i] = c := ⟨_,rfl⟩
   rw [hc] at hr
   have hdc : digB c = true := by
    refine HD.out c ?_
    have : rest x i = (rest x 0).drop i := by unfold rest; simp
    exact List.mem_of_mem_drop (i := i) (by rw [← this,hr]; simp)
   obtain ⟨k1,k2⟩ : 48 ≤ c.toNat ∧ c.toNat ≤ 57 := by unfold digB at hdc; exact of_decide_eq_true hdc
   obtain ⟨g,hg⟩ : ∃ g : Nat,c.toNat = g + 48 := ⟨c.toNat - 48,by omega⟩
   have hgI : (c.toNat : Int) - 48 = (g : Int) := by omega
   have K : Hid (wv (rest x i) n = if 10 * n + g > 9223372036854775807 then none else wv (rest x (i + 1)) (10 * n + g)) := by
    show _ = _
    rw [hr,wv,show c.toNat - 48 = g by omega]
   have k1' : (48 : Int) ≤ (c.toNat : Int) := by omega
   have hg9 : g ≤ 9 := by omega
   clear hr hdc
   by_cases hb : 10 * n + g > 9223372036854775807
   ·have hb' : (9223372036854775807 - (g : Int)) / 10 < (n : Int) := by omega
    have KO : Hid (o = none) := by show _ = _; rw [← HR.out,K.out,if_pos hb]
    clear K HR
    go_wp2_with fail
    exact bodyPost_ret (results_t2 (p := 2) (u := 3) rfl _ _) rfl ⟨by rw [KO.out]; rfl,rfl⟩
   ·have hb' : ¬ (9223372036854775807 - (g : Int)) / 10 < (n : Int) := by omega
    have KO : Hid (wv (rest x (i + 1)) (10 * n + g) = o) := by show _ = _; rw [← HR.out,K.out,if_neg hb]
    clear K HR
    go_wp2_with fail
    exact ⟨⟨i + 1,10 * n + g,by omega,by go_num,by rw [show (n : Int) * 10 + (g : Int) = ((10 * n + g : Nat) : Int) by omega],by omega,KO⟩,by simp only [intOf]; omega⟩
  ·obtain rfl : i = x.size := by omega
   have hn' : ¬ (x.size : Int) < (x.size : Int) := by omega
   have KO : Hid (o = some n) := by show _ = _; rw [← HR.out,rest_end x x.size (Nat.le_refl _)]; rfl
   clear HR
   go_wp2_with fail
   exact bodyPost_ret (results_t2 (p := 2) (u := 3) rfl _ _) rfl ⟨by rw [KO.out]; rfl,rfl⟩
end Go.Proofs.YtkfabnchhjfjjaaGreatDoor
