/-
  The grammar in plain words: what a row of tokens is read as, and what ends it.
-/
import Derived.Test.YtkfabnchhjfjjabGreatDoorNd
namespace Go.Proofs.YtkfabnchhjfjjabGreatDoor
open Go.RowKit

/-- An expression, wherever it lies. -/
inductive Tr where
  | mk (h : Hd) (ks : List Tr)
/-- What ends a text: a token that cannot stand, is too deep, too many; or what is no token. -/
inductive Ft where
  | tok (no : Int) (at' : Int)
  | lex

def gB (l : List UInt8) : ByteArray := ⟨l.toArray⟩
def gLook : List Tk → Except Ft Tk
  | [] => .error .lex
  | t :: _ => .ok t
def gIs (x : ByteArray) (ts : List Tk) : Except Ft Bool := (gLook ts).map fun t => decide (t.x = x)
/-- The token at hand must be so. -/
def gNeed (b : Bool) (no : Int) (ts : List Tk) : Except Ft Unit := if b = true then .ok () else match gLook ts with | .error e => .error e | .ok t => .error (.tok no t.p)
def gStep : List Tk → Except Ft (Tk × List Tk)
  | [] => .error .lex
  | t :: ts => .ok (t, ts)
def gTake (x : ByteArray) (ts : List Tk) : Except Ft (Tk × List Tk) := do
  let b ← gIs x ts
  gNeed b 130 ts
  gStep ts
/-- A token that begins something deeper. -/
def gOpn (d : Nat) (ts : List Tk) : Except Ft (Tk × List Tk) := do
  gNeed (decide (d < 24)) 132 ts
  gStep ts
/-- Is a text these bytes? -/
def eqX (x : ByteArray) (l : List UInt8) : Bool := x.toList == l
def tyX (x : ByteArray) : Int :=
  if eqX x [105, 110, 116] = true then 1 else if eqX x [113, 116, 121] = true then 2 else if eqX x [112, 114, 105, 99, 101] = true then 3 else if eqX x [116, 105, 109, 101] = true then 4 else if eqX x [98, 111, 111, 108] = true then 5 else if eqX x [115, 105, 100, 101] = true then 6 else 0
def fieldX (x : ByteArray) : Int :=
  if eqX x [98, 105, 100] = true then 1 else if eqX x [97, 115, 107] = true then 2 else if eqX x [108, 97, 115, 116] = true then 3 else if eqX x [118, 111, 108, 117, 109, 101] = true then 4 else if eqX x [110, 111, 119] = true then 5 else if eqX x [111, 112, 101, 110] = true then 6 else 0
def callX (x : ByteArray) : Int := if eqX x [97, 98, 115] = true then 3 else if eqX x [109, 105, 110] = true then 4 else if eqX x [109, 97, 120] = true then 5 else 0
/-- The type and the number of a literal. -/
def valT (t : Tk) : Int × Int :=
  if eqX t.x [116, 114, 117, 101] = true then (5, 1) else if eqX t.x [102, 97, 108, 115, 101] = true then (5, 0) else if eqX t.x [98, 117, 121] = true then (6, 1) else if eqX t.x [115, 101, 108, 108] = true then (6, 2) else (t.ty, t.n)
/-- The operators of a level: 0 none. -/
def orX (x : ByteArray) : Int := if x = gB [124, 124] then 18 else 0
def andX (x : ByteArray) : Int := if x = gB [38, 38] then 17 else 0
def cmpX (x : ByteArray) : Int := if eqX x [61, 61] = true then 11 else if eqX x [33, 61] = true then 12 else if eqX x [60] = true then 13 else if eqX x [60, 61] = true then 14 else if eqX x [62] = true then 15 else if eqX x [62, 61] = true then 16 else 0
def sumX (x : ByteArray) : Int := if eqX x [43] = true then 6 else if eqX x [45] = true then 7 else 0
def proX (x : ByteArray) : Int := if eqX x [42] = true then 8 else if eqX x [47] = true then 9 else if eqX x [37] = true then 10 else 0
def unX (x : ByteArray) : Int := if eqX x [45] = true then 1 else if eqX x [33] = true then 2 else 0
def gE : ByteArray := ⟨#[]⟩
def gLit (ts : List Tk) : Except Ft (Tr × List Tk) := do
  let t ← gLook ts
  gNeed (decide ((valT t).1 ≠ 0)) 130 ts
  let (_, r) ← gStep ts
  .ok (.mk ⟨1, 0, (valT t).1, (valT t).2, 0, gE, t.p⟩ [], r)
/-- Parts, and operators between them: m at most. -/
def gRowR (oper : ByteArray → Int) (part : List Tk → Except Ft (Tr × List Tk)) : Nat → Tr → List Tk → Except Ft (Tr × List Tk)
  | 0, n, ts => .ok (n, ts)
  | m + 1, n, ts => do
    let t ← gLook ts
    if oper t.x = 0 then .ok (n, ts) else do
      let (u, r) ← gStep ts
      let (k, r) ← part r
      gRowR oper part m (.mk ⟨6, oper t.x, 0, 0, 0, gE, u.p⟩ [n, k]) r
def gRow (oper : ByteArray → Int) (part : List Tk → Except Ft (Tr × List Tk)) (m : Nat) (ts : List Tk) : Except Ft (Tr × List Tk) := do
  let (n, r) ← part ts
  gRowR oper part m n r
/-- One, given what an expression is that lies deeper. -/
def gOne (ex : List Tk → Except Ft (Tr × List Tk)) (d : Nat) (ts : List Tk) : Except Ft (Tr × List Tk) := do
  let x ← gLook ts
  if eqX x.x [40] = true then do
    let (_, r) ← gOpn d ts
    let (n, r) ← ex r
    let (_, r) ← gTake (gB [41]) r
    .ok (n, r)
  else if eqX x.x [104, 97, 115] = true then do
    let (u, r) ← gStep ts
    let y ← gLook r
    gNeed (decide (1 ≤ fieldX y.x ∧ fieldX y.x ≤ 3)) 130 r
    let (_, r) ← gStep r
    .ok (.mk ⟨4, 0, 0, 0, fieldX y.x, gE, u.p⟩ [], r)
  else if callX x.x ≠ 0 then do
    let (u, r) ← gOpn d ts
    let (_, r) ← gTake (gB [40]) r
    if callX x.x = 3 then do
      let (k, r) ← ex r
      let (_, r) ← gTake (gB [41]) r
      .ok (.mk ⟨8, callX x.x, 0, 0, 0, gE, u.p⟩ [k], r)
    else do
      let (j, r) ← ex r
      let (_, r) ← gTake (gB [44]) r
      let (k, r) ← ex r
      let (_, r) ← gTake (gB [41]) r
      .ok (.mk ⟨8, callX x.x, 0, 0, 0, gE, u.p⟩ [j, k], r)
  else if 1 ≤ tyX x.x ∧ tyX x.x ≤ 4 then do
    let (u, r) ← gOpn d ts
    let (_, r) ← gTake (gB [40]) r
    let (k, r) ← ex r
    let (_, r) ← gTake (gB [41]) r
    .ok (.mk ⟨9, 0, tyX x.x, 0, 0, gE, u.p⟩ [k], r)
  else if fieldX x.x ≠ 0 then do
    let (_, r) ← gStep ts
    .ok (.mk ⟨3, 0, 0, 0, fieldX x.x, gE, x.p⟩ [], r)
  else if x.k = 2 then do
    let (_, r) ← gStep ts
    .ok (.mk ⟨2, 0, 0, 0, 0, x.x, x.p⟩ [], r)
  else gLit ts
/-- An operator ahead, given what stands deeper. -/
def gUn (ex un : List Tk → Except Ft (Tr × List Tk)) (d : Nat) (ts : List Tk) : Except Ft (Tr × List Tk) := do
  let x ← gLook ts
  if unX x.x = 0 then gOne ex d ts else do
    let (u, r) ← gOpn d ts
    let (k, r) ← un r
    .ok (.mk ⟨5, unX x.x, 0, 0, 0, gE, u.p⟩ [k], r)
def gEx (ex un : List Tk → Except Ft (Tr × List Tk)) (d : Nat) (ts : List Tk) : Except Ft (Tr × List Tk) := do
  let (n, r) ← gRow orX (gRow andX (gRow cmpX (gRow sumX (gRow proX (gUn ex un d) 4096) 4096) 1) 4096) 4096 ts
  let b ← gIs (gB [63]) r
  if b = false then .ok (n, r) else do
    let (u, r) ← gOpn d r
    let (y, r) ← ex r
    let (_, r) ← gTake (gB [58]) r
    let (z, r) ← ex r
    .ok (.mk ⟨7, 0, 0, 0, 0, gE, u.p⟩ [n, y, z], r)
mutual
/-- An expression, a unary: the first number is how many levels may still be gone down. -/
def exF : Nat → Nat → List Tk → Except Ft (Tr × List Tk)
  | 0, _, _ => .error .lex
  | f + 1, d, ts => gEx (exF f (d + 1)) (unF f (d + 1)) d ts
def unF : Nat → Nat → List Tk → Except Ft (Tr × List Tk)
  | 0, _, _ => .error .lex
  | f + 1, d, ts => gUn (exF f (d + 1)) (unF f (d + 1)) d ts
end
/-- A whole expression, from nest 0: no more than 24 levels may be gone down. -/
def exprT (ts : List Tk) : Except Ft (Tr × List Tk) := exF 26 0 ts
end Go.Proofs.YtkfabnchhjfjjabGreatDoor
