/-
  A node is turned: what its new form is told by.
-/
import Derived.Test.YtighocmdlifheaaDoorTq
import Derived.Laws.BitsAllLaws
namespace Go.Proofs.YtighocmdlifheaaDoor
open Go.RowKit
theorem xor1_ne (x : Int) : bits BinOp.xor IntKind.i64 x 1 ≠ x := by
  intro h
  have e : bits BinOp.xor IntKind.i64 x 1 = IntKind.i64.wrap ((BitVec.ofInt 64 x ^^^ BitVec.ofInt 64 1).toNat : Int) := rfl
  rw [e] at h
  obtain ⟨B, eB⟩ : ∃ B, BitVec.ofInt 64 x ^^^ BitVec.ofInt 64 1 = B := ⟨_, rfl⟩
  rw [eB] at h
  have h3 : BitVec.ofInt 64 x = B := by
    apply BitVec.eq_of_toNat_eq
    rw [BitVec.toNat_ofInt]
    have hl := B.isLt
    rw [IntKind.wrap_i64] at h
    omega
  rw [← eB] at h3
  have h4 := congrArg (fun z => BitVec.ofInt 64 x ^^^ z) h3
  simp only [← BitVec.xor_assoc, BitVec.xor_self, BitVec.zero_xor] at h4
  exact absurd h4 (by decide)
set_option maxRecDepth 100000 in
theorem xor8 (n : Nat) (h : n < 256) : (n ^^^ 1) ≠ n ∧ (n ^^^ 1) ≤ 255 := by
  have : ∀ k : Fin 256, (k.val ^^^ 1) ≠ k.val ∧ (k.val ^^^ 1) ≤ 255 := by decide
  exact this ⟨n, h⟩
theorem xor1_u8 (x : Int) (h1 : 0 ≤ x) (h2 : x ≤ 255) : bits BinOp.xor IntKind.u8 x 1 ≠ x ∧ 0 ≤ bits BinOp.xor IntKind.u8 x 1 ∧ bits BinOp.xor IntKind.u8 x 1 ≤ 255 := by
  rw [u8_xor x 1 h1 (by omega) (by decide) (by decide)]
  have := xor8 x.toNat (by omega)
  have e : (1 : Int).toNat = 1 := rfl
  rw [e]
  omega
/-- One cell of the node is another one: the block's other cells are as they were. -/
theorem Hole.set {w0 W : World} {n : Nd} {Bx b o : Nat} {q nq : Nd} {P : Nat → Prop} (h : Hole w0 W n Bx b o q nq P) (i : Nat) (hi : i < 8) (v : Value) : Dif W (W.setCell ⟨b, o + i, none⟩ v) b o P ∧ Lies (W.setCell ⟨b, o + i, none⟩ v) q ∧ Below w0.heap.size w0 (W.setCell ⟨b, o + i, none⟩ v) := by
  refine ⟨⟨by simp [World.setCell], fun c _ h2 _ => Below.heap_setCell _ _ _ _ h2, fun j hj => World.cell?_setCell_other _ _ _ _ (fun e => ?_)⟩, h.li.bk (P := P) (fun c _ hc => Below.heap_setCell _ _ _ _ (fun e => h.nb (by rw [← (show c = b from e)]; exact hc))) h.sp.bk, h.B.setCell (p := ⟨b, o + i, none⟩) h.lo v⟩
  have e1 := congrArg Addr.off e
  simp at e1
  exact hj ⟨by omega, by omega⟩
theorem NdAt.other {W : World} {b o i j : Nat} {v u : Value} (h : W.cell? ⟨b, o + j, none⟩ = some u) (hne : i ≠ j) : (W.setCell ⟨b, o + i, none⟩ v).cell? ⟨b, o + j, none⟩ = some u :=
  (World.cell?_setCell_other _ _ _ _ (fun e => by have := congrArg Addr.off e; simp at this; omega)).trans h
theorem NdAt.here {W : World} {b o i : Nat} {v u : Value} (h : W.cell? ⟨b, o + i, none⟩ = some u) : (W.setCell ⟨b, o + i, none⟩ v).cell? ⟨b, o + i, none⟩ = some v := World.cell?_setCell_same _ _ _ h
theorem NdAt.setN {W : World} {b o : Nat} {h : Hd} {a : Option Addr} {c : Nat} {ks : List Nd} (n : NdAt W b o (.mk h a c ks)) (v : Int) : NdAt (W.setCell ⟨b, o + 3, none⟩ (.int .i64 v)) b o (.mk { h with n := v } a c ks) :=
  ⟨NdAt.other (j := 0) n.c0 (by decide), NdAt.other n.c1 (by decide), NdAt.other n.c2 (by decide), NdAt.here n.c3, NdAt.other n.c4 (by decide), NdAt.other n.c5 (by decide), NdAt.other n.c6 (by decide), NdAt.other n.c7 (by decide)⟩
theorem NdAt.setO {W : World} {b o : Nat} {h : Hd} {a : Option Addr} {c : Nat} {ks : List Nd} (n : NdAt W b o (.mk h a c ks)) (v : Int) : NdAt (W.setCell ⟨b, o + 1, none⟩ (.int .u8 v)) b o (.mk { h with o := v } a c ks) :=
  ⟨NdAt.other (j := 0) n.c0 (by decide), NdAt.here n.c1, NdAt.other n.c2 (by decide), NdAt.other n.c3 (by decide), NdAt.other n.c4 (by decide), NdAt.other n.c5 (by decide), NdAt.other n.c6 (by decide), NdAt.other n.c7 (by decide)⟩
theorem NdAt.setX {W : World} {b o : Nat} {h : Hd} {a : Option Addr} {c : Nat} {ks : List Nd} (n : NdAt W b o (.mk h a c ks)) (v : ByteArray) : NdAt (W.setCell ⟨b, o + 5, none⟩ (.string v)) b o (.mk { h with x := v } a c ks) :=
  ⟨NdAt.other (j := 0) n.c0 (by decide), NdAt.other n.c1 (by decide), NdAt.other n.c2 (by decide), NdAt.other n.c3 (by decide), NdAt.other n.c4 (by decide), NdAt.here n.c5, NdAt.other n.c6 (by decide), NdAt.other n.c7 (by decide)⟩
/-- What a turned expression is: it lies there, and is not the same. -/
structure Trd (w0 W : World) (n : Nd) (Bx : Nat) (x : Nd) : Prop where
  at' : NdAt W Bx 0 x
  li : Lies W x
  B : Below w0.heap.size w0 W
  f1 : sameB n x = false
  f2 : sameB x n = false
theorem Lies.head {w : World} {h g : Hd} {a : Option Addr} {c : Nat} {ks : List Nd} (l : Lies w (.mk h a c ks)) (hr : Rg g) : Lies w (.mk g a c ks) := by
  cases l with | mk _ _ _ _ _ hc hm hk hs => exact .mk g a c ks hr hc hm hk hs
theorem alike_ne {m k : Nd} (h : alike m.h k.h = false) : sameB m k = false := by
  cases m with
  | mk g a c js =>
    have h' : alike g k.h = false := h
    simp only [sameB]
    rw [h']
    rfl
theorem Twin.head {m k : Nd} (h : Twin m k) : m.h = k.h := by cases h; rfl
theorem Hole.turnN {w0 W : World} {n : Nd} {Bx b o : Nat} {q nq : Nd} {P : Nat → Prop} (h : Hole w0 W n Bx b o q nq P) (v : Int) (hv : v ≠ q.h.n) (h1 : -9223372036854775808 ≤ v) (h2 : v ≤ 9223372036854775807) :
    ∃ x, Trd w0 (W.setCell ⟨b, o + 3, none⟩ (.int .i64 v)) n Bx x := by
  obtain ⟨hd, hl, hB⟩ := h.set 3 (by decide) (.int .i64 v)
  have hr := h.li.rg
  have hat := h.at'
  have hcl := h.cl
  cases q with
  | mk g a c ks =>
  obtain ⟨x, g1, g2, g3, g4⟩ := hcl _ (.mk { g with n := v } a c ks) hd (hat.setN v) (hl.head ⟨hr.k0, hr.k1, hr.o0, hr.o1, hr.t0, hr.t1, h1, h2, hr.f0, hr.f1, hr.p0, hr.p1, hr.x1⟩)
  have htw : nq.h = g := h.tw.head
  have hv' : v ≠ g.n := hv
  have hv2 : g.n ≠ v := fun e => hv' e.symm
  exact ⟨x, g1, g2, hB, g3 (alike_ne (by rw [htw]; show alike g { g with n := v } = false; simp [alike, hv2])), g4 (alike_ne (by rw [htw]; show alike { g with n := v } g = false; simp [alike, hv']))⟩
theorem Hole.turnO {w0 W : World} {n : Nd} {Bx b o : Nat} {q nq : Nd} {P : Nat → Prop} (h : Hole w0 W n Bx b o q nq P) (v : Int) (hv : v ≠ q.h.o) (h1 : 0 ≤ v) (h2 : v ≤ 255) :
    ∃ x, Trd w0 (W.setCell ⟨b, o + 1, none⟩ (.int .u8 v)) n Bx x := by
  obtain ⟨hd, hl, hB⟩ := h.set 1 (by decide) (.int .u8 v)
  have hr := h.li.rg
  have hat := h.at'
  have hcl := h.cl
  cases q with
  | mk g a c ks =>
  obtain ⟨x, g1, g2, g3, g4⟩ := hcl _ (.mk { g with o := v } a c ks) hd (hat.setO v) (hl.head ⟨hr.k0, hr.k1, h1, h2, hr.t0, hr.t1, hr.n0, hr.n1, hr.f0, hr.f1, hr.p0, hr.p1, hr.x1⟩)
  have htw : nq.h = g := h.tw.head
  have hv' : v ≠ g.o := hv
  have hv2 : g.o ≠ v := fun e => hv' e.symm
  exact ⟨x, g1, g2, hB, g3 (alike_ne (by rw [htw]; show alike g { g with o := v } = false; simp [alike, hv2])), g4 (alike_ne (by rw [htw]; show alike { g with o := v } g = false; simp [alike, hv']))⟩
theorem Hole.turnX {w0 W : World} {n : Nd} {Bx b o : Nat} {q nq : Nd} {P : Nat → Prop} (h : Hole w0 W n Bx b o q nq P) (v : ByteArray) (hv : v ≠ q.h.x) (h1 : v.size ≤ 140737488355328) :
    ∃ x, Trd w0 (W.setCell ⟨b, o + 5, none⟩ (.string v)) n Bx x := by
  obtain ⟨hd, hl, hB⟩ := h.set 5 (by decide) (.string v)
  have hr := h.li.rg
  have hat := h.at'
  have hcl := h.cl
  cases q with
  | mk g a c ks =>
  obtain ⟨x, g1, g2, g3, g4⟩ := hcl _ (.mk { g with x := v } a c ks) hd (hat.setX v) (hl.head ⟨hr.k0, hr.k1, hr.o0, hr.o1, hr.t0, hr.t1, hr.n0, hr.n1, hr.f0, hr.f1, hr.p0, hr.p1, h1⟩)
  have htw : nq.h = g := h.tw.head
  have hv' : v ≠ g.x := hv
  have hv2 : g.x ≠ v := fun e => hv' e.symm
  exact ⟨x, g1, g2, hB, g3 (alike_ne (by rw [htw]; show alike g { g with x := v } = false; simp [alike, hv2])), g4 (alike_ne (by rw [htw]; show alike { g with x := v } g = false; simp [alike, hv']))⟩
end Go.Proofs.YtighocmdlifheaaDoor
