/-
  Masks as bits: what differs from the first to the third differs from the first to the second, or from there on.
-/
import Derived.Test.YtjjmpfpbfkploaaMsk
namespace Go.Proofs.Ytjjmpfpbfkploaa
open Go.RowKit

def one16 (b : Bool) (c : BitVec 16) : BitVec 16 := bif b then c else 0#16
def MV (b1 b2 b3 b4 b5 b6 : Bool) : BitVec 16 := one16 b1 2#16 ||| one16 b2 4#16 ||| one16 b3 8#16 ||| one16 b4 16#16 ||| one16 b5 32#16 ||| one16 b6 64#16
def maskI (b1 b2 b3 b4 b5 b6 : Bool) : Int := (bif b1 then 2 else 0) + (bif b2 then 4 else 0) + (bif b3 then 8 else 0) + (bif b4 then 16 else 0) + (bif b5 then 32 else 0) + (bif b6 then 64 else 0)
theorem maskI_mv (b1 b2 b3 b4 b5 b6 : Bool) : maskI b1 b2 b3 b4 b5 b6 = ((MV b1 b2 b3 b4 b5 b6).toNat : Int) := by
  cases b1 <;> cases b2 <;> cases b3 <;> cases b4 <;> cases b5 <;> cases b6 <;> rfl
theorem bitN_b (a b m : Int) : bitN a b m = bif !decide (a = b) then m else 0 := by
  unfold bitN
  by_cases h : a = b <;> simp [h]
def dv16 (s t : Sn) : BitVec 16 := MV (!decide (s.bid = t.bid)) (!decide (s.ask = t.ask)) (!decide (s.last = t.last)) (!decide (s.vol = t.vol)) (!decide (s.now = t.now)) (!decide (s.opn = t.opn))
theorem diffN_mv (s t : Sn) : diffN s t = ((dv16 s t).toNat : Int) := by
  unfold dv16 diffN
  rw [← maskI_mv]
  unfold maskI
  rw [bitN_b, bitN_b, bitN_b, bitN_b, bitN_b, bitN_b]
def Sub (a b : BitVec 16) : Prop := ∀ i, a.getLsbD i = true → b.getLsbD i = true
theorem Sub.or {a b c d : BitVec 16} (h : Sub a c) (k : Sub b d) : Sub (a ||| b) (c ||| d) := by
  intro i hi
  rw [BitVec.getLsbD_or, Bool.or_eq_true] at hi ⊢
  exact hi.elim (fun x => .inl (h i x)) (fun x => .inr (k i x))
theorem Sub.zero {a b : BitVec 16} (h : Sub a b) : a &&& ~~~b = 0#16 := by
  apply BitVec.eq_of_getLsbD_eq
  intro i hi
  have hk := h i
  rw [BitVec.getLsbD_and, BitVec.getLsbD_not]
  cases e : a.getLsbD i
  · simp
  · rw [hk e]; simp
theorem sub_one (x y z : Bool) (c : BitVec 16) (h : x = true → y = true ∨ z = true) : Sub (one16 x c) (one16 y c ||| one16 z c) := by
  intro i hi
  rw [BitVec.getLsbD_or, Bool.or_eq_true]
  unfold one16 at *
  cases x
  · simp at hi
  · rcases h rfl with rfl | rfl
    · exact .inl hi
    · exact .inr hi
theorem or_mix (a b c d : BitVec 16) : (a ||| b) ||| (c ||| d) = (a ||| c) ||| (b ||| d) := by
  apply BitVec.eq_of_getLsbD_eq
  intro i _
  simp only [BitVec.getLsbD_or]
  cases a.getLsbD i <;> cases b.getLsbD i <;> cases c.getLsbD i <;> cases d.getLsbD i <;> rfl
theorem ne3 (a b c : Int) : (!decide (a = c)) = true → (!decide (a = b)) = true ∨ (!decide (b = c)) = true := by
  intro h
  by_cases e : a = b
  · right; subst e; exact h
  · left; simp [e]
theorem Sub.mix {a b c d e f : BitVec 16} (h : Sub a (c ||| e)) (k : Sub b (d ||| f)) : Sub (a ||| b) ((c ||| d) ||| (e ||| f)) := by
  rw [or_mix]; exact h.or k
theorem sub6 (c1 c2 c3 c4 c5 c6 : BitVec 16) (x1 x2 x3 x4 x5 x6 y1 y2 y3 y4 y5 y6 z1 z2 z3 z4 z5 z6 : Bool) (h1 : x1 = true → y1 = true ∨ z1 = true) (h2 : x2 = true → y2 = true ∨ z2 = true) (h3 : x3 = true → y3 = true ∨ z3 = true) (h4 : x4 = true → y4 = true ∨ z4 = true) (h5 : x5 = true → y5 = true ∨ z5 = true) (h6 : x6 = true → y6 = true ∨ z6 = true) : Sub (one16 x1 c1 ||| one16 x2 c2 ||| one16 x3 c3 ||| one16 x4 c4 ||| one16 x5 c5 ||| one16 x6 c6) ((one16 y1 c1 ||| one16 y2 c2 ||| one16 y3 c3 ||| one16 y4 c4 ||| one16 y5 c5 ||| one16 y6 c6) ||| (one16 z1 c1 ||| one16 z2 c2 ||| one16 z3 c3 ||| one16 z4 c4 ||| one16 z5 c5 ||| one16 z6 c6)) := by
  exact (((((sub_one x1 y1 z1 c1 h1).mix (sub_one x2 y2 z2 c2 h2)).mix (sub_one x3 y3 z3 c3 h3)).mix (sub_one x4 y4 z4 c4 h4)).mix (sub_one x5 y5 z5 c5 h5)).mix (sub_one x6 y6 z6 c6 h6)
theorem diff_sub (s y x : Sn) : Sub (dv16 s x) (dv16 s y ||| dv16 y x) := by
  unfold dv16 MV
  exact sub6 _ _ _ _ _ _ (!decide (s.bid = x.bid)) (!decide (s.ask = x.ask)) (!decide (s.last = x.last)) (!decide (s.vol = x.vol)) (!decide (s.now = x.now)) (!decide (s.opn = x.opn)) (!decide (s.bid = y.bid)) (!decide (s.ask = y.ask)) (!decide (s.last = y.last)) (!decide (s.vol = y.vol)) (!decide (s.now = y.now)) (!decide (s.opn = y.opn)) (!decide (y.bid = x.bid)) (!decide (y.ask = x.ask)) (!decide (y.last = x.last)) (!decide (y.vol = x.vol)) (!decide (y.now = x.now)) (!decide (y.opn = x.opn)) (ne3 s.bid y.bid x.bid) (ne3 s.ask y.ask x.ask) (ne3 s.last y.last x.last) (ne3 s.vol y.vol x.vol) (ne3 s.now y.now x.now) (ne3 s.opn y.opn x.opn)
theorem ofInt_toNat (a : BitVec 16) : BitVec.ofInt 16 (a.toNat : Int) = a := by
  rw [BitVec.ofInt_natCast, BitVec.ofNat_toNat, BitVec.setWidth_eq]
theorem wrap_toNat (a : BitVec 16) : IntKind.u16.wrap (a.toNat : Int) = (a.toNat : Int) := by
  have := a.isLt
  simp only [IntKind.wrap_u16]
  omega
theorem mask_in (s y x : Sn) : bits BinOp.andNot IntKind.u16 (diffN s x) (bits BinOp.or IntKind.u16 (diffN s y) (diffN y x)) = 0 := by
  rw [diffN_mv, diffN_mv, diffN_mv]
  have e1 : bits BinOp.or IntKind.u16 ((dv16 s y).toNat : Int) ((dv16 y x).toNat : Int) = ((dv16 s y ||| dv16 y x).toNat : Int) := by
    have e : bits BinOp.or IntKind.u16 ((dv16 s y).toNat : Int) ((dv16 y x).toNat : Int) = IntKind.u16.wrap ((BitVec.ofInt 16 ((dv16 s y).toNat : Int) ||| BitVec.ofInt 16 ((dv16 y x).toNat : Int)).toNat : Int) := rfl
    rw [e, ofInt_toNat, ofInt_toNat, wrap_toNat]
  rw [e1]
  have e2 : bits BinOp.andNot IntKind.u16 ((dv16 s x).toNat : Int) ((dv16 s y ||| dv16 y x).toNat : Int) = IntKind.u16.wrap ((BitVec.ofInt 16 ((dv16 s x).toNat : Int) &&& ~~~ BitVec.ofInt 16 ((dv16 s y ||| dv16 y x).toNat : Int)).toNat : Int) := rfl
  rw [e2, ofInt_toNat, ofInt_toNat, (diff_sub s y x).zero]
  rfl
end Go.Proofs.Ytjjmpfpbfkploaa
