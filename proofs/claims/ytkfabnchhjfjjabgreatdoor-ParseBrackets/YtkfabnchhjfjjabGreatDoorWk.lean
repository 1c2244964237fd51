import Derived.Test.YtkfabnchhjfjjabGreatDoorSe
import Derived.Test.YtkfabnchhjfjjabGreatDoorPn1
import Derived.Test.YtkfabnchhjfjjabGreatDoorLkn
/-
  The statements' head: the tokens of its texts.
-/
namespace Go.Proofs.YtkfabnchhjfjjabGreatDoor
open Go.RowKit
theorem beg_on {s : ByteArray} {f q : Nat} (hf : f ≤ s.size) (h : oneE s f = 0) (hk : (oneT s f).k ≠ 0) (hq : oneQ s f = q) : begO s f = (oneT s f :: (begO s q).1, (begO s q).2) := by
  rw [(beg_more hf h hk).2.2.2, hq]
theorem tk_ext {t u : Tk} (h1 : t.k = u.k) (h2 : t.x.data.toList = u.x.data.toList) (h3 : t.ty = u.ty) (h4 : t.n = u.n) (h5 : t.p = u.p) : t = u := by
  cases t; cases u
  have h2' := str_eq h2
  simp only at h1 h2' h3 h4 h5
  rw [h1, h3, h4, h5, h2']
def exA : ByteArray := ⟨#[49, 32, 45, 32, 50, 32, 45, 32, 51]⟩
theorem exA_t0 : oneT exA 0 = ⟨3, ⟨#[49]⟩, 1, 1, 0⟩ := tk_ext (by decide +kernel) (by decide +kernel) (by decide +kernel) (by decide +kernel) (by decide +kernel)
theorem exA_e0 : oneE exA 0 = 0 ∧ oneQ exA 0 = 1 := by decide +kernel
theorem exA_t1 : oneT exA 1 = ⟨4, ⟨#[45]⟩, 0, 0, 2⟩ := tk_ext (by decide +kernel) (by decide +kernel) (by decide +kernel) (by decide +kernel) (by decide +kernel)
theorem exA_e1 : oneE exA 1 = 0 ∧ oneQ exA 1 = 3 := by decide +kernel
theorem exA_t2 : oneT exA 3 = ⟨3, ⟨#[50]⟩, 1, 2, 4⟩ := tk_ext (by decide +kernel) (by decide +kernel) (by decide +kernel) (by decide +kernel) (by decide +kernel)
theorem exA_e2 : oneE exA 3 = 0 ∧ oneQ exA 3 = 5 := by decide +kernel
theorem exA_t3 : oneT exA 5 = ⟨4, ⟨#[45]⟩, 0, 0, 6⟩ := tk_ext (by decide +kernel) (by decide +kernel) (by decide +kernel) (by decide +kernel) (by decide +kernel)
theorem exA_e3 : oneE exA 5 = 0 ∧ oneQ exA 5 = 7 := by decide +kernel
theorem exA_t4 : oneT exA 7 = ⟨3, ⟨#[51]⟩, 1, 3, 8⟩ := tk_ext (by decide +kernel) (by decide +kernel) (by decide +kernel) (by decide +kernel) (by decide +kernel)
theorem exA_e4 : oneE exA 7 = 0 ∧ oneQ exA 7 = 9 := by decide +kernel
theorem exA_t5 : oneT exA 9 = ⟨0, ⟨#[]⟩, 0, 0, 9⟩ := tk_ext (by decide +kernel) (by decide +kernel) (by decide +kernel) (by decide +kernel) (by decide +kernel)
theorem exA_e5 : oneE exA 9 = 0 := by decide +kernel
theorem exA_beg : begO exA 0 = ([⟨3, ⟨#[49]⟩, 1, 1, 0⟩, ⟨4, ⟨#[45]⟩, 0, 0, 2⟩, ⟨3, ⟨#[50]⟩, 1, 2, 4⟩, ⟨4, ⟨#[45]⟩, 0, 0, 6⟩, ⟨3, ⟨#[51]⟩, 1, 3, 8⟩, ⟨0, ⟨#[]⟩, 0, 0, 9⟩], 0, 0) := by
  rw [beg_on (by decide) exA_e0.1 (by rw [exA_t0]; decide) exA_e0.2, beg_on (by decide) exA_e1.1 (by rw [exA_t1]; decide) exA_e1.2, beg_on (by decide) exA_e2.1 (by rw [exA_t2]; decide) exA_e2.2, beg_on (by decide) exA_e3.1 (by rw [exA_t3]; decide) exA_e3.2, beg_on (by decide) exA_e4.1 (by rw [exA_t4]; decide) exA_e4.2, beg_end exA_e5 (by rw [exA_t5]), exA_t0, exA_t1, exA_t2, exA_t3, exA_t4, exA_t5]
theorem exA_tks : tksE exA = 0 ∧ rdT exA = [⟨3, ⟨#[49]⟩, 1, 1, 0⟩, ⟨4, ⟨#[45]⟩, 0, 0, 2⟩, ⟨3, ⟨#[50]⟩, 1, 2, 4⟩, ⟨4, ⟨#[45]⟩, 0, 0, 6⟩, ⟨3, ⟨#[51]⟩, 1, 3, 8⟩, ⟨0, ⟨#[]⟩, 0, 0, 9⟩] := by
  obtain ⟨a, b, _⟩ := tks_short (s := exA) (by decide) exA_beg
  obtain ⟨b1, b2⟩ := b rfl
  refine ⟨a, ?_⟩
  unfold rdT
  rw [if_pos a, b2]
def exB : ByteArray := ⟨#[40, 49, 32, 43, 32, 38]⟩
theorem exB_t0 : oneT exB 0 = ⟨4, ⟨#[40]⟩, 0, 0, 0⟩ := tk_ext (by decide +kernel) (by decide +kernel) (by decide +kernel) (by decide +kernel) (by decide +kernel)
theorem exB_e0 : oneE exB 0 = 0 ∧ oneQ exB 0 = 1 := by decide +kernel
theorem exB_t1 : oneT exB 1 = ⟨3, ⟨#[49]⟩, 1, 1, 1⟩ := tk_ext (by decide +kernel) (by decide +kernel) (by decide +kernel) (by decide +kernel) (by decide +kernel)
theorem exB_e1 : oneE exB 1 = 0 ∧ oneQ exB 1 = 2 := by decide +kernel
theorem exB_t2 : oneT exB 2 = ⟨4, ⟨#[43]⟩, 0, 0, 3⟩ := tk_ext (by decide +kernel) (by decide +kernel) (by decide +kernel) (by decide +kernel) (by decide +kernel)
theorem exB_e2 : oneE exB 2 = 0 ∧ oneQ exB 2 = 4 := by decide +kernel
theorem exB_bad : oneE exB 4 = 111 ∧ oneB exB 4 = 5 := by decide +kernel
theorem exB_beg : begO exB 0 = ([⟨4, ⟨#[40]⟩, 0, 0, 0⟩, ⟨3, ⟨#[49]⟩, 1, 1, 1⟩, ⟨4, ⟨#[43]⟩, 0, 0, 3⟩], 111, 5) := by
  rw [beg_on (by decide) exB_e0.1 (by rw [exB_t0]; decide) exB_e0.2, beg_on (by decide) exB_e1.1 (by rw [exB_t1]; decide) exB_e1.2, beg_on (by decide) exB_e2.1 (by rw [exB_t2]; decide) exB_e2.2, beg_bad (by rw [exB_bad.1]; decide), exB_bad.1, exB_bad.2, exB_t0, exB_t1, exB_t2]
theorem exB_tks : tksE exB = 111 ∧ tksB exB = 5 ∧ rdT exB = [⟨4, ⟨#[40]⟩, 0, 0, 0⟩, ⟨3, ⟨#[49]⟩, 1, 1, 1⟩, ⟨4, ⟨#[43]⟩, 0, 0, 3⟩] := by
  obtain ⟨a, _, b⟩ := tks_short (s := exB) (by decide) exB_beg
  obtain ⟨b1, _⟩ := b (by decide)
  refine ⟨a, b1, ?_⟩
  unfold rdT
  rw [if_neg (by rw [a]; decide)]
  unfold allL
  rw [if_neg (by decide)]
  unfold allF
  rw [exB_beg]
  rfl
def exC : ByteArray := ⟨#[115, 116, 114, 97, 116, 101, 103, 121, 32, 115, 123, 115, 116, 97, 116, 101, 32, 97, 123, 125, 125]⟩
theorem exC_t0 : oneT exC 0 = ⟨1, ⟨#[115, 116, 114, 97, 116, 101, 103, 121]⟩, 0, 0, 0⟩ := tk_ext (by decide +kernel) (by decide +kernel) (by decide +kernel) (by decide +kernel) (by decide +kernel)
theorem exC_e0 : oneE exC 0 = 0 ∧ oneQ exC 0 = 8 := by decide +kernel
theorem exC_t1 : oneT exC 8 = ⟨2, ⟨#[115]⟩, 0, 0, 9⟩ := tk_ext (by decide +kernel) (by decide +kernel) (by decide +kernel) (by decide +kernel) (by decide +kernel)
theorem exC_e1 : oneE exC 8 = 0 ∧ oneQ exC 8 = 10 := by decide +kernel
theorem exC_t2 : oneT exC 10 = ⟨4, ⟨#[123]⟩, 0, 0, 10⟩ := tk_ext (by decide +kernel) (by decide +kernel) (by decide +kernel) (by decide +kernel) (by decide +kernel)
theorem exC_e2 : oneE exC 10 = 0 ∧ oneQ exC 10 = 11 := by decide +kernel
theorem exC_t3 : oneT exC 11 = ⟨1, ⟨#[115, 116, 97, 116, 101]⟩, 0, 0, 11⟩ := tk_ext (by decide +kernel) (by decide +kernel) (by decide +kernel) (by decide +kernel) (by decide +kernel)
theorem exC_e3 : oneE exC 11 = 0 ∧ oneQ exC 11 = 16 := by decide +kernel
theorem exC_t4 : oneT exC 16 = ⟨2, ⟨#[97]⟩, 0, 0, 17⟩ := tk_ext (by decide +kernel) (by decide +kernel) (by decide +kernel) (by decide +kernel) (by decide +kernel)
theorem exC_e4 : oneE exC 16 = 0 ∧ oneQ exC 16 = 18 := by decide +kernel
theorem exC_t5 : oneT exC 18 = ⟨4, ⟨#[123]⟩, 0, 0, 18⟩ := tk_ext (by decide +kernel) (by decide +kernel) (by decide +kernel) (by decide +kernel) (by decide +kernel)
theorem exC_e5 : oneE exC 18 = 0 ∧ oneQ exC 18 = 19 := by decide +kernel
theorem exC_t6 : oneT exC 19 = ⟨4, ⟨#[125]⟩, 0, 0, 19⟩ := tk_ext (by decide +kernel) (by decide +kernel) (by decide +kernel) (by decide +kernel) (by decide +kernel)
theorem exC_e6 : oneE exC 19 = 0 ∧ oneQ exC 19 = 20 := by decide +kernel
theorem exC_t7 : oneT exC 20 = ⟨4, ⟨#[125]⟩, 0, 0, 20⟩ := tk_ext (by decide +kernel) (by decide +kernel) (by decide +kernel) (by decide +kernel) (by decide +kernel)
theorem exC_e7 : oneE exC 20 = 0 ∧ oneQ exC 20 = 21 := by decide +kernel
theorem exC_t8 : oneT exC 21 = ⟨0, ⟨#[]⟩, 0, 0, 21⟩ := tk_ext (by decide +kernel) (by decide +kernel) (by decide +kernel) (by decide +kernel) (by decide +kernel)
theorem exC_e8 : oneE exC 21 = 0 := by decide +kernel
theorem exC_beg : begO exC 0 = ([⟨1, ⟨#[115, 116, 114, 97, 116, 101, 103, 121]⟩, 0, 0, 0⟩, ⟨2, ⟨#[115]⟩, 0, 0, 9⟩, ⟨4, ⟨#[123]⟩, 0, 0, 10⟩, ⟨1, ⟨#[115, 116, 97, 116, 101]⟩, 0, 0, 11⟩, ⟨2, ⟨#[97]⟩, 0, 0, 17⟩, ⟨4, ⟨#[123]⟩, 0, 0, 18⟩, ⟨4, ⟨#[125]⟩, 0, 0, 19⟩, ⟨4, ⟨#[125]⟩, 0, 0, 20⟩, ⟨0, ⟨#[]⟩, 0, 0, 21⟩], 0, 0) := by
  rw [beg_on (by decide) exC_e0.1 (by rw [exC_t0]; decide) exC_e0.2, beg_on (by decide) exC_e1.1 (by rw [exC_t1]; decide) exC_e1.2, beg_on (by decide) exC_e2.1 (by rw [exC_t2]; decide) exC_e2.2, beg_on (by decide) exC_e3.1 (by rw [exC_t3]; decide) exC_e3.2, beg_on (by decide) exC_e4.1 (by rw [exC_t4]; decide) exC_e4.2, beg_on (by decide) exC_e5.1 (by rw [exC_t5]; decide) exC_e5.2, beg_on (by decide) exC_e6.1 (by rw [exC_t6]; decide) exC_e6.2, beg_on (by decide) exC_e7.1 (by rw [exC_t7]; decide) exC_e7.2, beg_end exC_e8 (by rw [exC_t8]), exC_t0, exC_t1, exC_t2, exC_t3, exC_t4, exC_t5, exC_t6, exC_t7, exC_t8]
theorem exC_tks : tksE exC = 0 ∧ rdT exC = [⟨1, ⟨#[115, 116, 114, 97, 116, 101, 103, 121]⟩, 0, 0, 0⟩, ⟨2, ⟨#[115]⟩, 0, 0, 9⟩, ⟨4, ⟨#[123]⟩, 0, 0, 10⟩, ⟨1, ⟨#[115, 116, 97, 116, 101]⟩, 0, 0, 11⟩, ⟨2, ⟨#[97]⟩, 0, 0, 17⟩, ⟨4, ⟨#[123]⟩, 0, 0, 18⟩, ⟨4, ⟨#[125]⟩, 0, 0, 19⟩, ⟨4, ⟨#[125]⟩, 0, 0, 20⟩, ⟨0, ⟨#[]⟩, 0, 0, 21⟩] := by
  obtain ⟨a, b, _⟩ := tks_short (s := exC) (by decide) exC_beg
  obtain ⟨b1, b2⟩ := b rfl
  refine ⟨a, ?_⟩
  unfold rdT
  rw [if_pos a, b2]
def exD : ByteArray := ⟨#[115, 116, 114, 97, 116, 101, 103, 121, 32, 115, 123, 125]⟩
theorem exD_t0 : oneT exD 0 = ⟨1, ⟨#[115, 116, 114, 97, 116, 101, 103, 121]⟩, 0, 0, 0⟩ := tk_ext (by decide +kernel) (by decide +kernel) (by decide +kernel) (by decide +kernel) (by decide +kernel)
theorem exD_e0 : oneE exD 0 = 0 ∧ oneQ exD 0 = 8 := by decide +kernel
theorem exD_t1 : oneT exD 8 = ⟨2, ⟨#[115]⟩, 0, 0, 9⟩ := tk_ext (by decide +kernel) (by decide +kernel) (by decide +kernel) (by decide +kernel) (by decide +kernel)
theorem exD_e1 : oneE exD 8 = 0 ∧ oneQ exD 8 = 10 := by decide +kernel
theorem exD_t2 : oneT exD 10 = ⟨4, ⟨#[123]⟩, 0, 0, 10⟩ := tk_ext (by decide +kernel) (by decide +kernel) (by decide +kernel) (by decide +kernel) (by decide +kernel)
theorem exD_e2 : oneE exD 10 = 0 ∧ oneQ exD 10 = 11 := by decide +kernel
theorem exD_t3 : oneT exD 11 = ⟨4, ⟨#[125]⟩, 0, 0, 11⟩ := tk_ext (by decide +kernel) (by decide +kernel) (by decide +kernel) (by decide +kernel) (by decide +kernel)
theorem exD_e3 : oneE exD 11 = 0 ∧ oneQ exD 11 = 12 := by decide +kernel
theorem exD_t4 : oneT exD 12 = ⟨0, ⟨#[]⟩, 0, 0, 12⟩ := tk_ext (by decide +kernel) (by decide +kernel) (by decide +kernel) (by decide +kernel) (by decide +kernel)
theorem exD_e4 : oneE exD 12 = 0 := by decide +kernel
theorem exD_beg : begO exD 0 = ([⟨1, ⟨#[115, 116, 114, 97, 116, 101, 103, 121]⟩, 0, 0, 0⟩, ⟨2, ⟨#[115]⟩, 0, 0, 9⟩, ⟨4, ⟨#[123]⟩, 0, 0, 10⟩, ⟨4, ⟨#[125]⟩, 0, 0, 11⟩, ⟨0, ⟨#[]⟩, 0, 0, 12⟩], 0, 0) := by
  rw [beg_on (by decide) exD_e0.1 (by rw [exD_t0]; decide) exD_e0.2, beg_on (by decide) exD_e1.1 (by rw [exD_t1]; decide) exD_e1.2, beg_on (by decide) exD_e2.1 (by rw [exD_t2]; decide) exD_e2.2, beg_on (by decide) exD_e3.1 (by rw [exD_t3]; decide) exD_e3.2, beg_end exD_e4 (by rw [exD_t4]), exD_t0, exD_t1, exD_t2, exD_t3, exD_t4]
theorem exD_tks : tksE exD = 0 ∧ rdT exD = [⟨1, ⟨#[115, 116, 114, 97, 116, 101, 103, 121]⟩, 0, 0, 0⟩, ⟨2, ⟨#[115]⟩, 0, 0, 9⟩, ⟨4, ⟨#[123]⟩, 0, 0, 10⟩, ⟨4, ⟨#[125]⟩, 0, 0, 11⟩, ⟨0, ⟨#[]⟩, 0, 0, 12⟩] := by
  obtain ⟨a, b, _⟩ := tks_short (s := exD) (by decide) exD_beg
  obtain ⟨b1, b2⟩ := b rfl
  refine ⟨a, ?_⟩
  unfold rdT
  rw [if_pos a, b2]
theorem exA_whole : gWhole exA = .ok (.mk ⟨6, 7, 0, 0, 0, gE, 6⟩ [.mk ⟨6, 7, 0, 0, 0, gE, 2⟩ [(.mk ⟨1, 0, 1, 1, 0, gE, 0⟩ []), (.mk ⟨1, 0, 1, 2, 0, gE, 4⟩ [])], (.mk ⟨1, 0, 1, 3, 0, gE, 8⟩ [])]) := by
  unfold gWhole
  rw [exA_tks.2]
  kernel_rfl
theorem exB_whole : gWhole exB = .error .lex := by
  unfold gWhole
  rw [exB_tks.2.2]
  kernel_rfl
end Go.Proofs.YtkfabnchhjfjjabGreatDoor

/-
  Plain: a text in brackets: its tokens, and what it is read as.
-/
namespace Go.Proofs.YtkfabnchhjfjjabGreatDoor
open Go.RowKit
/-- The bracket ahead. -/
def lpS (s : ByteArray) : ByteArray := (⟨#[40]⟩ : ByteArray) ++ s
def rpS : ByteArray := ⟨#[41]⟩
theorem lpS_list (s : ByteArray) : (lpS s).data.toList = 40 :: s.data.toList := by simp [lpS]
theorem lpS_size (s : ByteArray) : (lpS s).size = 1 + s.size := by
  rw [← len_of, lpS_list, List.length_cons, len_of]; omega
theorem lpS_rest (s : ByteArray) (g : Nat) : rest (lpS s) (1 + g) = rest s g := by
  unfold rest; rw [lpS_list, Nat.add_comm, List.drop_succ_cons]
theorem lp_mO (l : List UInt8) : mO (40 :: l) = some 8 := by
  unfold mO
  rw [show List.range 23 = [0, 1, 2, 3, 4, 5, 6, 7, 8] ++ [9, 10, 11, 12, 13, 14, 15, 16, 17, 18, 19, 20, 21, 22] by decide]
  simp [List.find?, mB, mk, marksL, ByteArray.size]
theorem lp_lx (l : List UInt8) : lx (40 :: l) = some (4, 1, 0, 0) := by
  unfold lx
  rw [if_neg (show ¬ hdB letB (40 :: l) = true by simp [hdB, letB]), if_neg (show ¬ hdB digB (40 :: l) = true by simp [hdB, digB]), lp_mO]
  rfl
theorem lp_one (s : ByteArray) : oneE (lpS s) 0 = 0 ∧ oneT (lpS s) 0 = ⟨4, ⟨#[40]⟩, 0, 0, 0⟩ ∧ oneQ (lpS s) 0 = 1 := by
  have hr : rest (lpS s) 0 = 40 :: s.data.toList := by unfold rest; rw [lpS_list]; rfl
  have hp : oneP (lpS s) 0 = 0 := by unfold oneP; rw [hr]; simp [ov, remB, blankB]
  have hn : oneP (lpS s) 0 ≠ (lpS s).size := by rw [hp, lpS_size]; omega
  obtain ⟨e1, e2⟩ := one_lx (lpS s) 0 (by omega) hn
  rw [hp, hr] at e1 e2
  have hE : oneE (lpS s) 0 = 0 := by rw [e2]; unfold lxE; rw [lp_lx]; rfl
  have hT : oneT (lpS s) 0 = ⟨4, ⟨#[40]⟩, 0, 0, 0⟩ := by rw [e1]; unfold tkOf; rw [lp_lx]; rfl
  exact ⟨hE, hT, by unfold oneQ; rw [hp, hT]; rfl⟩
theorem lp_tks {s : ByteArray} (hs : s.size ≤ 4000) (h : tksE s = 0) : tksE (lpS s) = 0 ∧ tksL (lpS s) = ⟨4, ⟨#[40]⟩, 0, 0, 0⟩ :: (tksL s).map (shf 1) := by
  obtain ⟨a1, a2, a3⟩ := tks_short' (s := s) (by omega)
  obtain ⟨z1, z2, z3⟩ := tks_short' (s := lpS s) (by rw [lpS_size]; omega)
  obtain ⟨l1, l2, l3⟩ := lp_one s
  have hb := beg_on (s := lpS s) (f := 0) (q := 1) (by omega) l1 (by rw [l2]; decide) l3
  have hh := beg_shift (b := s) (z := lpS s) (n := 1) (lpS_size s) (lpS_rest s) s.size 0 (by omega) (by omega)
  rw [Nat.add_zero] at hh
  rw [hh, l2] at hb
  have hE : tksE (lpS s) = 0 := by rw [z1, hb]; show (begO s 0).2.1 = 0; rw [← a1]; exact h
  exact ⟨hE, by rw [z2 hE, hb, a2 h]⟩
theorem rp_t0 : oneT rpS 0 = ⟨4, ⟨#[41]⟩, 0, 0, 0⟩ := tk_ext (by decide +kernel) (by decide +kernel) (by decide +kernel) (by decide +kernel) (by decide +kernel)
theorem rp_e0 : oneE rpS 0 = 0 ∧ oneQ rpS 0 = 1 := by decide +kernel
theorem rp_t1 : oneT rpS 1 = ⟨0, ⟨#[]⟩, 0, 0, 1⟩ := tk_ext (by decide +kernel) (by decide +kernel) (by decide +kernel) (by decide +kernel) (by decide +kernel)
theorem rp_e1 : oneE rpS 1 = 0 := by decide +kernel
theorem rp_tks : tksE rpS = 0 ∧ tksL rpS = [⟨4, ⟨#[41]⟩, 0, 0, 0⟩, ⟨0, ⟨#[]⟩, 0, 0, 1⟩] := by
  have hb : begO rpS 0 = ([⟨4, ⟨#[41]⟩, 0, 0, 0⟩, ⟨0, ⟨#[]⟩, 0, 0, 1⟩], 0, 0) := by
    rw [beg_on (by decide) rp_e0.1 (by rw [rp_t0]; decide) rp_e0.2, beg_end rp_e1 (by rw [rp_t1]), rp_t0, rp_t1]
  obtain ⟨a, b, _⟩ := tks_short (s := rpS) (by decide) hb
  exact ⟨a, (b rfl).2⟩
/-- The text in brackets. -/
def brS (s : ByteArray) : ByteArray := jn (lpS s) rpS
theorem chain_k {s : ByteArray} {f : Nat} {L : List Tk} (h : Chain s f L) : ∃ K, L = K ++ [⟨0, ⟨#[]⟩, 0, 0, s.size⟩] ∧ ∀ t ∈ K, t.k ≠ 0 := by
  induction h with
  | fin f h1 h2 => exact ⟨[], rfl, fun t ht => by cases ht⟩
  | more f p t L hg hp h1 h2 h3 h4 h5 ih =>
    obtain ⟨K, e, hk⟩ := ih
    refine ⟨t :: K, by rw [e]; rfl, fun u hu => ?_⟩
    rcases List.mem_cons.1 hu with rfl | hu
    · exact hg.kk
    · exact hk u hu
theorem ls_of {e f g : Tk} (h1 : e.x = gE) (h2 : e.k = 0) (h3 : e.ty = 0) (f1 : f.x = gB [41]) (g1 : g.x = gE) (g2 : g.k = 0) (n : Nat) : ∀ K : List Tk, (∀ t ∈ K, t.k ≠ 0) → Ls (K ++ [e]) (K.map (shf n) ++ [f, g])
  | [], _ => .fin e f g h1 h2 h3 f1 g1 g2
  | t :: K, hk => .cons t (shf n t) _ _ ⟨rfl, rfl, rfl, rfl, hk t (by simp)⟩ (ls_of h1 h2 h3 f1 g1 g2 n K fun x hx => hk x (by simp [hx]))
theorem rows_end (t : Tr) (e : Tk) (h : e.x = gE) (oper : ByteArray → Int) (ho : oper gE = 0) (p : List Tk → Except Ft (Tr × List Tk)) (m : Nat) : gRowR oper p m t [e] = .ok (t, [e]) := by
  cases m with
  | zero => rfl
  | succ m =>
    unfold gRowR gLook
    simp only [bind, Except.bind, h, ho, if_true]
theorem row_end {p : List Tk → Except Ft (Tr × List Tk)} {ts : List Tk} {t : Tr} {e : Tk} (hp : p ts = .ok (t, [e])) (h : e.x = gE) (oper : ByteArray → Int) (ho : oper gE = 0) (m : Nat) : gRow oper p m ts = .ok (t, [e]) := by
  unfold gRow
  rw [hp]
  exact rows_end t e h oper ho p m
theorem row_err {p : List Tk → Except Ft (Tr × List Tk)} {ts : List Tk} {f : Ft} (hp : p ts = .error f) (oper : ByteArray → Int) (m : Nat) : gRow oper p m ts = .error f := by
  unfold gRow
  rw [hp]
  rfl
theorem un_br (ex un : List Tk → Except Ft (Tr × List Tk)) (p : Int) (us : List Tk) : gUn ex un 0 (⟨4, ⟨#[40]⟩, 0, 0, p⟩ :: us) = (do
    let (n, r) ← ex us
    let (_, r) ← gTake (gB [41]) r
    .ok (n, r)) := by
  unfold gUn gLook
  simp only [bind, Except.bind]
  rw [if_pos (show unX ⟨#[40]⟩ = 0 by decide +kernel)]
  unfold gOne gLook
  simp only [bind, Except.bind]
  rw [if_pos (show eqX ⟨#[40]⟩ [40] = true by decide +kernel)]
  rfl
/-- A text in brackets is read as it is, but for places; or it is too deep. -/
theorem brk {s : ByteArray} (hs : s.size ≤ 4000) {t : Tr} (h : gWhole s = .ok t) : (∃ t', gWhole (brS s) = .ok t' ∧ bareT t = bareT t') ∨ ∃ q, gWhole (brS s) = .error (.tok 132 q) := by
  unfold gWhole at h
  cases hx : exprT (rdT s) with
  | error f => rw [hx] at h; cases h
  | ok q =>
  obtain ⟨t0, r⟩ := q
  rw [hx] at h
  simp only at h
  cases hg : gEnd r with
  | error f => rw [hg] at h; cases h
  | ok _ =>
  rw [hg] at h
  simp only [Except.ok.injEq] at h
  subst h
  have hr : ∃ e r', r = e :: r' ∧ e.k = 0 := by
    cases r with
    | nil => cases hg
    | cons e r' =>
      refine ⟨e, r', rfl, ?_⟩
      unfold gEnd gLook at hg
      simp only [bind, Except.bind] at hg
      by_cases hk : e.k = 0
      · exact hk
      · rw [decide_eq_false hk, need_f] at hg
        cases hg
  obtain ⟨e, r', rfl, hk⟩ := hr
  have hmem : e ∈ rdT s := (exF_sub 26 0).1 _ _ _ hx e (by simp)
  have hE : tksE s = 0 := by
    by_cases h0 : tksE s = 0
    · exact h0
    · exfalso
      unfold rdT at hmem
      rw [if_neg h0] at hmem
      obtain ⟨a1, _, _⟩ := tks_short' (s := s) (by omega)
      unfold allL allF at hmem
      rw [if_neg (by omega), if_neg (by rw [← a1]; exact h0)] at hmem
      exact beg_kinds _ 0 (Nat.le_refl _) (by omega) (by rw [← a1]; exact h0) e hmem hk
  have hT : rdT s = tksL s := by unfold rdT; rw [if_pos hE]
  obtain ⟨_, _, _, hc⟩ := tks_len hE
  obtain ⟨K, eK, hK⟩ := chain_k hc
  obtain ⟨l1, l2⟩ := lp_tks hs hE
  obtain ⟨_, _, j3⟩ := jn_all (a := lpS s) (b := rpS) (by rw [lpS_size]; show 1 + s.size + 1 ≤ 4095; omega)
  obtain ⟨z1, z2⟩ := j3 l1 rp_tks.1
  have hz : rdT (brS s) = ⟨4, ⟨#[40]⟩, 0, 0, 0⟩ :: (K.map (shf 1) ++ [shf ((lpS s).size + 1) ⟨4, ⟨#[41]⟩, 0, 0, 0⟩, shf ((lpS s).size + 1) ⟨0, ⟨#[]⟩, 0, 0, 1⟩]) := by
    unfold rdT brS
    have hd : ∀ (a : Tk) (A : List Tk) (y : Tk), (a :: (A ++ [y])).dropLast = a :: A := fun a A y => by rw [← List.cons_append, List.dropLast_concat]
    rw [if_pos z1, z2, l2, rp_tks.2, eK, List.map_append, List.map_cons, List.map_nil, hd]
    rfl
  have hl := ls_of (e := ⟨0, ⟨#[]⟩, 0, 0, s.size⟩) (f := shf ((lpS s).size + 1) ⟨4, ⟨#[41]⟩, 0, 0, 0⟩) (g := shf ((lpS s).size + 1) ⟨0, ⟨#[]⟩, 0, 0, 1⟩) rfl rfl rfl rfl rfl rfl 1 K hK
  rw [← eK, ← hT] at hl
  generalize hus : K.map (shf 1) ++ [shf ((lpS s).size + 1) ⟨4, ⟨#[41]⟩, 0, 0, 0⟩, shf ((lpS s).size + 1) ⟨0, ⟨#[]⟩, 0, 0, 1⟩] = us at hl hz
  have hgx : gWhole (brS s) = match (gEx (exF 25 1) (unF 25 1) 0 (⟨4, ⟨#[40]⟩, 0, 0, 0⟩ :: us)) with
    | .error f => .error f
    | .ok q => match gEnd q.2 with
      | .error f => .error f
      | .ok _ => .ok q.1 := by
    unfold gWhole exprT
    rw [hz, exF]
    rfl
  rcases exprT_in hl _ hx with ⟨⟨t', r2⟩, q1, q2, q3⟩ | ⟨q, q1⟩
  · simp only at q2 q3
    cases q3 with
    | cons t u ts us h hs => exact absurd hk h.2.2.2.2
    | fin e f g h1 h2 h3 f1 g1 g2 =>
      refine .inl ⟨t', ?_, q2⟩
      have hu : gUn (exF 25 1) (unF 25 1) 0 (⟨4, ⟨#[40]⟩, 0, 0, 0⟩ :: us) = .ok (t', [g]) := by
        rw [un_br, q1]
        show (do
          let (_, r) ← gTake (gB [41]) [f, g]
          .ok (t', r)) = _
        rw [gTake_hit f1]
        rfl
      rw [hgx]
      unfold gEx
      rw [row_end (row_end (row_end (row_end (row_end hu g1 proX (by decide +kernel) 4096) g1 sumX (by decide +kernel) 4096) g1 cmpX (by decide +kernel) 1) g1 andX (by decide +kernel) 4096) g1 orX (by decide +kernel) 4096]
      simp only [bind, Except.bind, gIs, gLook, Except.map, g1, show decide (gE = gB [63]) = false by decide +kernel]
      simp [gEnd, gLook, gNeed, bind, Except.bind, g2]
  · refine .inr ⟨q, ?_⟩
    have hu : gUn (exF 25 1) (unF 25 1) 0 (⟨4, ⟨#[40]⟩, 0, 0, 0⟩ :: us) = .error (.tok 132 q) := by rw [un_br, q1]; rfl
    rw [hgx]
    unfold gEx
    rw [row_err (row_err (row_err (row_err (row_err hu proX 4096) sumX 4096) cmpX 1) andX 4096) orX 4096]
    rfl
end Go.Proofs.YtkfabnchhjfjjabGreatDoor

/-
  The statements' head: its four calls.
-/
namespace Go.Proofs.YtkfabnchhjfjjabGreatDoor
open Go.RowKit
set_option linter.unusedVariables false
theorem exprA (w : World) (ht : Tab w) : Calls Tryz.prog 10 #[.string ⟨#[49, 32, 45, 32, 50, 32, 45, 32, 51]⟩] w fun e w' => ∃ B o c, e = .returned (.tuple #[.agg #[.int .u8 6, .int .u8 7, .int .u8 0, .int .i64 0, .int .u8 0, .string ⟨#[]⟩, .slice (some ⟨B, o, none⟩) 2 c, .int .i64 6], .nilIface]) ∧ w'.cell? ⟨B, o + 1, none⟩ = some (.int .u8 7) ∧ w'.cell? ⟨B, o + 7, none⟩ = some (.int .i64 2) ∧ Below w.heap.size w w' := by
  have c := exprS_any exA (by decide) w ht
  rw [exA_whole] at c
  refine c.mono ?_
  rintro e w' ⟨⟨m, rfl, hm, hl, _⟩, hb⟩
  obtain ⟨h, a, c, ks⟩ := m
  simp only [treeOf, Tr.mk.injEq] at hm
  obtain ⟨h1, h2⟩ := hm
  match ks, h2, hl with
  | [], h2, _ => simp [treesOf] at h2
  | [_], h2, _ => simp [treesOf] at h2
  | _ :: _ :: _ :: _, h2, _ => simp [treesOf] at h2
  | [k0, k1], h2, hl =>
    simp only [treesOf, List.cons.injEq] at h2
    obtain ⟨k0h, k0a, k0c, k0k⟩ := k0
    have hh := h2.1
    simp only [treeOf, Tr.mk.injEq] at hh
    obtain ⟨B, o, ea, hat⟩ := hl.kid 0 (by simp [Nd.ks])
    simp only [Nd.a] at ea
    subst ea
    have q1 := hat.c1
    have q7 := hat.c7
    simp only [Nd.ks, List.getElem_cons_zero, Nd.h, hh.1, Nat.zero_mul, Nat.add_zero] at q1 q7
    refine ⟨B, o, c, ?_, q1, q7, hb⟩
    simp only [Nd.vals, Nd.h, Nd.a, Nd.c, Nd.ks, hdA, h1, List.length_cons, List.length_nil]
    rfl
theorem ErrAt.er_tok {w : World} {s call : ByteArray} {no p : Int} {F : Nat} (h : ErrAt w s call (.tok no p) F) : Er w (.iface 75 (.pointer (some ⟨F, 0, none⟩))) no p := .inr (.inl ⟨F, call, rfl, h⟩)
theorem ErrAt.er_lex {w : World} {s call : ByteArray} {F : Nat} (h : ErrAt w s call .lex F) (hE : tksE s ≠ 0) : Er w (.iface 75 (.pointer (some ⟨F, 0, none⟩))) (tksE s) (tksB s) := by
  obtain ⟨fa, fe, h1, h2⟩ := h
  obtain ⟨e1, F', e2, h3⟩ := h2.2 hE
  subst e1 e2
  exact .inr (.inr (.inl ⟨F, call, F', _, _, rfl, h1, h3⟩))
theorem exprB (w : World) (ht : Tab w) : Calls Tryz.prog 10 #[.string ⟨#[40, 49, 32, 43, 32, 38]⟩] w fun e w' => ∃ F, e = .returned (.tuple #[.agg #[.int .u8 0, .int .u8 0, .int .u8 0, .int .i64 0, .int .u8 0, .string ⟨#[]⟩, .slice none 0 0, .int .i64 0], .iface 75 (.pointer (some ⟨F, 0, none⟩))]) ∧ Er w' (.iface 75 (.pointer (some ⟨F, 0, none⟩))) 111 5 ∧ Below w.heap.size w w' := by
  have c := exprS_any exB (by decide) w ht
  rw [exB_whole] at c
  refine c.mono ?_
  rintro e w' ⟨⟨F, rfl, hE, _⟩, hb⟩
  have := hE.er_lex (by rw [exB_tks.1]; decide)
  rw [exB_tks.1, exB_tks.2.1] at this
  exact ⟨F, rfl, this, hb⟩
theorem stratC (w : World) (ht : Tab w) : Calls Tryz.prog 7 #[.string ⟨#[115, 116, 114, 97, 116, 101, 103, 121, 32, 115, 123, 115, 116, 97, 116, 101, 32, 97, 123, 125, 125]⟩] w fun e w' => ∃ g cap, e = .returned (.tuple #[.agg #[.string ⟨#[115]⟩, .slice none 0 0, .slice none 0 0, .slice (some ⟨g, 0, none⟩) 1 cap], .nilIface]) ∧ w'.cell? ⟨g, 2, none⟩ = some (.int .i64 11) ∧ Below w.heap.size w w' := by
  refine (stratS_ok exC (by decide) w ht ⟨#[115]⟩ ⟨#[97]⟩ 11 [⟨0, ⟨#[]⟩, 0, 0, 21⟩] (by kernel_rfl) (fun V b G fa fe a c h => ?_)).mono ?_
  · rw [exC_tks.2] at h
    exact strat_one h rfl rfl rfl rfl rfl rfl rfl rfl
  · rintro e w' ⟨g, cap, rfl, hr, _, hb⟩
    exact ⟨g, cap, rfl, hr.cell (j := 2) (by decide), hb⟩
theorem stratD (w : World) (ht : Tab w) : Calls Tryz.prog 7 #[.string ⟨#[115, 116, 114, 97, 116, 101, 103, 121, 32, 115, 123, 125]⟩] w fun e w' => ∃ F, e = .returned (.tuple #[.agg #[.string ⟨#[]⟩, .slice none 0 0, .slice none 0 0, .slice none 0 0], .iface 75 (.pointer (some ⟨F, 0, none⟩))]) ∧ Er w' (.iface 75 (.pointer (some ⟨F, 0, none⟩))) 130 11 ∧ Below w.heap.size w w' := by
  refine (stratS_err exD (by decide) w ht (.tok 130 11) (fun V b G fa fe a c h => ?_)).mono ?_
  · rw [exD_tks.2] at h
    exact strat_none h rfl rfl rfl (by decide) (by decide) (by decide)
  · rintro e w' ⟨⟨F, rfl, hE, _⟩, hb⟩
    exact ⟨F, rfl, hE.er_tok, hb⟩
end Go.Proofs.YtkfabnchhjfjjabGreatDoor

/-
  The statements' head.
-/
namespace Go.Proofs.YtkfabnchhjfjjabGreatDoor
open Go.RowKit
set_option linter.unusedVariables false
theorem keep {w w' : World} {a : Addr} {v : Value} (h : w.cell? a = some v) (hb : Below w.heap.size w w') : w'.cell? a = some v := by
  rw [hb.cell (World.block_lt_of_cell? w a h)]; exact h
/-- What is looked at in the end. -/
structure AW (w : World) (B o c N : Nat) : Prop where
  n7 : w.cell? ⟨N, 7, none⟩ = some (.int .i64 6)
  n6 : w.cell? ⟨N, 6, none⟩ = some (.slice (some ⟨B, o, none⟩) 2 c)
  k1 : w.cell? ⟨B, o + 1, none⟩ = some (.int .u8 7)
  k7 : w.cell? ⟨B, o + 7, none⟩ = some (.int .i64 2)
theorem AW.on {w w' : World} {B o c N : Nat} (h : AW w B o c N) (hb : Below w.heap.size w w') : AW w' B o c N := ⟨keep h.n7 hb, keep h.n6 hb, keep h.k1 hb, keep h.k7 hb⟩
structure AS (w : World) (g cap M : Nat) : Prop where
  s0 : w.cell? ⟨M, 0, none⟩ = some (.string ⟨#[115]⟩)
  s3 : w.cell? ⟨M, 3, none⟩ = some (.slice (some ⟨g, 0, none⟩) 1 cap)
  g2 : w.cell? ⟨g, 2, none⟩ = some (.int .i64 11)
theorem AS.on {w w' : World} {g cap M : Nat} (h : AS w g cap M) (hb : Below w.heap.size w w') : AS w' g cap M := ⟨keep h.s0 hb, keep h.s3 hb, keep h.g2 hb⟩
set_option maxRecDepth 100000 in
set_option maxHeartbeats 4000000 in
theorem awake_any (w : World) (ht : Tab w) (hg : Ety w) : Calls Tryz.prog 5 #[] w fun e w' => e = .returned (.bool true) ∧ Below w.heap.size w w' := by
  have c1 := exprA w ht
  have HT : Hid (Tab w ∧ Ety w) := ⟨ht, hg⟩
  clear ht hg
  go_enter Tryz.func5, Tryz.ntmps5
  go_wp2_with fail
  refine c1.mono ?_
  rintro e w1 ⟨B, o, c, rfl, hk1, hk7, hb1⟩
  have hbn := below_new w1 (.cells #[.int .u8 6, .int .u8 7, .int .u8 0, .int .i64 0, .int .u8 0, .string ⟨#[]⟩, .slice (some ⟨B, o, none⟩) 2 c, .int .i64 6] 52)
  have hn := heap_new w1 (.cells #[.int .u8 6, .int .u8 7, .int .u8 0, .int .i64 0, .int .u8 0, .string ⟨#[]⟩, .slice (some ⟨B, o, none⟩) 2 c, .int .i64 6] 52)
  obtain ⟨V1, eV1⟩ : ∃ V, w1.alloc (.cells #[.int .u8 6, .int .u8 7, .int .u8 0, .int .i64 0, .int .u8 0, .string ⟨#[]⟩, .slice (some ⟨B, o, none⟩) 2 c, .int .i64 6] 52) = V := ⟨_, rfl⟩
  rw [eV1] at hbn hn
  have HA1 : Hid (AW V1 B o c w1.heap.size) := ⟨cell_of hn 7, cell_of hn 6, keep hk1 hbn, keep hk7 hbn⟩
  have HB1 : Hid (Below w.heap.size w V1) := below2 hb1 hbn
  have HE1 : Hid (_ = V1) := eV1
  have c2 := wrong_nil V1
  have c3 := exprB V1 (HT.out.1.on HB1.out)
  clear c1 hk1 hk7 hb1 hbn hn eV1
  go_wp2_with fail
  rw [HE1.out]
  refine c2.mono ?_
  rintro e w2 ⟨rfl, e2⟩
  obtain rfl := e2.symm
  clear c2
  go_wp2_with fail
  refine c3.mono ?_
  rintro e w3 ⟨F, rfl, hE3, hb3⟩
  have hbn := below_new w3 (.cells #[.int .u8 0, .int .u8 0, .int .u8 0, .int .i64 0, .int .u8 0, .string ⟨#[]⟩, .slice none 0 0, .int .i64 0] 52)
  obtain ⟨V3, eV3⟩ : ∃ V, w3.alloc (.cells #[.int .u8 0, .int .u8 0, .int .u8 0, .int .i64 0, .int .u8 0, .string ⟨#[]⟩, .slice none 0 0, .int .i64 0] 52) = V := ⟨_, rfl⟩
  rw [eV3] at hbn
  have HB3 : Hid (Below w.heap.size w V3) := below2 (below2 HB1.out hb3) hbn
  have HA3 : Hid (AW V3 B o c w1.heap.size) := (HA1.out.on hb3).on hbn
  have HE3 : Hid (_ = V3) := eV3
  have c4 := wrong_any (hE3.on hbn) (HT.out.2.on HB3.out)
  clear c3 hE3 hb3 hbn eV3 HE1 HA1 HB1
  go_wp2_with fail
  rw [HE3.out]
  refine c4.mono ?_
  rintro e w4 ⟨rfl, hb4⟩
  have HB4 : Hid (Below w.heap.size w w4) := below2 HB3.out hb4
  have HA4 : Hid (AW w4 B o c w1.heap.size) := HA3.out.on hb4
  have c5 := stratC w4 (HT.out.1.on HB4.out)
  clear c4 hb4 HE3 HA3 HB3
  go_wp2_with fail
  refine c5.mono ?_
  rintro e w5 ⟨g, cap, rfl, hg2, hb5⟩
  have hbn := below_new w5 (.cells #[.string ⟨#[115]⟩, .slice none 0 0, .slice none 0 0, .slice (some ⟨g, 0, none⟩) 1 cap] 38)
  have hn := heap_new w5 (.cells #[.string ⟨#[115]⟩, .slice none 0 0, .slice none 0 0, .slice (some ⟨g, 0, none⟩) 1 cap] 38)
  obtain ⟨V5, eV5⟩ : ∃ V, w5.alloc (.cells #[.string ⟨#[115]⟩, .slice none 0 0, .slice none 0 0, .slice (some ⟨g, 0, none⟩) 1 cap] 38) = V := ⟨_, rfl⟩
  rw [eV5] at hbn hn
  have HB5 : Hid (Below w.heap.size w V5) := below2 (below2 HB4.out hb5) hbn
  have HA5 : Hid (AW V5 B o c w1.heap.size) := (HA4.out.on hb5).on hbn
  have HS5 : Hid (AS V5 g cap w5.heap.size) := ⟨cell_of hn 0, cell_of hn 3, keep hg2 hbn⟩
  have HE5 : Hid (_ = V5) := eV5
  have c6 := stratD V5 (HT.out.1.on HB5.out)
  clear c5 hg2 hb5 hbn hn eV5 HA4 HB4
  go_wp2_with fail
  rw [HE5.out]
  refine c6.mono ?_
  rintro e w6 ⟨F2, rfl, hE6, hb6⟩
  have hbn := below_new w6 (.cells #[.string ⟨#[]⟩, .slice none 0 0, .slice none 0 0, .slice none 0 0] 38)
  obtain ⟨V6, eV6⟩ : ∃ V, w6.alloc (.cells #[.string ⟨#[]⟩, .slice none 0 0, .slice none 0 0, .slice none 0 0] 38) = V := ⟨_, rfl⟩
  rw [eV6] at hbn
  have HB6 : Hid (Below w.heap.size w V6) := below2 (below2 HB5.out hb6) hbn
  have HA6 : Hid (AW V6 B o c w1.heap.size) := (HA5.out.on hb6).on hbn
  have HS6 : Hid (AS V6 g cap w5.heap.size) := (HS5.out.on hb6).on hbn
  have HE6 : Hid (_ = V6) := eV6
  have c7 := wrong_any (hE6.on hbn) (HT.out.2.on HB6.out)
  clear c6 hE6 hb6 hbn eV6 HE5 HA5 HB5 HS5
  go_wp2_with fail
  rw [HE6.out]
  refine c7.mono ?_
  rintro e w7 ⟨rfl, hb7⟩
  have HB7 : Hid (Below w.heap.size w w7) := below2 HB6.out hb7
  obtain ⟨n7, n6, k1, k7⟩ := HA6.out.on hb7
  obtain ⟨s0, s3, g2⟩ := HS6.out.on hb7
  clear c7 hb7 HE6 HA6 HS6 HB6
  go_wp2_with fail
  go_ret
  exact ⟨rfl, HB7.out⟩
end Go.Proofs.YtkfabnchhjfjjabGreatDoor

/-
  An expression in brackets is the same expression: the walk of the statement.
-/
namespace Go.Proofs.YtkfabnchhjfjjabGreatDoor
open Go.RowKit
set_option linter.unusedVariables false
theorem brS_eq (s : ByteArray) : (⟨#[40]⟩ : ByteArray) ++ s ++ (⟨#[10, 41]⟩ : ByteArray) = brS s := by
  refine str_eq ?_
  rw [brS, jn_list, lpS_list]
  simp [rpS]
theorem brS_size (s : ByteArray) : (brS s).size = s.size + 3 := by
  unfold brS
  rw [jn_size, lpS_size]
  show 1 + s.size + 1 + 1 = _
  omega
theorem ErrAt.er {w : World} {s call : ByteArray} {f : Ft} {F : Nat} (h : ErrAt w s call f F) : ∃ n p, Er w (.iface 75 (.pointer (some ⟨F, 0, none⟩))) n p := by
  cases f with
  | tok no p => exact ⟨_, _, h.er_tok⟩
  | lex =>
    by_cases hE : tksE s = 0
    · obtain ⟨fa, fe, h1, h2⟩ := h
      obtain ⟨e1, e2⟩ := h2.1 hE
      subst e1 e2
      exact ⟨-1, 0, .inr (.inr (.inr ⟨F, call, rfl, h1, rfl⟩))⟩
    · exact ⟨_, _, h.er_lex hE⟩
/-- What a reading that is refused hands back. -/
def RdN (n p : Int) (w : World) (e : Ending) (w' : World) : Prop := ∃ F, e = .returned (.tuple #[.agg #[.int .u8 0, .int .u8 0, .int .u8 0, .int .i64 0, .int .u8 0, .string ⟨#[]⟩, .slice none 0 0, .int .i64 0], .iface 75 (.pointer (some ⟨F, 0, none⟩))]) ∧ Er w' (.iface 75 (.pointer (some ⟨F, 0, none⟩))) n p ∧ Below w.heap.size w w'
def RdY (t : Tr) (w : World) (e : Ending) (w' : World) : Prop := ∃ m, e = .returned (.tuple #[.agg m.vals, .nilIface]) ∧ treeOf m = t ∧ Lies w' m ∧ Below w.heap.size w w'
def RdE (w : World) (e : Ending) (w' : World) : Prop := ∃ F n p, e = .returned (.tuple #[.agg #[.int .u8 0, .int .u8 0, .int .u8 0, .int .i64 0, .int .u8 0, .string ⟨#[]⟩, .slice none 0 0, .int .i64 0], .iface 75 (.pointer (some ⟨F, 0, none⟩))]) ∧ Er w' (.iface 75 (.pointer (some ⟨F, 0, none⟩))) n p ∧ Below w.heap.size w w'
theorem rd_y (s : ByteArray) (hs : s.size ≤ 4194304) (w : World) (ht : Tab w) {t : Tr} (h : gWhole s = .ok t) : Calls Tryz.prog 10 #[.string s] w (RdY t w) := by
  have c := exprS_any s hs w ht
  rw [h] at c
  refine c.mono ?_
  rintro e w' ⟨⟨m, rfl, hm, hl, _⟩, hb⟩
  exact ⟨m, rfl, hm, hl, hb⟩
theorem rd_e (s : ByteArray) (hs : s.size ≤ 4194304) (w : World) (ht : Tab w) {f : Ft} (h : gWhole s = .error f) : Calls Tryz.prog 10 #[.string s] w (RdE w) := by
  have c := exprS_any s hs w ht
  rw [h] at c
  refine c.mono ?_
  rintro e w' ⟨⟨F, rfl, hE, _⟩, hb⟩
  obtain ⟨n, p, hE⟩ := hE.er
  exact ⟨F, n, p, rfl, hE, hb⟩
theorem rd_n (s : ByteArray) (hs : s.size ≤ 4194304) (w : World) (ht : Tab w) {q : Int} (h : gWhole s = .error (.tok 132 q)) : Calls Tryz.prog 10 #[.string s] w (RdN 132 q w) := by
  have c := exprS_any s hs w ht
  rw [h] at c
  refine c.mono ?_
  rintro e w' ⟨⟨F, rfl, hE, _⟩, hb⟩
  exact ⟨F, rfl, hE.er_tok, hb⟩
set_option maxRecDepth 100000 in
set_option maxHeartbeats 4000000 in
theorem brk_ee (s : ByteArray) (hs : s.size ≤ 4000) {f1 : Ft} {f2 : Ft} (h1 : gWhole s = .error f1) (h2 : gWhole (brS s) = .error f2) (w : World) (ht : Tab w) (hg : Ety w) : Calls Tryz.prog 4 #[.string s] w fun e w' => e = .returned (.bool true) ∧ Below w.heap.size w w' := by
  have c1 := awake_any w ht hg
  have HT : Hid (Tab w ∧ Ety w) := ⟨ht, hg⟩
  have H1 : Hid (gWhole s = .error f1) := h1
  have H2 : Hid (gWhole (brS s) = .error f2) := h2
  have hd : decide (4000 < (s.size : Int)) = false := decide_eq_false (by omega)
  have hd2 : ¬ (s.size : Int) > 4000 := by omega
  have HS : Hid (s.size ≤ 4000) := hs
  clear ht hg h1 h2
  have hbr := brS_eq s
  go_enter Tryz.func4, Tryz.ntmps4
  go_wp2_with fail
  refine c1.mono ?_
  rintro e w1 ⟨rfl, hb1⟩
  have HB1 : Hid (Below w.heap.size w w1) := hb1
  have c2 := rd_e s (by have := HS.out; omega) w1 (HT.out.1.on hb1) H1.out
  clear c1 hb1
  go_wp2_with fail
  refine c2.mono ?_
  rintro e w2 ⟨F1, n1, p1, rfl, hr1, hb2⟩
  clear hr1
  have hbn := below_new w2 (.cells #[.int .u8 0, .int .u8 0, .int .u8 0, .int .i64 0, .int .u8 0, .string ⟨#[]⟩, .slice none 0 0, .int .i64 0] 52)
  have HN1 : Hid ((w2.alloc (.cells #[.int .u8 0, .int .u8 0, .int .u8 0, .int .i64 0, .int .u8 0, .string ⟨#[]⟩, .slice none 0 0, .int .i64 0] 52)).heap[w2.heap.size]? = some (.cells #[.int .u8 0, .int .u8 0, .int .u8 0, .int .i64 0, .int .u8 0, .string ⟨#[]⟩, .slice none 0 0, .int .i64 0] 52 (0, 0))) := heap_new _ _
  have HB2 : Hid (Below w.heap.size w (w2.alloc (.cells #[.int .u8 0, .int .u8 0, .int .u8 0, .int .i64 0, .int .u8 0, .string ⟨#[]⟩, .slice none 0 0, .int .i64 0] 52))) := below2 (below2 HB1.out hb2) hbn
  have c3 := rd_e (brS s) (by rw [brS_size]; have := HS.out; omega) (w2.alloc (.cells #[.int .u8 0, .int .u8 0, .int .u8 0, .int .i64 0, .int .u8 0, .string ⟨#[]⟩, .slice none 0 0, .int .i64 0] 52)) (HT.out.1.on HB2.out) H2.out
  clear c2 hb2 HB1 hbn
  go_wp2_with fail
  refine c3.mono ?_
  rintro e w3 ⟨F2, n2, p2, rfl, hr2, hb3⟩
  have hbn := below_new w3 (.cells #[.int .u8 0, .int .u8 0, .int .u8 0, .int .i64 0, .int .u8 0, .string ⟨#[]⟩, .slice none 0 0, .int .i64 0] 52)
  have HB3 : Hid (Below w.heap.size w (w3.alloc (.cells #[.int .u8 0, .int .u8 0, .int .u8 0, .int .i64 0, .int .u8 0, .string ⟨#[]⟩, .slice none 0 0, .int .i64 0] 52))) := below2 (below2 HB2.out hb3) hbn
  have c4 := wrong_any (hr2.on hbn) (HT.out.2.on HB3.out)
  clear c3 hb3 hr2 hbn
  go_wp2_with fail
  refine c4.mono ?_
  rintro e w4 ⟨rfl, hb4⟩
  have HB4 : Hid (Below w.heap.size w w4) := below2 HB3.out hb4
  clear c4 hb4
  go_wp2_with fail
  go_ret
  exact ⟨rfl, HB4.out⟩
set_option maxRecDepth 100000 in
set_option maxHeartbeats 4000000 in
theorem brk_ey (s : ByteArray) (hs : s.size ≤ 4000) {f1 : Ft} {t2 : Tr} (h1 : gWhole s = .error f1) (h2 : gWhole (brS s) = .ok t2) (w : World) (ht : Tab w) (hg : Ety w) : Calls Tryz.prog 4 #[.string s] w fun e w' => e = .returned (.bool true) ∧ Below w.heap.size w w' := by
  have c1 := awake_any w ht hg
  have HT : Hid (Tab w ∧ Ety w) := ⟨ht, hg⟩
  have H1 : Hid (gWhole s = .error f1) := h1
  have H2 : Hid (gWhole (brS s) = .ok t2) := h2
  have hd : decide (4000 < (s.size : Int)) = false := decide_eq_false (by omega)
  have hd2 : ¬ (s.size : Int) > 4000 := by omega
  have HS : Hid (s.size ≤ 4000) := hs
  clear ht hg h1 h2
  have hbr := brS_eq s
  go_enter Tryz.func4, Tryz.ntmps4
  go_wp2_with fail
  refine c1.mono ?_
  rintro e w1 ⟨rfl, hb1⟩
  have HB1 : Hid (Below w.heap.size w w1) := hb1
  have c2 := rd_e s (by have := HS.out; omega) w1 (HT.out.1.on hb1) H1.out
  clear c1 hb1
  go_wp2_with fail
  refine c2.mono ?_
  rintro e w2 ⟨F1, n1, p1, rfl, hr1, hb2⟩
  clear hr1
  have hbn := below_new w2 (.cells #[.int .u8 0, .int .u8 0, .int .u8 0, .int .i64 0, .int .u8 0, .string ⟨#[]⟩, .slice none 0 0, .int .i64 0] 52)
  have HN1 : Hid ((w2.alloc (.cells #[.int .u8 0, .int .u8 0, .int .u8 0, .int .i64 0, .int .u8 0, .string ⟨#[]⟩, .slice none 0 0, .int .i64 0] 52)).heap[w2.heap.size]? = some (.cells #[.int .u8 0, .int .u8 0, .int .u8 0, .int .i64 0, .int .u8 0, .string ⟨#[]⟩, .slice none 0 0, .int .i64 0] 52 (0, 0))) := heap_new _ _
  have HB2 : Hid (Below w.heap.size w (w2.alloc (.cells #[.int .u8 0, .int .u8 0, .int .u8 0, .int .i64 0, .int .u8 0, .string ⟨#[]⟩, .slice none 0 0, .int .i64 0] 52))) := below2 (below2 HB1.out hb2) hbn
  have c3 := rd_y (brS s) (by rw [brS_size]; have := HS.out; omega) (w2.alloc (.cells #[.int .u8 0, .int .u8 0, .int .u8 0, .int .i64 0, .int .u8 0, .string ⟨#[]⟩, .slice none 0 0, .int .i64 0] 52)) (HT.out.1.on HB2.out) H2.out
  clear c2 hb2 HB1 hbn
  go_wp2_with fail
  refine c3.mono ?_
  rintro e w3 ⟨⟨⟨k2, o2, ty2, n2, f2, x2, p2⟩, am2, cm2, ks2⟩, rfl, et2, hl2, hb3⟩
  simp only [Nd.vals, Nd.h, Nd.a, Nd.c, Nd.ks, hdA]
  have hbn := below_new w3 (.cells #[.int .u8 k2, .int .u8 o2, .int .u8 ty2, .int .i64 n2, .int .u8 f2, .string x2, .slice am2 ks2.length cm2, .int .i64 p2] 52)
  have HB3 : Hid (Below w.heap.size w (w3.alloc (.cells #[.int .u8 k2, .int .u8 o2, .int .u8 ty2, .int .i64 n2, .int .u8 f2, .string x2, .slice am2 ks2.length cm2, .int .i64 p2] 52))) := below2 (below2 HB2.out hb3) hbn
  have HL2 := (hl2.on hbn).hid
  have HE2 : Hid (treeOf _ = t2) := et2
  clear hl2 et2
  have hA : (w3.alloc (.cells #[.int .u8 k2, .int .u8 o2, .int .u8 ty2, .int .i64 n2, .int .u8 f2, .string x2, .slice am2 ks2.length cm2, .int .i64 p2] 52)).heap[w2.heap.size]? = some (.cells #[.int .u8 0, .int .u8 0, .int .u8 0, .int .i64 0, .int .u8 0, .string ⟨#[]⟩, .slice none 0 0, .int .i64 0] 52 (0, 0)) := ((below2 hb3 hbn).block _ (Array.getElem?_eq_some_iff.1 HN1.out).1).trans HN1.out
  have hB : (w3.alloc (.cells #[.int .u8 k2, .int .u8 o2, .int .u8 ty2, .int .i64 n2, .int .u8 f2, .string x2, .slice am2 ks2.length cm2, .int .i64 p2] 52)).heap[w3.heap.size]? = some (.cells #[.int .u8 k2, .int .u8 o2, .int .u8 ty2, .int .i64 n2, .int .u8 f2, .string x2, .slice am2 ks2.length cm2, .int .i64 p2] 52 (0, 0)) := heap_new _ _
  clear c3 hb3 hbn
  have c4 := wrong_nil (w3.alloc (.cells #[.int .u8 k2, .int .u8 o2, .int .u8 ty2, .int .i64 n2, .int .u8 f2, .string x2, .slice am2 ks2.length cm2, .int .i64 p2] 52))
  go_wp2_with fail
  refine c4.mono ?_
  rintro e w4 ⟨rfl, rfl⟩
  clear c4
  go_wp2_with fail
  go_ret
  exact ⟨rfl, HB3.out⟩
set_option maxRecDepth 100000 in
set_option maxHeartbeats 4000000 in
theorem brk_yy (s : ByteArray) (hs : s.size ≤ 4000) {t1 : Tr} {t2 : Tr} (h1 : gWhole s = .ok t1) (h2 : gWhole (brS s) = .ok t2) (hbt : bareT t1 = bareT t2) (w : World) (ht : Tab w) (hg : Ety w) : Calls Tryz.prog 4 #[.string s] w fun e w' => e = .returned (.bool true) ∧ Below w.heap.size w w' := by
  have c1 := awake_any w ht hg
  have HT : Hid (Tab w ∧ Ety w) := ⟨ht, hg⟩
  have H1 : Hid (gWhole s = .ok t1) := h1
  have H2 : Hid (gWhole (brS s) = .ok t2) := h2
  have HQ : Hid (bareT t1 = bareT t2) := hbt
  clear hbt
  have hd : decide (4000 < (s.size : Int)) = false := decide_eq_false (by omega)
  have hd2 : ¬ (s.size : Int) > 4000 := by omega
  have HS : Hid (s.size ≤ 4000) := hs
  clear ht hg h1 h2
  have hbr := brS_eq s
  go_enter Tryz.func4, Tryz.ntmps4
  go_wp2_with fail
  refine c1.mono ?_
  rintro e w1 ⟨rfl, hb1⟩
  have HB1 : Hid (Below w.heap.size w w1) := hb1
  have c2 := rd_y s (by have := HS.out; omega) w1 (HT.out.1.on hb1) H1.out
  clear c1 hb1
  go_wp2_with fail
  refine c2.mono ?_
  rintro e w2 ⟨⟨⟨k1, o1, ty1, n1, f1, x1, p1⟩, am1, cm1, ks1⟩, rfl, et1, hl1, hb2⟩
  simp only [Nd.vals, Nd.h, Nd.a, Nd.c, Nd.ks, hdA]
  have hbn := below_new w2 (.cells #[.int .u8 k1, .int .u8 o1, .int .u8 ty1, .int .i64 n1, .int .u8 f1, .string x1, .slice am1 ks1.length cm1, .int .i64 p1] 52)
  have HN1 : Hid ((w2.alloc (.cells #[.int .u8 k1, .int .u8 o1, .int .u8 ty1, .int .i64 n1, .int .u8 f1, .string x1, .slice am1 ks1.length cm1, .int .i64 p1] 52)).heap[w2.heap.size]? = some (.cells #[.int .u8 k1, .int .u8 o1, .int .u8 ty1, .int .i64 n1, .int .u8 f1, .string x1, .slice am1 ks1.length cm1, .int .i64 p1] 52 (0, 0))) := heap_new _ _
  have HB2 : Hid (Below w.heap.size w (w2.alloc (.cells #[.int .u8 k1, .int .u8 o1, .int .u8 ty1, .int .i64 n1, .int .u8 f1, .string x1, .slice am1 ks1.length cm1, .int .i64 p1] 52))) := below2 (below2 HB1.out hb2) hbn
  have HL1 := (hl1.on hbn).hid
  have HE1 : Hid (treeOf _ = t1) := et1
  clear hl1 et1
  have c3 := rd_y (brS s) (by rw [brS_size]; have := HS.out; omega) (w2.alloc (.cells #[.int .u8 k1, .int .u8 o1, .int .u8 ty1, .int .i64 n1, .int .u8 f1, .string x1, .slice am1 ks1.length cm1, .int .i64 p1] 52)) (HT.out.1.on HB2.out) H2.out
  clear c2 hb2 HB1 hbn
  go_wp2_with fail
  refine c3.mono ?_
  rintro e w3 ⟨⟨⟨k2, o2, ty2, n2, f2, x2, p2⟩, am2, cm2, ks2⟩, rfl, et2, hl2, hb3⟩
  simp only [Nd.vals, Nd.h, Nd.a, Nd.c, Nd.ks, hdA]
  have hbn := below_new w3 (.cells #[.int .u8 k2, .int .u8 o2, .int .u8 ty2, .int .i64 n2, .int .u8 f2, .string x2, .slice am2 ks2.length cm2, .int .i64 p2] 52)
  have HB3 : Hid (Below w.heap.size w (w3.alloc (.cells #[.int .u8 k2, .int .u8 o2, .int .u8 ty2, .int .i64 n2, .int .u8 f2, .string x2, .slice am2 ks2.length cm2, .int .i64 p2] 52))) := below2 (below2 HB2.out hb3) hbn
  have HL2 := (hl2.on hbn).hid
  have HE2 : Hid (treeOf _ = t2) := et2
  clear hl2 et2
  have HL1 := ((HL1.out.on hb3).on hbn).hid
  have hA : (w3.alloc (.cells #[.int .u8 k2, .int .u8 o2, .int .u8 ty2, .int .i64 n2, .int .u8 f2, .string x2, .slice am2 ks2.length cm2, .int .i64 p2] 52)).heap[w2.heap.size]? = some (.cells #[.int .u8 k1, .int .u8 o1, .int .u8 ty1, .int .i64 n1, .int .u8 f1, .string x1, .slice am1 ks1.length cm1, .int .i64 p1] 52 (0, 0)) := ((below2 hb3 hbn).block _ (Array.getElem?_eq_some_iff.1 HN1.out).1).trans HN1.out
  have hB : (w3.alloc (.cells #[.int .u8 k2, .int .u8 o2, .int .u8 ty2, .int .i64 n2, .int .u8 f2, .string x2, .slice am2 ks2.length cm2, .int .i64 p2] 52)).heap[w3.heap.size]? = some (.cells #[.int .u8 k2, .int .u8 o2, .int .u8 ty2, .int .i64 n2, .int .u8 f2, .string x2, .slice am2 ks2.length cm2, .int .i64 p2] 52 (0, 0)) := heap_new _ _
  clear c3 hb3 hbn
  have c4 := wrong_nil (w3.alloc (.cells #[.int .u8 k2, .int .u8 o2, .int .u8 ty2, .int .i64 n2, .int .u8 f2, .string x2, .slice am2 ks2.length cm2, .int .i64 p2] 52))
  go_wp2_with fail
  refine c4.mono ?_
  rintro e w4 ⟨rfl, rfl⟩
  clear c4
  have c5 := like_any (Nd.mk ⟨k1, o1, ty1, n1, f1, x1, p1⟩ am1 cm1 ks1) (Nd.mk ⟨k2, o2, ty2, n2, f2, x2, p2⟩ am2 cm2 ks2) (w3.alloc (.cells #[.int .u8 k2, .int .u8 o2, .int .u8 ty2, .int .i64 n2, .int .u8 f2, .string x2, .slice am2 ks2.length cm2, .int .i64 p2] 52)) (by rw [HE1.out, HE2.out, HQ.out]) HL1.out HL2.out
  simp only [Nd.vals, Nd.h, Nd.a, Nd.c, Nd.ks, hdA] at c5
  obtain ⟨V, eV⟩ : ∃ V, w3.alloc (.cells #[.int .u8 k2, .int .u8 o2, .int .u8 ty2, .int .i64 n2, .int .u8 f2, .string x2, .slice am2 ks2.length cm2, .int .i64 p2] 52) = V := ⟨_, rfl⟩
  rw [eV] at hA hB HB3 c5 ⊢
  clear eV HL1 HL2
  have a0 : V.cell? ⟨w2.heap.size, 0, none⟩ = some (.int .u8 k1) := cell_of hA 0
  have b0 : V.cell? ⟨w3.heap.size, 0, none⟩ = some (.int .u8 k2) := cell_of hB 0
  have a1 : V.cell? ⟨w2.heap.size, 1, none⟩ = some (.int .u8 o1) := cell_of hA 1
  have b1 : V.cell? ⟨w3.heap.size, 1, none⟩ = some (.int .u8 o2) := cell_of hB 1
  have a2 : V.cell? ⟨w2.heap.size, 2, none⟩ = some (.int .u8 ty1) := cell_of hA 2
  have b2 : V.cell? ⟨w3.heap.size, 2, none⟩ = some (.int .u8 ty2) := cell_of hB 2
  have a3 : V.cell? ⟨w2.heap.size, 3, none⟩ = some (.int .i64 n1) := cell_of hA 3
  have b3 : V.cell? ⟨w3.heap.size, 3, none⟩ = some (.int .i64 n2) := cell_of hB 3
  have a4 : V.cell? ⟨w2.heap.size, 4, none⟩ = some (.int .u8 f1) := cell_of hA 4
  have b4 : V.cell? ⟨w3.heap.size, 4, none⟩ = some (.int .u8 f2) := cell_of hB 4
  have a5 : V.cell? ⟨w2.heap.size, 5, none⟩ = some (.string x1) := cell_of hA 5
  have b5 : V.cell? ⟨w3.heap.size, 5, none⟩ = some (.string x2) := cell_of hB 5
  have a6 : V.cell? ⟨w2.heap.size, 6, none⟩ = some (.slice am1 ks1.length cm1) := cell_of hA 6
  have b6 : V.cell? ⟨w3.heap.size, 6, none⟩ = some (.slice am2 ks2.length cm2) := cell_of hB 6
  have a7 : V.cell? ⟨w2.heap.size, 7, none⟩ = some (.int .i64 p1) := cell_of hA 7
  have b7 : V.cell? ⟨w3.heap.size, 7, none⟩ = some (.int .i64 p2) := cell_of hB 7
  clear hA hB
  go_wp2_with fail
  refine c5.mono ?_
  rintro e w5 ⟨rfl, hb5⟩
  have HB5 : Hid (Below w.heap.size w w5) := below2 HB3.out hb5
  clear c5 hb5
  go_wp2_with fail
  go_ret
  exact ⟨rfl, HB5.out⟩
set_option maxRecDepth 100000 in
set_option maxHeartbeats 4000000 in
theorem brk_yn (s : ByteArray) (hs : s.size ≤ 4000) {t1 : Tr} {q2 : Int} (h1 : gWhole s = .ok t1) (h2 : gWhole (brS s) = .error (.tok 132 q2)) (w : World) (ht : Tab w) (hg : Ety w) : Calls Tryz.prog 4 #[.string s] w fun e w' => e = .returned (.bool true) ∧ Below w.heap.size w w' := by
  have c1 := awake_any w ht hg
  have HT : Hid (Tab w ∧ Ety w) := ⟨ht, hg⟩
  have H1 : Hid (gWhole s = .ok t1) := h1
  have H2 : Hid (gWhole (brS s) = .error (.tok 132 q2)) := h2
  have hd : decide (4000 < (s.size : Int)) = false := decide_eq_false (by omega)
  have hd2 : ¬ (s.size : Int) > 4000 := by omega
  have HS : Hid (s.size ≤ 4000) := hs
  clear ht hg h1 h2
  have hbr := brS_eq s
  go_enter Tryz.func4, Tryz.ntmps4
  go_wp2_with fail
  refine c1.mono ?_
  rintro e w1 ⟨rfl, hb1⟩
  have HB1 : Hid (Below w.heap.size w w1) := hb1
  have c2 := rd_y s (by have := HS.out; omega) w1 (HT.out.1.on hb1) H1.out
  clear c1 hb1
  go_wp2_with fail
  refine c2.mono ?_
  rintro e w2 ⟨⟨⟨k1, o1, ty1, n1, f1, x1, p1⟩, am1, cm1, ks1⟩, rfl, et1, hl1, hb2⟩
  simp only [Nd.vals, Nd.h, Nd.a, Nd.c, Nd.ks, hdA]
  have hbn := below_new w2 (.cells #[.int .u8 k1, .int .u8 o1, .int .u8 ty1, .int .i64 n1, .int .u8 f1, .string x1, .slice am1 ks1.length cm1, .int .i64 p1] 52)
  have HN1 : Hid ((w2.alloc (.cells #[.int .u8 k1, .int .u8 o1, .int .u8 ty1, .int .i64 n1, .int .u8 f1, .string x1, .slice am1 ks1.length cm1, .int .i64 p1] 52)).heap[w2.heap.size]? = some (.cells #[.int .u8 k1, .int .u8 o1, .int .u8 ty1, .int .i64 n1, .int .u8 f1, .string x1, .slice am1 ks1.length cm1, .int .i64 p1] 52 (0, 0))) := heap_new _ _
  have HB2 : Hid (Below w.heap.size w (w2.alloc (.cells #[.int .u8 k1, .int .u8 o1, .int .u8 ty1, .int .i64 n1, .int .u8 f1, .string x1, .slice am1 ks1.length cm1, .int .i64 p1] 52))) := below2 (below2 HB1.out hb2) hbn
  have HL1 := (hl1.on hbn).hid
  have HE1 : Hid (treeOf _ = t1) := et1
  clear hl1 et1
  have c3 := rd_n (brS s) (by rw [brS_size]; have := HS.out; omega) (w2.alloc (.cells #[.int .u8 k1, .int .u8 o1, .int .u8 ty1, .int .i64 n1, .int .u8 f1, .string x1, .slice am1 ks1.length cm1, .int .i64 p1] 52)) (HT.out.1.on HB2.out) H2.out
  clear c2 hb2 HB1 hbn
  go_wp2_with fail
  refine c3.mono ?_
  rintro e w3 ⟨F2, rfl, hr2, hb3⟩
  have hbn := below_new w3 (.cells #[.int .u8 0, .int .u8 0, .int .u8 0, .int .i64 0, .int .u8 0, .string ⟨#[]⟩, .slice none 0 0, .int .i64 0] 52)
  have HB3 : Hid (Below w.heap.size w (w3.alloc (.cells #[.int .u8 0, .int .u8 0, .int .u8 0, .int .i64 0, .int .u8 0, .string ⟨#[]⟩, .slice none 0 0, .int .i64 0] 52))) := below2 (below2 HB2.out hb3) hbn
  have c4 := wrong_any (hr2.on hbn) (HT.out.2.on HB3.out)
  clear c3 hb3 hr2 hbn
  go_wp2_with fail
  refine c4.mono ?_
  rintro e w4 ⟨rfl, hb4⟩
  have HB4 : Hid (Below w.heap.size w w4) := below2 HB3.out hb4
  clear c4 hb4
  go_wp2_with fail
  go_ret
  exact ⟨rfl, HB4.out⟩
set_option maxRecDepth 100000 in
set_option maxHeartbeats 4000000 in
theorem brackets_any (s : ByteArray) (w : World) (ht : Tab w) (hg : Ety w) : Calls Tryz.prog 4 #[.string s] w fun e w' => e = .returned (.bool true) ∧ Below w.heap.size w w' := by
  by_cases hs : (s.size : Int) > 4000
  · have c1 := awake_any w ht hg
    clear ht hg
    have hd : decide (4000 < (s.size : Int)) = true := decide_eq_true hs
    go_enter Tryz.func4, Tryz.ntmps4
    go_wp2_with fail
    refine c1.mono ?_
    rintro e w1 ⟨rfl, hb1⟩
    have HB1 : Hid (Below w.heap.size w w1) := hb1
    clear c1 hb1
    go_wp2_with fail
    go_ret
    exact ⟨rfl, HB1.out⟩
  have hs' : s.size ≤ 4000 := by omega
  cases h1 : gWhole s with
  | error f =>
    cases h2 : gWhole (brS s) with
    | error f' => exact brk_ee s hs' h1 h2 w ht hg
    | ok t' => exact brk_ey s hs' h1 h2 w ht hg
  | ok t =>
    rcases brk hs' h1 with ⟨t', h2, hb⟩ | ⟨q, h2⟩
    · exact brk_yy s hs' h1 h2 hb w ht hg
    · exact brk_yn s hs' h1 h2 w ht hg
end Go.Proofs.YtkfabnchhjfjjabGreatDoor
