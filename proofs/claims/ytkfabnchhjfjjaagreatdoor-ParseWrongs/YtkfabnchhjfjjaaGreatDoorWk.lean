import Derived.Test.YtkfabnchhjfjjaaGreatDoorSe
/-
  The statements' head: the tokens of its texts.
-/
namespace Go.Proofs.YtkfabnchhjfjjaaGreatDoor
open Go.RowKit
theorem beg_on {s : ByteArray} {f q : Nat} (hf : f ≤ s.size) (h : oneE s f = 0) (hk : (oneT s f).k ≠ 0) (hq : oneQ s f = q) : begO s f = (oneT s f :: (begO s q).1, (begO s q).2) := by
  rw [(beg_more hf h hk).2.2.2, hq]
theorem tk_ext {t u : Tk} (h1 : t.k = u.k) (h2 : t.x.data.toList = u.x.data.toList) (h3 : t.ty = u.ty) (h4 : t.n = u.n) (h5 : t.p = u.p) : t = u := by
  cases t; cases u
  have h2' := str_eq h2
  simp only at h1 h2' h3 h4 h5
  rw [h1, h3, h4, h5, h2']
def exA : ByteArray := ⟨#[49, 32, 45, 32, 50, 32, 45, 32, 51]⟩
theorem exA_t0 : oneT exA 0 = ⟨3, ⟨#[49]⟩, 1, 1, 0⟩ := tk_ext (by decide +kernel) (by decide +kernel) (by decide +kernel) (by decide +kernel) (by decide +kernel)
theorem exA_e0 : oneE exA 0 = 0 ∧ oneQ exA 0 = 1 := by decide +kernel
theorem exA_t1 : oneT exA 1 = ⟨4, ⟨#[45]⟩, 0, 0, 2⟩ := tk_ext (by decide +kernel) (by decide +kernel) (by decide +kernel) (by decide +kernel) (by decide +kernel)
theorem exA_e1 : oneE exA 1 = 0 ∧ oneQ exA 1 = 3 := by decide +kernel
theorem exA_t2 : oneT exA 3 = ⟨3, ⟨#[50]⟩, 1, 2, 4⟩ := tk_ext (by decide +kernel) (by decide +kernel) (by decide +kernel) (by decide +kernel) (by decide +kernel)
theorem exA_e2 : oneE exA 3 = 0 ∧ oneQ exA 3 = 5 := by decide +kernel
theorem exA_t3 : oneT exA 5 = ⟨4, ⟨#[45]⟩, 0, 0, 6⟩ := tk_ext (by decide +kernel) (by decide +kernel) (by decide +kernel) (by decide +kernel) (by decide +kernel)
theorem exA_e3 : oneE exA 5 = 0 ∧ oneQ exA 5 = 7 := by decide +kernel
theorem exA_t4 : oneT exA 7 = ⟨3, ⟨#[51]⟩, 1, 3, 8⟩ := tk_ext (by decide +kernel) (by decide +kernel) (by decide +kernel) (by decide +kernel) (by decide +kernel)
theorem exA_e4 : oneE exA 7 = 0 ∧ oneQ exA 7 = 9 := by decide +kernel
theorem exA_t5 : oneT exA 9 = ⟨0, ⟨#[]⟩, 0, 0, 9⟩ := tk_ext (by decide +kernel) (by decide +kernel) (by decide +kernel) (by decide +kernel) (by decide +kernel)
theorem exA_e5 : oneE exA 9 = 0 := by decide +kernel
theorem exA_beg : begO exA 0 = ([⟨3, ⟨#[49]⟩, 1, 1, 0⟩, ⟨4, ⟨#[45]⟩, 0, 0, 2⟩, ⟨3, ⟨#[50]⟩, 1, 2, 4⟩, ⟨4, ⟨#[45]⟩, 0, 0, 6⟩, ⟨3, ⟨#[51]⟩, 1, 3, 8⟩, ⟨0, ⟨#[]⟩, 0, 0, 9⟩], 0, 0) := by
  rw [beg_on (by decide) exA_e0.1 (by rw [exA_t0]; decide) exA_e0.2, beg_on (by decide) exA_e1.1 (by rw [exA_t1]; decide) exA_e1.2, beg_on (by decide) exA_e2.1 (by rw [exA_t2]; decide) exA_e2.2, beg_on (by decide) exA_e3.1 (by rw [exA_t3]; decide) exA_e3.2, beg_on (by decide) exA_e4.1 (by rw [exA_t4]; decide) exA_e4.2, beg_end exA_e5 (by rw [exA_t5]), exA_t0, exA_t1, exA_t2, exA_t3, exA_t4, exA_t5]
theorem exA_tks : tksE exA = 0 ∧ rdT exA = [⟨3, ⟨#[49]⟩, 1, 1, 0⟩, ⟨4, ⟨#[45]⟩, 0, 0, 2⟩, ⟨3, ⟨#[50]⟩, 1, 2, 4⟩, ⟨4, ⟨#[45]⟩, 0, 0, 6⟩, ⟨3, ⟨#[51]⟩, 1, 3, 8⟩, ⟨0, ⟨#[]⟩, 0, 0, 9⟩] := by
  obtain ⟨a, b, _⟩ := tks_short (s := exA) (by decide) exA_beg
  obtain ⟨b1, b2⟩ := b rfl
  refine ⟨a, ?_⟩
  unfold rdT
  rw [if_pos a, b2]
def exB : ByteArray := ⟨#[40, 49, 32, 43, 32, 38]⟩
theorem exB_t0 : oneT exB 0 = ⟨4, ⟨#[40]⟩, 0, 0, 0⟩ := tk_ext (by decide +kernel) (by decide +kernel) (by decide +kernel) (by decide +kernel) (by decide +kernel)
theorem exB_e0 : oneE exB 0 = 0 ∧ oneQ exB 0 = 1 := by decide +kernel
theorem exB_t1 : oneT exB 1 = ⟨3, ⟨#[49]⟩, 1, 1, 1⟩ := tk_ext (by decide +kernel) (by decide +kernel) (by decide +kernel) (by decide +kernel) (by decide +kernel)
theorem exB_e1 : oneE exB 1 = 0 ∧ oneQ exB 1 = 2 := by decide +kernel
theorem exB_t2 : oneT exB 2 = ⟨4, ⟨#[43]⟩, 0, 0, 3⟩ := tk_ext (by decide +kernel) (by decide +kernel) (by decide +kernel) (by decide +kernel) (by decide +kernel)
theorem exB_e2 : oneE exB 2 = 0 ∧ oneQ exB 2 = 4 := by decide +kernel
theorem exB_bad : oneE exB 4 = 111 ∧ oneB exB 4 = 5 := by decide +kernel
theorem exB_beg : begO exB 0 = ([⟨4, ⟨#[40]⟩, 0, 0, 0⟩, ⟨3, ⟨#[49]⟩, 1, 1, 1⟩, ⟨4, ⟨#[43]⟩, 0, 0, 3⟩], 111, 5) := by
  rw [beg_on (by decide) exB_e0.1 (by rw [exB_t0]; decide) exB_e0.2, beg_on (by decide) exB_e1.1 (by rw [exB_t1]; decide) exB_e1.2, beg_on (by decide) exB_e2.1 (by rw [exB_t2]; decide) exB_e2.2, beg_bad (by rw [exB_bad.1]; decide), exB_bad.1, exB_bad.2, exB_t0, exB_t1, exB_t2]
theorem exB_tks : tksE exB = 111 ∧ tksB exB = 5 ∧ rdT exB = [⟨4, ⟨#[40]⟩, 0, 0, 0⟩, ⟨3, ⟨#[49]⟩, 1, 1, 1⟩, ⟨4, ⟨#[43]⟩, 0, 0, 3⟩] := by
  obtain ⟨a, _, b⟩ := tks_short (s := exB) (by decide) exB_beg
  obtain ⟨b1, _⟩ := b (by decide)
  refine ⟨a, b1, ?_⟩
  unfold rdT
  rw [if_neg (by rw [a]; decide)]
  unfold allL
  rw [if_neg (by decide)]
  unfold allF
  rw [exB_beg]
  rfl
def exC : ByteArray := ⟨#[115, 116, 114, 97, 116, 101, 103, 121, 32, 115, 123, 115, 116, 97, 116, 101, 32, 97, 123, 125, 125]⟩
theorem exC_t0 : oneT exC 0 = ⟨1, ⟨#[115, 116, 114, 97, 116, 101, 103, 121]⟩, 0, 0, 0⟩ := tk_ext (by decide +kernel) (by decide +kernel) (by decide +kernel) (by decide +kernel) (by decide +kernel)
theorem exC_e0 : oneE exC 0 = 0 ∧ oneQ exC 0 = 8 := by decide +kernel
theorem exC_t1 : oneT exC 8 = ⟨2, ⟨#[115]⟩, 0, 0, 9⟩ := tk_ext (by decide +kernel) (by decide +kernel) (by decide +kernel) (by decide +kernel) (by decide +kernel)
theorem exC_e1 : oneE exC 8 = 0 ∧ oneQ exC 8 = 10 := by decide +kernel
theorem exC_t2 : oneT exC 10 = ⟨4, ⟨#[123]⟩, 0, 0, 10⟩ := tk_ext (by decide +kernel) (by decide +kernel) (by decide +kernel) (by decide +kernel) (by decide +kernel)
theorem exC_e2 : oneE exC 10 = 0 ∧ oneQ exC 10 = 11 := by decide +kernel
theorem exC_t3 : oneT exC 11 = ⟨1, ⟨#[115, 116, 97, 116, 101]⟩, 0, 0, 11⟩ := tk_ext (by decide +kernel) (by decide +kernel) (by decide +kernel) (by decide +kernel) (by decide +kernel)
theorem exC_e3 : oneE exC 11 = 0 ∧ oneQ exC 11 = 16 := by decide +kernel
theorem exC_t4 : oneT exC 16 = ⟨2, ⟨#[97]⟩, 0, 0, 17⟩ := tk_ext (by decide +kernel) (by decide +kernel) (by decide +kernel) (by decide +kernel) (by decide +kernel)
theorem exC_e4 : oneE exC 16 = 0 ∧ oneQ exC 16 = 18 := by decide +kernel
theorem exC_t5 : oneT exC 18 = ⟨4, ⟨#[123]⟩, 0, 0, 18⟩ := tk_ext (by decide +kernel) (by decide +kernel) (by decide +kernel) (by decide +kernel) (by decide +kernel)
theorem exC_e5 : oneE exC 18 = 0 ∧ oneQ exC 18 = 19 := by decide +kernel
theorem exC_t6 : oneT exC 19 = ⟨4, ⟨#[125]⟩, 0, 0, 19⟩ := tk_ext (by decide +kernel) (by decide +kernel) (by decide +kernel) (by decide +kernel) (by decide +kernel)
theorem exC_e6 : oneE exC 19 = 0 ∧ oneQ exC 19 = 20 := by decide +kernel
theorem exC_t7 : oneT exC 20 = ⟨4, ⟨#[125]⟩, 0, 0, 20⟩ := tk_ext (by decide +kernel) (by decide +kernel) (by decide +kernel) (by decide +kernel) (by decide +kernel)
theorem exC_e7 : oneE exC 20 = 0 ∧ oneQ exC 20 = 21 := by decide +kernel
theorem exC_t8 : oneT exC 21 = ⟨0, ⟨#[]⟩, 0, 0, 21⟩ := tk_ext (by decide +kernel) (by decide +kernel) (by decide +kernel) (by decide +kernel) (by decide +kernel)
theorem exC_e8 : oneE exC 21 = 0 := by decide +kernel
theorem exC_beg : begO exC 0 = ([⟨1, ⟨#[115, 116, 114, 97, 116, 101, 103, 121]⟩, 0, 0, 0⟩, ⟨2, ⟨#[115]⟩, 0, 0, 9⟩, ⟨4, ⟨#[123]⟩, 0, 0, 10⟩, ⟨1, ⟨#[115, 116, 97, 116, 101]⟩, 0, 0, 11⟩, ⟨2, ⟨#[97]⟩, 0, 0, 17⟩, ⟨4, ⟨#[123]⟩, 0, 0, 18⟩, ⟨4, ⟨#[125]⟩, 0, 0, 19⟩, ⟨4, ⟨#[125]⟩, 0, 0, 20⟩, ⟨0, ⟨#[]⟩, 0, 0, 21⟩], 0, 0) := by
  rw [beg_on (by decide) exC_e0.1 (by rw [exC_t0]; decide) exC_e0.2, beg_on (by decide) exC_e1.1 (by rw [exC_t1]; decide) exC_e1.2, beg_on (by decide) exC_e2.1 (by rw [exC_t2]; decide) exC_e2.2, beg_on (by decide) exC_e3.1 (by rw [exC_t3]; decide) exC_e3.2, beg_on (by decide) exC_e4.1 (by rw [exC_t4]; decide) exC_e4.2, beg_on (by decide) exC_e5.1 (by rw [exC_t5]; decide) exC_e5.2, beg_on (by decide) exC_e6.1 (by rw [exC_t6]; decide) exC_e6.2, beg_on (by decide) exC_e7.1 (by rw [exC_t7]; decide) exC_e7.2, beg_end exC_e8 (by rw [exC_t8]), exC_t0, exC_t1, exC_t2, exC_t3, exC_t4, exC_t5, exC_t6, exC_t7, exC_t8]
theorem exC_tks : tksE exC = 0 ∧ rdT exC = [⟨1, ⟨#[115, 116, 114, 97, 116, 101, 103, 121]⟩, 0, 0, 0⟩, ⟨2, ⟨#[115]⟩, 0, 0, 9⟩, ⟨4, ⟨#[123]⟩, 0, 0, 10⟩, ⟨1, ⟨#[115, 116, 97, 116, 101]⟩, 0, 0, 11⟩, ⟨2, ⟨#[97]⟩, 0, 0, 17⟩, ⟨4, ⟨#[123]⟩, 0, 0, 18⟩, ⟨4, ⟨#[125]⟩, 0, 0, 19⟩, ⟨4, ⟨#[125]⟩, 0, 0, 20⟩, ⟨0, ⟨#[]⟩, 0, 0, 21⟩] := by
  obtain ⟨a, b, _⟩ := tks_short (s := exC) (by decide) exC_beg
  obtain ⟨b1, b2⟩ := b rfl
  refine ⟨a, ?_⟩
  unfold rdT
  rw [if_pos a, b2]
def exD : ByteArray := ⟨#[115, 116, 114, 97, 116, 101, 103, 121, 32, 115, 123, 125]⟩
theorem exD_t0 : oneT exD 0 = ⟨1, ⟨#[115, 116, 114, 97, 116, 101, 103, 121]⟩, 0, 0, 0⟩ := tk_ext (by decide +kernel) (by decide +kernel) (by decide +kernel) (by decide +kernel) (by decide +kernel)
theorem exD_e0 : oneE exD 0 = 0 ∧ oneQ exD 0 = 8 := by decide +kernel
theorem exD_t1 : oneT exD 8 = ⟨2, ⟨#[115]⟩, 0, 0, 9⟩ := tk_ext (by decide +kernel) (by decide +kernel) (by decide +kernel) (by decide +kernel) (by decide +kernel)
theorem exD_e1 : oneE exD 8 = 0 ∧ oneQ exD 8 = 10 := by decide +kernel
theorem exD_t2 : oneT exD 10 = ⟨4, ⟨#[123]⟩, 0, 0, 10⟩ := tk_ext (by decide +kernel) (by decide +kernel) (by decide +kernel) (by decide +kernel) (by decide +kernel)
theorem exD_e2 : oneE exD 10 = 0 ∧ oneQ exD 10 = 11 := by decide +kernel
theorem exD_t3 : oneT exD 11 = ⟨4, ⟨#[125]⟩, 0, 0, 11⟩ := tk_ext (by decide +kernel) (by decide +kernel) (by decide +kernel) (by decide +kernel) (by decide +kernel)
theorem exD_e3 : oneE exD 11 = 0 ∧ oneQ exD 11 = 12 := by decide +kernel
theorem exD_t4 : oneT exD 12 = ⟨0, ⟨#[]⟩, 0, 0, 12⟩ := tk_ext (by decide +kernel) (by decide +kernel) (by decide +kernel) (by decide +kernel) (by decide +kernel)
theorem exD_e4 : oneE exD 12 = 0 := by decide +kernel
theorem exD_beg : begO exD 0 = ([⟨1, ⟨#[115, 116, 114, 97, 116, 101, 103, 121]⟩, 0, 0, 0⟩, ⟨2, ⟨#[115]⟩, 0, 0, 9⟩, ⟨4, ⟨#[123]⟩, 0, 0, 10⟩, ⟨4, ⟨#[125]⟩, 0, 0, 11⟩, ⟨0, ⟨#[]⟩, 0, 0, 12⟩], 0, 0) := by
  rw [beg_on (by decide) exD_e0.1 (by rw [exD_t0]; decide) exD_e0.2, beg_on (by decide) exD_e1.1 (by rw [exD_t1]; decide) exD_e1.2, beg_on (by decide) exD_e2.1 (by rw [exD_t2]; decide) exD_e2.2, beg_on (by decide) exD_e3.1 (by rw [exD_t3]; decide) exD_e3.2, beg_end exD_e4 (by rw [exD_t4]), exD_t0, exD_t1, exD_t2, exD_t3, exD_t4]
theorem exD_tks : tksE exD = 0 ∧ rdT exD = [⟨1, ⟨#[115, 116, 114, 97, 116, 101, 103, 121]⟩, 0, 0, 0⟩, ⟨2, ⟨#[115]⟩, 0, 0, 9⟩, ⟨4, ⟨#[123]⟩, 0, 0, 10⟩, ⟨4, ⟨#[125]⟩, 0, 0, 11⟩, ⟨0, ⟨#[]⟩, 0, 0, 12⟩] := by
  obtain ⟨a, b, _⟩ := tks_short (s := exD) (by decide) exD_beg
  obtain ⟨b1, b2⟩ := b rfl
  refine ⟨a, ?_⟩
  unfold rdT
  rw [if_pos a, b2]
theorem exA_whole : gWhole exA = .ok (.mk ⟨6, 7, 0, 0, 0, gE, 6⟩ [.mk ⟨6, 7, 0, 0, 0, gE, 2⟩ [(.mk ⟨1, 0, 1, 1, 0, gE, 0⟩ []), (.mk ⟨1, 0, 1, 2, 0, gE, 4⟩ [])], (.mk ⟨1, 0, 1, 3, 0, gE, 8⟩ [])]) := by
  unfold gWhole
  rw [exA_tks.2]
  kernel_rfl
theorem exB_whole : gWhole exB = .error .lex := by
  unfold gWhole
  rw [exB_tks.2.2]
  kernel_rfl
end Go.Proofs.YtkfabnchhjfjjaaGreatDoor

/-
  The statements' head: its four calls.
-/
namespace Go.Proofs.YtkfabnchhjfjjaaGreatDoor
open Go.RowKit
set_option linter.unusedVariables false
theorem exprA (w : World) (ht : Tab w) : Calls Tryz.prog 16 #[.string ⟨#[49, 32, 45, 32, 50, 32, 45, 32, 51]⟩] w fun e w' => ∃ B o c, e = .returned (.tuple #[.agg #[.int .u8 6, .int .u8 7, .int .u8 0, .int .i64 0, .int .u8 0, .string ⟨#[]⟩, .slice (some ⟨B, o, none⟩) 2 c, .int .i64 6], .nilIface]) ∧ w'.cell? ⟨B, o + 1, none⟩ = some (.int .u8 7) ∧ w'.cell? ⟨B, o + 7, none⟩ = some (.int .i64 2) ∧ Below w.heap.size w w' := by
  have c := exprS_any exA (by decide) w ht
  rw [exA_whole] at c
  refine c.mono ?_
  rintro e w' ⟨⟨m, rfl, hm, hl, _⟩, hb⟩
  obtain ⟨h, a, c, ks⟩ := m
  simp only [treeOf, Tr.mk.injEq] at hm
  obtain ⟨h1, h2⟩ := hm
  match ks, h2, hl with
  | [], h2, _ => simp [treesOf] at h2
  | [_], h2, _ => simp [treesOf] at h2
  | _ :: _ :: _ :: _, h2, _ => simp [treesOf] at h2
  | [k0, k1], h2, hl =>
    simp only [treesOf, List.cons.injEq] at h2
    obtain ⟨k0h, k0a, k0c, k0k⟩ := k0
    have hh := h2.1
    simp only [treeOf, Tr.mk.injEq] at hh
    obtain ⟨B, o, ea, hat⟩ := hl.kid 0 (by simp [Nd.ks])
    simp only [Nd.a] at ea
    subst ea
    have q1 := hat.c1
    have q7 := hat.c7
    simp only [Nd.ks, List.getElem_cons_zero, Nd.h, hh.1, Nat.zero_mul, Nat.add_zero] at q1 q7
    refine ⟨B, o, c, ?_, q1, q7, hb⟩
    simp only [Nd.vals, Nd.h, Nd.a, Nd.c, Nd.ks, hdA, h1, List.length_cons, List.length_nil]
    rfl
theorem ErrAt.er_tok {w : World} {s call : ByteArray} {no p : Int} {F : Nat} (h : ErrAt w s call (.tok no p) F) : Er w (.iface 74 (.pointer (some ⟨F, 0, none⟩))) no p := .inr (.inl ⟨F, call, rfl, h⟩)
theorem ErrAt.er_lex {w : World} {s call : ByteArray} {F : Nat} (h : ErrAt w s call .lex F) (hE : tksE s ≠ 0) : Er w (.iface 74 (.pointer (some ⟨F, 0, none⟩))) (tksE s) (tksB s) := by
  obtain ⟨fa, fe, h1, h2⟩ := h
  obtain ⟨e1, F', e2, h3⟩ := h2.2 hE
  subst e1 e2
  exact .inr (.inr (.inl ⟨F, call, F', _, _, rfl, h1, h3⟩))
theorem exprB (w : World) (ht : Tab w) : Calls Tryz.prog 16 #[.string ⟨#[40, 49, 32, 43, 32, 38]⟩] w fun e w' => ∃ F, e = .returned (.tuple #[.agg #[.int .u8 0, .int .u8 0, .int .u8 0, .int .i64 0, .int .u8 0, .string ⟨#[]⟩, .slice none 0 0, .int .i64 0], .iface 74 (.pointer (some ⟨F, 0, none⟩))]) ∧ Er w' (.iface 74 (.pointer (some ⟨F, 0, none⟩))) 111 5 ∧ Below w.heap.size w w' := by
  have c := exprS_any exB (by decide) w ht
  rw [exB_whole] at c
  refine c.mono ?_
  rintro e w' ⟨⟨F, rfl, hE, _⟩, hb⟩
  have := hE.er_lex (by rw [exB_tks.1]; decide)
  rw [exB_tks.1, exB_tks.2.1] at this
  exact ⟨F, rfl, this, hb⟩
theorem stratC (w : World) (ht : Tab w) : Calls Tryz.prog 10 #[.string ⟨#[115, 116, 114, 97, 116, 101, 103, 121, 32, 115, 123, 115, 116, 97, 116, 101, 32, 97, 123, 125, 125]⟩] w fun e w' => ∃ g cap, e = .returned (.tuple #[.agg #[.string ⟨#[115]⟩, .slice none 0 0, .slice none 0 0, .slice (some ⟨g, 0, none⟩) 1 cap], .nilIface]) ∧ w'.cell? ⟨g, 2, none⟩ = some (.int .i64 11) ∧ Below w.heap.size w w' := by
  refine (stratS_ok exC (by decide) w ht ⟨#[115]⟩ ⟨#[97]⟩ 11 [⟨0, ⟨#[]⟩, 0, 0, 21⟩] (by kernel_rfl) (fun V b G fa fe a c h => ?_)).mono ?_
  · rw [exC_tks.2] at h
    exact strat_one h rfl rfl rfl rfl rfl rfl rfl rfl
  · rintro e w' ⟨g, cap, rfl, hr, _, hb⟩
    exact ⟨g, cap, rfl, hr.cell (j := 2) (by decide), hb⟩
theorem stratD (w : World) (ht : Tab w) : Calls Tryz.prog 10 #[.string ⟨#[115, 116, 114, 97, 116, 101, 103, 121, 32, 115, 123, 125]⟩] w fun e w' => ∃ F, e = .returned (.tuple #[.agg #[.string ⟨#[]⟩, .slice none 0 0, .slice none 0 0, .slice none 0 0], .iface 74 (.pointer (some ⟨F, 0, none⟩))]) ∧ Er w' (.iface 74 (.pointer (some ⟨F, 0, none⟩))) 130 11 ∧ Below w.heap.size w w' := by
  refine (stratS_err exD (by decide) w ht (.tok 130 11) (fun V b G fa fe a c h => ?_)).mono ?_
  · rw [exD_tks.2] at h
    exact strat_none h rfl rfl rfl (by decide) (by decide) (by decide)
  · rintro e w' ⟨⟨F, rfl, hE, _⟩, hb⟩
    exact ⟨F, rfl, hE.er_tok, hb⟩
end Go.Proofs.YtkfabnchhjfjjaaGreatDoor

/-
  The statements' head.
-/
namespace Go.Proofs.YtkfabnchhjfjjaaGreatDoor
open Go.RowKit
set_option linter.unusedVariables false
theorem keep {w w' : World} {a : Addr} {v : Value} (h : w.cell? a = some v) (hb : Below w.heap.size w w') : w'.cell? a = some v := by
  rw [hb.cell (World.block_lt_of_cell? w a h)]; exact h
/-- What is looked at in the end. -/
structure AW (w : World) (B o c N : Nat) : Prop where
  n7 : w.cell? ⟨N, 7, none⟩ = some (.int .i64 6)
  n6 : w.cell? ⟨N, 6, none⟩ = some (.slice (some ⟨B, o, none⟩) 2 c)
  k1 : w.cell? ⟨B, o + 1, none⟩ = some (.int .u8 7)
  k7 : w.cell? ⟨B, o + 7, none⟩ = some (.int .i64 2)
theorem AW.on {w w' : World} {B o c N : Nat} (h : AW w B o c N) (hb : Below w.heap.size w w') : AW w' B o c N := ⟨keep h.n7 hb, keep h.n6 hb, keep h.k1 hb, keep h.k7 hb⟩
structure AS (w : World) (g cap M : Nat) : Prop where
  s0 : w.cell? ⟨M, 0, none⟩ = some (.string ⟨#[115]⟩)
  s3 : w.cell? ⟨M, 3, none⟩ = some (.slice (some ⟨g, 0, none⟩) 1 cap)
  g2 : w.cell? ⟨g, 2, none⟩ = some (.int .i64 11)
theorem AS.on {w w' : World} {g cap M : Nat} (h : AS w g cap M) (hb : Below w.heap.size w w') : AS w' g cap M := ⟨keep h.s0 hb, keep h.s3 hb, keep h.g2 hb⟩
set_option maxRecDepth 100000 in
set_option maxHeartbeats 4000000 in
theorem awake_any (w : World) (ht : Tab w) (hg : Ety w) : Calls Tryz.prog 9 #[] w fun e w' => e = .returned (.bool true) ∧ Below w.heap.size w w' := by
  have c1 := exprA w ht
  have HT : Hid (Tab w ∧ Ety w) := ⟨ht, hg⟩
  clear ht hg
  go_enter Tryz.func9, Tryz.ntmps9
  go_wp2_with fail
  refine c1.mono ?_
  rintro e w1 ⟨B, o, c, rfl, hk1, hk7, hb1⟩
  have hbn := below_new w1 (.cells #[.int .u8 6, .int .u8 7, .int .u8 0, .int .i64 0, .int .u8 0, .string ⟨#[]⟩, .slice (some ⟨B, o, none⟩) 2 c, .int .i64 6] 64)
  have hn := heap_new w1 (.cells #[.int .u8 6, .int .u8 7, .int .u8 0, .int .i64 0, .int .u8 0, .string ⟨#[]⟩, .slice (some ⟨B, o, none⟩) 2 c, .int .i64 6] 64)
  obtain ⟨V1, eV1⟩ : ∃ V, w1.alloc (.cells #[.int .u8 6, .int .u8 7, .int .u8 0, .int .i64 0, .int .u8 0, .string ⟨#[]⟩, .slice (some ⟨B, o, none⟩) 2 c, .int .i64 6] 64) = V := ⟨_, rfl⟩
  rw [eV1] at hbn hn
  have HA1 : Hid (AW V1 B o c w1.heap.size) := ⟨cell_of hn 7, cell_of hn 6, keep hk1 hbn, keep hk7 hbn⟩
  have HB1 : Hid (Below w.heap.size w V1) := below2 hb1 hbn
  have HE1 : Hid (_ = V1) := eV1
  have c2 := wrong_nil V1
  have c3 := exprB V1 (HT.out.1.on HB1.out)
  clear c1 hk1 hk7 hb1 hbn hn eV1
  go_wp2_with fail
  rw [HE1.out]
  refine c2.mono ?_
  rintro e w2 ⟨rfl, e2⟩
  obtain rfl := e2.symm
  clear c2
  go_wp2_with fail
  refine c3.mono ?_
  rintro e w3 ⟨F, rfl, hE3, hb3⟩
  have hbn := below_new w3 (.cells #[.int .u8 0, .int .u8 0, .int .u8 0, .int .i64 0, .int .u8 0, .string ⟨#[]⟩, .slice none 0 0, .int .i64 0] 64)
  obtain ⟨V3, eV3⟩ : ∃ V, w3.alloc (.cells #[.int .u8 0, .int .u8 0, .int .u8 0, .int .i64 0, .int .u8 0, .string ⟨#[]⟩, .slice none 0 0, .int .i64 0] 64) = V := ⟨_, rfl⟩
  rw [eV3] at hbn
  have HB3 : Hid (Below w.heap.size w V3) := below2 (below2 HB1.out hb3) hbn
  have HA3 : Hid (AW V3 B o c w1.heap.size) := (HA1.out.on hb3).on hbn
  have HE3 : Hid (_ = V3) := eV3
  have c4 := wrong_any (hE3.on hbn) (HT.out.2.on HB3.out)
  clear c3 hE3 hb3 hbn eV3 HE1 HA1 HB1
  go_wp2_with fail
  rw [HE3.out]
  refine c4.mono ?_
  rintro e w4 ⟨rfl, hb4⟩
  have HB4 : Hid (Below w.heap.size w w4) := below2 HB3.out hb4
  have HA4 : Hid (AW w4 B o c w1.heap.size) := HA3.out.on hb4
  have c5 := stratC w4 (HT.out.1.on HB4.out)
  clear c4 hb4 HE3 HA3 HB3
  go_wp2_with fail
  refine c5.mono ?_
  rintro e w5 ⟨g, cap, rfl, hg2, hb5⟩
  have hbn := below_new w5 (.cells #[.string ⟨#[115]⟩, .slice none 0 0, .slice none 0 0, .slice (some ⟨g, 0, none⟩) 1 cap] 43)
  have hn := heap_new w5 (.cells #[.string ⟨#[115]⟩, .slice none 0 0, .slice none 0 0, .slice (some ⟨g, 0, none⟩) 1 cap] 43)
  obtain ⟨V5, eV5⟩ : ∃ V, w5.alloc (.cells #[.string ⟨#[115]⟩, .slice none 0 0, .slice none 0 0, .slice (some ⟨g, 0, none⟩) 1 cap] 43) = V := ⟨_, rfl⟩
  rw [eV5] at hbn hn
  have HB5 : Hid (Below w.heap.size w V5) := below2 (below2 HB4.out hb5) hbn
  have HA5 : Hid (AW V5 B o c w1.heap.size) := (HA4.out.on hb5).on hbn
  have HS5 : Hid (AS V5 g cap w5.heap.size) := ⟨cell_of hn 0, cell_of hn 3, keep hg2 hbn⟩
  have HE5 : Hid (_ = V5) := eV5
  have c6 := stratD V5 (HT.out.1.on HB5.out)
  clear c5 hg2 hb5 hbn hn eV5 HA4 HB4
  go_wp2_with fail
  rw [HE5.out]
  refine c6.mono ?_
  rintro e w6 ⟨F2, rfl, hE6, hb6⟩
  have hbn := below_new w6 (.cells #[.string ⟨#[]⟩, .slice none 0 0, .slice none 0 0, .slice none 0 0] 43)
  obtain ⟨V6, eV6⟩ : ∃ V, w6.alloc (.cells #[.string ⟨#[]⟩, .slice none 0 0, .slice none 0 0, .slice none 0 0] 43) = V := ⟨_, rfl⟩
  rw [eV6] at hbn
  have HB6 : Hid (Below w.heap.size w V6) := below2 (below2 HB5.out hb6) hbn
  have HA6 : Hid (AW V6 B o c w1.heap.size) := (HA5.out.on hb6).on hbn
  have HS6 : Hid (AS V6 g cap w5.heap.size) := (HS5.out.on hb6).on hbn
  have HE6 : Hid (_ = V6) := eV6
  have c7 := wrong_any (hE6.on hbn) (HT.out.2.on HB6.out)
  clear c6 hE6 hb6 hbn eV6 HE5 HA5 HB5 HS5
  go_wp2_with fail
  rw [HE6.out]
  refine c7.mono ?_
  rintro e w7 ⟨rfl, hb7⟩
  have HB7 : Hid (Below w.heap.size w w7) := below2 HB6.out hb7
  obtain ⟨n7, n6, k1, k7⟩ := HA6.out.on hb7
  obtain ⟨s0, s3, g2⟩ := HS6.out.on hb7
  clear c7 hb7 HE6 HA6 HS6 HB6
  go_wp2_with fail
  go_ret
  exact ⟨rfl, HB7.out⟩
end Go.Proofs.YtkfabnchhjfjjaaGreatDoor

/-
  Wrong of errors of each make: the walk of the statement.
-/
namespace Go.Proofs.YtkfabnchhjfjjaaGreatDoor
open Go.RowKit
set_option linter.unusedVariables false
set_option maxRecDepth 100000 in
theorem errNew (x : ByteArray) (w : World) : Calls Tryz.prog 22 #[.string x] w fun e w' => e = .returned (.iface 133 (.pointer (some ⟨w.heap.size, 0, none⟩))) ∧ w' = w.alloc (.cells #[.string x] 135) := by
  go_enter Tryz.func22, Tryz.ntmps22
  go_wp2_with fail
  go_ret
  exact ⟨rfl, rfl⟩
set_option maxRecDepth 100000 in
set_option maxHeartbeats 4000000 in
theorem wrongs_any (n p q : Int) (call : ByteArray) (w : World) (ht : Tab w) (hg : Ety w) : Calls Tryz.prog 7 #[.int .i64 n, .int .i64 p, .int .i64 q, .string call] w fun e w' => e = .returned (.bool true) ∧ Below w.heap.size w w' := by
  have c1 := awake_any w ht hg
  have HT : Hid (Ety w) := hg
  clear ht hg
  by_cases hs : (call.size : Int) > 1048576
  · have hd : decide (1048576 < (call.size : Int)) = true := decide_eq_true hs
    go_enter Tryz.func7, Tryz.ntmps7
    go_wp2_with fail
    refine c1.mono ?_
    rintro e w1 ⟨rfl, hb1⟩
    have HB1 : Hid (Below w.heap.size w w1) := hb1
    clear c1 hb1
    go_wp2_with fail
    go_ret
    exact ⟨rfl, HB1.out⟩
  have hd : decide (1048576 < (call.size : Int)) = false := decide_eq_false hs
  clear hs
  go_enter Tryz.func7, Tryz.ntmps7
  go_wp2_with fail
  refine c1.mono ?_
  rintro e w1 ⟨rfl, hb1⟩
  have HB1 : Hid (Below w.heap.size w w1) := hb1
  have c2 := wrong_any (w := w1) (v := .iface 48 (.int .i64 n)) (n := n) (p := 0) (.inl ⟨rfl, rfl⟩) (HT.out.on hb1)
  clear c1 hb1
  go_wp2_with fail
  refine c2.mono ?_
  rintro e w2 ⟨rfl, hb2⟩
  have hbn := below_new w2 (.cells #[.string call, .int .i64 p, .iface 48 (.int .i64 n)] 76)
  have hn := heap_new w2 (.cells #[.string call, .int .i64 p, .iface 48 (.int .i64 n)] 76)
  have HB2 : Hid (Below w.heap.size w (w2.alloc (.cells #[.string call, .int .i64 p, .iface 48 (.int .i64 n)] 76))) := below2 (below2 HB1.out hb2) hbn
  have c3 := wrong_any (w := w2.alloc (.cells #[.string call, .int .i64 p, .iface 48 (.int .i64 n)] 76)) (v := .iface 74 (.pointer (some ⟨w2.heap.size, 0, none⟩))) (n := n) (p := p) (.inr (.inl ⟨_, _, rfl, hn⟩)) (HT.out.on HB2.out)
  clear c2 hb2 hbn hn HB1
  go_wp2_with fail
  refine c3.mono ?_
  rintro e w3 ⟨rfl, hb3⟩
  have b4 := below_new w3 (.cells #[.string ⟨#[120]⟩, .int .i64 p, .iface 48 (.int .i64 n)] 76)
  have n4 := heap_new w3 (.cells #[.string ⟨#[120]⟩, .int .i64 p, .iface 48 (.int .i64 n)] 76)
  have s4 := size_alloc w3 (.cells #[.string ⟨#[120]⟩, .int .i64 p, .iface 48 (.int .i64 n)] 76)
  have b5 := below_new (w3.alloc (.cells #[.string ⟨#[120]⟩, .int .i64 p, .iface 48 (.int .i64 n)] 76)) (.cells #[.string call, .int .i64 q, .iface 74 (.pointer (some ⟨w3.heap.size, 0, none⟩))] 76)
  have n5 := heap_new (w3.alloc (.cells #[.string ⟨#[120]⟩, .int .i64 p, .iface 48 (.int .i64 n)] 76)) (.cells #[.string call, .int .i64 q, .iface 74 (.pointer (some ⟨w3.heap.size, 0, none⟩))] 76)
  have HB5 : Hid (Below w.heap.size w ((w3.alloc (.cells #[.string ⟨#[120]⟩, .int .i64 p, .iface 48 (.int .i64 n)] 76)).alloc (.cells #[.string call, .int .i64 q, .iface 74 (.pointer (some ⟨w3.heap.size, 0, none⟩))] 76))) := below2 (below2 (below2 HB2.out hb3) b4) b5
  rw [s4] at n5
  have c4 := wrong_any (w := (w3.alloc (.cells #[.string ⟨#[120]⟩, .int .i64 p, .iface 48 (.int .i64 n)] 76)).alloc (.cells #[.string call, .int .i64 q, .iface 74 (.pointer (some ⟨w3.heap.size, 0, none⟩))] 76)) (v := .iface 74 (.pointer (some ⟨w3.heap.size + 1, 0, none⟩))) (n := n) (p := q) (.inr (.inr (.inl ⟨_, _, w3.heap.size, _, _, rfl, n5, (b5.block _ (by omega)).trans n4⟩))) (HT.out.on HB5.out)
  clear c3 hb3 b4 n4 s4 b5 n5 HB2
  go_wp2_with fail
  refine c4.mono ?_
  rintro e w6 ⟨rfl, hb6⟩
  have b7 := below_new w6 (.cells #[.string call] 135)
  have s7 := size_alloc w6 (.cells #[.string call] 135)
  have b8 := below_new (w6.alloc (.cells #[.string call] 135)) (.cells #[.string call, .int .i64 q, .iface 133 (.pointer (some ⟨w6.heap.size, 0, none⟩))] 76)
  have n8 := heap_new (w6.alloc (.cells #[.string call] 135)) (.cells #[.string call, .int .i64 q, .iface 133 (.pointer (some ⟨w6.heap.size, 0, none⟩))] 76)
  rw [s7] at n8
  have HB8 : Hid (Below w.heap.size w ((w6.alloc (.cells #[.string call] 135)).alloc (.cells #[.string call, .int .i64 q, .iface 133 (.pointer (some ⟨w6.heap.size, 0, none⟩))] 76))) := below2 (below2 (below2 HB5.out hb6) b7) b8
  have c5 := wrong_any (w := (w6.alloc (.cells #[.string call] 135)).alloc (.cells #[.string call, .int .i64 q, .iface 133 (.pointer (some ⟨w6.heap.size, 0, none⟩))] 76)) (v := .iface 74 (.pointer (some ⟨w6.heap.size + 1, 0, none⟩))) (n := -1) (p := q) (.inr (.inr (.inr (.inl ⟨_, _, _, rfl, n8, rfl⟩)))) (HT.out.on HB8.out)
  clear c4 hb6 b7 s7 b8 n8 HB5
  go_wp2_with fail
  refine (errNew call w6).mono ?_
  rintro e w7 ⟨rfl, rfl⟩
  go_wp2_with fail
  refine c5.mono ?_
  rintro e w9 ⟨rfl, hb9⟩
  have HB9 : Hid (Below w.heap.size w w9) := below2 HB8.out hb9
  clear c5 hb9 HB8
  go_wp2_with fail
  go_ret
  exact ⟨rfl, HB9.out⟩
end Go.Proofs.YtkfabnchhjfjjaaGreatDoor
