import Derived.Test.YtkfabnchhjfjjaaGreatDoorA0
import Derived.Test.YtkfabnchhjfjjaaGreatDoorA35
import Derived.Test.YtkfabnchhjfjjaaGreatDoorA34
import Derived.Laws.Tables
namespace Go.Proofs.YtkfabnchhjfjjaaGreatDoor
open Go.RowKit
theorem beg_on {s : ByteArray} {f q : Nat} (hf : f ≤ s.size) (h : oneE s f = 0) (hk : (oneT s f).k ≠ 0) (hq : oneQ s f = q) : begO s f = (oneT s f :: (begO s q).1,(begO s q).2) := by
 rw [(beg_more hf h hk).2.2.2,hq]
theorem tk_ext {t u : Tk} (h1 : t.k = u.k) (h2 : t.x.data.toList = u.x.data.toList) (h3 : t.ty = u.ty) (h4 : t.n = u.n) (h5 : t.p = u.p) : t = u := by
 cases t; cases u
 have h2' := str_eq h2
 simp only at h1 h2' h3 h4 h5
 rw [h1,h3,h4,h5,h2']
def exA : ByteArray := ⟨#[49,32,45,32,50,32,45,32,51]⟩
theorem exA_t0 : oneT exA 0 = ⟨3,⟨#[49]⟩,1,1,0⟩ := tk_ext (by decide +kernel) (by decide +kernel) (by decide +kernel) (by decide +kernel) (by decide +kernel)
theorem exA_e0 : oneE exA 0 = 0 ∧ oneQ exA 0 = 1 := by decide +kernel
theorem exA_t1 : oneT exA 1 = ⟨4,Zc,0,0,2⟩ := tk_ext (by decide +kernel) (by decide +kernel) (by decide +kernel) (by decide +kernel) (by decide +kernel)
theorem exA_e1 : oneE exA 1 = 0 ∧ oneQ exA 1 = 3 := by decide +kernel
theorem exA_t2 : oneT exA 3 = ⟨3,⟨#[50]⟩,1,2,4⟩ := tk_ext (by decide +kernel) (by decide +kernel) (by decide +kernel) (by decide +kernel) (by decide +kernel)
theorem exA_e2 : oneE exA 3 = 0 ∧ oneQ exA 3 = 5 := by decide +kernel
theorem exA_t3 : oneT exA 5 = ⟨4,Zc,0,0,6⟩ := tk_ext (by decide +kernel) (by decide +kernel) (by decide +kernel) (by decide +kernel) (by decide +kernel)
theorem exA_e3 : oneE exA 5 = 0 ∧ oneQ exA 5 = 7 := by decide +kernel
theorem exA_t4 : oneT exA 7 = ⟨3,⟨#[51]⟩,1,3,8⟩ := tk_ext (by decide +kernel) (by decide +kernel) (by decide +kernel) (by decide +kernel) (by decide +kernel)
theorem exA_e4 : oneE exA 7 = 0 ∧ oneQ exA 7 = 9 := by decide +kernel
theorem exA_t5 : oneT exA 9 = ⟨0,⟨#[]⟩,0,0,9⟩ := tk_ext (by decide +kernel) (by decide +kernel) (by decide +kernel) (by decide +kernel) (by decide +kernel)
theorem exA_e5 : oneE exA 9 = 0 := by decide +kernel
theorem exA_beg : begO exA 0 = ([⟨3,⟨#[49]⟩,1,1,0⟩,⟨4,Zc,0,0,2⟩,⟨3,⟨#[50]⟩,1,2,4⟩,⟨4,Zc,0,0,6⟩,⟨3,⟨#[51]⟩,1,3,8⟩,⟨0,⟨#[]⟩,0,0,9⟩],0,0) := by
 rw [beg_on (by decide) exA_e0.1 (by rw [exA_t0]; decide) exA_e0.2,beg_on (by decide) exA_e1.1 (by rw [exA_t1]; decide) exA_e1.2,beg_on (by decide) exA_e2.1 (by rw [exA_t2]; decide) exA_e2.2,beg_on (by decide) exA_e3.1 (by rw [exA_t3]; decide) exA_e3.2,beg_on (by decide) exA_e4.1 (by rw [exA_t4]; decide) exA_e4.2,beg_end exA_e5 (by rw [exA_t5]),exA_t0,exA_t1,exA_t2,exA_t3,exA_t4,exA_t5]
theorem exA_tks : tksE exA = 0 ∧ rdT exA = [⟨3,⟨#[49]⟩,1,1,0⟩,⟨4,Zc,0,0,2⟩,⟨3,⟨#[50]⟩,1,2,4⟩,⟨4,Zc,0,0,6⟩,⟨3,⟨#[51]⟩,1,3,8⟩,⟨0,⟨#[]⟩,0,0,9⟩] := by
 obtain ⟨a,b,_⟩ := tks_short (s := exA) (by decide) exA_beg
 obtain ⟨b1,b2⟩ := b rfl
 refine ⟨a,?_⟩
 unfold rdT
 rw [if_pos a,b2]
def exB : ByteArray := ⟨#[40,49,32,43,32,38]⟩
theorem exB_t0 : oneT exB 0 = ⟨4,Zb,0,0,0⟩ := tk_ext (by decide +kernel) (by decide +kernel) (by decide +kernel) (by decide +kernel) (by decide +kernel)
theorem exB_e0 : oneE exB 0 = 0 ∧ oneQ exB 0 = 1 := by decide +kernel
theorem exB_t1 : oneT exB 1 = ⟨3,⟨#[49]⟩,1,1,1⟩ := tk_ext (by decide +kernel) (by decide +kernel) (by decide +kernel) (by decide +kernel) (by decide +kernel)
theorem exB_e1 : oneE exB 1 = 0 ∧ oneQ exB 1 = 2 := by decide +kernel
theorem exB_t2 : oneT exB 2 = ⟨4,Zj,0,0,3⟩ := tk_ext (by decide +kernel) (by decide +kernel) (by decide +kernel) (by decide +kernel) (by decide +kernel)
theorem exB_e2 : oneE exB 2 = 0 ∧ oneQ exB 2 = 4 := by decide +kernel
theorem exB_bad : oneE exB 4 = 111 ∧ oneB exB 4 = 5 := by decide +kernel
theorem exB_beg : begO exB 0 = ([⟨4,Zb,0,0,0⟩,⟨3,⟨#[49]⟩,1,1,1⟩,⟨4,Zj,0,0,3⟩],111,5) := by
 rw [beg_on (by decide) exB_e0.1 (by rw [exB_t0]; decide) exB_e0.2,beg_on (by decide) exB_e1.1 (by rw [exB_t1]; decide) exB_e1.2,beg_on (by decide) exB_e2.1 (by rw [exB_t2]; decide) exB_e2.2,beg_bad (by rw [exB_bad.1]; decide),exB_bad.1,exB_bad.2,exB_t0,exB_t1,exB_t2]
theorem exB_tks : tksE exB = 111 ∧ tksB exB = 5 ∧ rdT exB = [⟨4,Zb,0,0,0⟩,⟨3,⟨#[49]⟩,1,1,1⟩,⟨4,Zj,0,0,3⟩] := by
 obtain ⟨a,_,b⟩ := tks_short (s := exB) (by decide) exB_beg
 obtain ⟨b1,_⟩ := b (by decide)
 refine ⟨a,b1,?_⟩
 unfold rdT
 rw [if_neg (by rw [a]; decide)]
 unfold allL
 rw [if_neg (by decide)]
 unfold allF
 rw [exB_beg]
 rfl
def exC : ByteArray := ZO
theorem exC_t0 : oneT exC 0 = ⟨1,ZF,0,0,0⟩ := tk_ext (by decide +kernel) (by decide +kernel) (by decide +kernel) (by decide +kernel) (by decide +kernel)
theorem exC_e0 : oneE exC 0 = 0 ∧ oneQ exC 0 = 8 := by decide +kernel
theorem exC_t1 : oneT exC 8 = ⟨2,ZE,0,0,9⟩ := tk_ext (by decide +kernel) (by decide +kernel) (by decide +kernel) (by decide +kernel) (by decide +kernel)
theorem exC_e1 : oneE exC 8 = 0 ∧ oneQ exC 8 = 10 := by decide +kernel
theorem exC_t2 : oneT exC 10 = ⟨4,Zk,0,0,10⟩ := tk_ext (by decide +kernel) (by decide +kernel) (by decide +kernel) (by decide +kernel) (by decide +kernel)
theorem exC_e2 : oneE exC 10 = 0 ∧ oneQ exC 10 = 11 := by decide +kernel
theorem exC_t3 : oneT exC 11 = ⟨1,ZB,0,0,11⟩ := tk_ext (by decide +kernel) (by decide +kernel) (by decide +kernel) (by decide +kernel) (by decide +kernel)
theorem exC_e3 : oneE exC 11 = 0 ∧ oneQ exC 11 = 16 := by decide +kernel
theorem exC_t4 : oneT exC 16 = ⟨2,⟨#[97]⟩,0,0,17⟩ := tk_ext (by decide +kernel) (by decide +kernel) (by decide +kernel) (by decide +kernel) (by decide +kernel)
theorem exC_e4 : oneE exC 16 = 0 ∧ oneQ exC 16 = 18 := by decide +kernel
theorem exC_t5 : oneT exC 18 = ⟨4,Zk,0,0,18⟩ := tk_ext (by decide +kernel) (by decide +kernel) (by decide +kernel) (by decide +kernel) (by decide +kernel)
theorem exC_e5 : oneE exC 18 = 0 ∧ oneQ exC 18 = 19 := by decide +kernel
theorem exC_t6 : oneT exC 19 = ⟨4,Zs,0,0,19⟩ := tk_ext (by decide +kernel) (by decide +kernel) (by decide +kernel) (by decide +kernel) (by decide +kernel)
theorem exC_e6 : oneE exC 19 = 0 ∧ oneQ exC 19 = 20 := by decide +kernel
theorem exC_t7 : oneT exC 20 = ⟨4,Zs,0,0,20⟩ := tk_ext (by decide +kernel) (by decide +kernel) (by decide +kernel) (by decide +kernel) (by decide +kernel)
theorem exC_e7 : oneE exC 20 = 0 ∧ oneQ exC 20 = 21 := by decide +kernel
theorem exC_t8 : oneT exC 21 = ⟨0,⟨#[]⟩,0,0,21⟩ := tk_ext (by decide +kernel) (by decide +kernel) (by decide +kernel) (by decide +kernel) (by decide +kernel)
theorem exC_e8 : oneE exC 21 = 0 := by decide +kernel
theorem exC_beg : begO exC 0 = ([⟨1,ZF,0,0,0⟩,⟨2,ZE,0,0,9⟩,⟨4,Zk,0,0,10⟩,⟨1,ZB,0,0,11⟩,⟨2,⟨#[97]⟩,0,0,17⟩,⟨4,Zk,0,0,18⟩,⟨4,Zs,0,0,19⟩,⟨4,Zs,0,0,20⟩,⟨0,⟨#[]⟩,0,0,21⟩],0,0) := by
 rw [beg_on (by decide) exC_e0.1 (by rw [exC_t0]; decide) exC_e0.2,beg_on (by decide) exC_e1.1 (by rw [exC_t1]; decide) exC_e1.2,beg_on (by decide) exC_e2.1 (by rw [exC_t2]; decide) exC_e2.2,beg_on (by decide) exC_e3.1 (by rw [exC_t3]; decide) exC_e3.2,beg_on (by decide) exC_e4.1 (by rw [exC_t4]; decide) exC_e4.2,beg_on (by decide) exC_e5.1 (by rw [exC_t5]; decide) exC_e5.2,beg_on (by decide) exC_e6.1 (by rw [exC_t6]; decide) exC_e6.2,beg_on (by decide) exC_e7.1 (by rw [exC_t7]; decide) exC_e7.2,beg_end exC_e8 (by rw [exC_t8]),exC_t0,exC_t1,exC_t2,exC_t3,exC_t4,exC_t5,exC_t6,exC_t7,exC_t8]
theorem exC_tks : tksE exC = 0 ∧ rdT exC = [⟨1,ZF,0,0,0⟩,⟨2,ZE,0,0,9⟩,⟨4,Zk,0,0,10⟩,⟨1,ZB,0,0,11⟩,⟨2,⟨#[97]⟩,0,0,17⟩,⟨4,Zk,0,0,18⟩,⟨4,Zs,0,0,19⟩,⟨4,Zs,0,0,20⟩,⟨0,⟨#[]⟩,0,0,21⟩] := by
 obtain ⟨a,b,_⟩ := tks_short (s := exC) (by decide) exC_beg
 obtain ⟨b1,b2⟩ := b rfl
 refine ⟨a,?_⟩
 unfold rdT
 rw [if_pos a,b2]
def exD : ByteArray := ZP
theorem exD_t0 : oneT exD 0 = ⟨1,ZF,0,0,0⟩ := tk_ext (by decide +kernel) (by decide +kernel) (by decide +kernel) (by decide +kernel) (by decide +kernel)
theorem exD_e0 : oneE exD 0 = 0 ∧ oneQ exD 0 = 8 := by decide +kernel
theorem exD_t1 : oneT exD 8 = ⟨2,ZE,0,0,9⟩ := tk_ext (by decide +kernel) (by decide +kernel) (by decide +kernel) (by decide +kernel) (by decide +kernel)
theorem exD_e1 : oneE exD 8 = 0 ∧ oneQ exD 8 = 10 := by decide +kernel
theorem exD_t2 : oneT exD 10 = ⟨4,Zk,0,0,10⟩ := tk_ext (by decide +kernel) (by decide +kernel) (by decide +kernel) (by decide +kernel) (by decide +kernel)
theorem exD_e2 : oneE exD 10 = 0 ∧ oneQ exD 10 = 11 := by decide +kernel
theorem exD_t3 : oneT exD 11 = ⟨4,Zs,0,0,11⟩ := tk_ext (by decide +kernel) (by decide +kernel) (by decide +kernel) (by decide +kernel) (by decide +kernel)
theorem exD_e3 : oneE exD 11 = 0 ∧ oneQ exD 11 = 12 := by decide +kernel
theorem exD_t4 : oneT exD 12 = ⟨0,⟨#[]⟩,0,0,12⟩ := tk_ext (by decide +kernel) (by decide +kernel) (by decide +kernel) (by decide +kernel) (by decide +kernel)
theorem exD_e4 : oneE exD 12 = 0 := by decide +kernel
theorem exD_beg : begO exD 0 = ([⟨1,ZF,0,0,0⟩,⟨2,ZE,0,0,9⟩,⟨4,Zk,0,0,10⟩,⟨4,Zs,0,0,11⟩,⟨0,⟨#[]⟩,0,0,12⟩],0,0) := by
 rw [beg_on (by decide) exD_e0.1 (by rw [exD_t0]; decide) exD_e0.2,beg_on (by decide) exD_e1.1 (by rw [exD_t1]; decide) exD_e1.2,beg_on (by decide) exD_e2.1 (by rw [exD_t2]; decide) exD_e2.2,beg_on (by decide) exD_e3.1 (by rw [exD_t3]; decide) exD_e3.2,beg_end exD_e4 (by rw [exD_t4]),exD_t0,exD_t1,exD_t2,exD_t3,exD_t4]
theorem exD_tks : tksE exD = 0 ∧ rdT exD = [⟨1,ZF,0,0,0⟩,⟨2,ZE,0,0,9⟩,⟨4,Zk,0,0,10⟩,⟨4,Zs,0,0,11⟩,⟨0,⟨#[]⟩,0,0,12⟩] := by
 obtain ⟨a,b,_⟩ := tks_short (s := exD) (by decide) exD_beg
 obtain ⟨b1,b2⟩ := b rfl
 refine ⟨a,?_⟩
 unfold rdT
 rw [if_pos a,b2]
theorem exA_whole : gWhole exA = .ok (.mk ⟨6,7,0,0,0,gE,6⟩ [.mk ⟨6,7,0,0,0,gE,2⟩ [(.mk ⟨1,0,1,1,0,gE,0⟩ []),(.mk ⟨1,0,1,2,0,gE,4⟩ [])],(.mk ⟨1,0,1,3,0,gE,8⟩ [])]) := by
 unfold gWhole
 rw [exA_tks.2]
 kernel_rfl
theorem exB_whole : gWhole exB = .error .lex := by
 unfold gWhole
 rw [exB_tks.2.2]
 kernel_rfl
set_option linter.unusedVariables false
theorem exprA (w : World) (ht : Tab w) : Calls zG 16 #[.string ⟨#[49,32,45,32,50,32,45,32,51]⟩] w fun e w' => ∃ B o c,e = .returned (.tuple #[.agg #[zU 6,zU 7,zU 0,zI 0,zU 0,.string ⟨#[]⟩,.slice (some ⟨B,o,none⟩) 2 c,zI 6],.nilIface]) ∧ w'.cell? ⟨B,o + 1,none⟩ = some (zU 7) ∧ w'.cell? ⟨B,o + 7,none⟩ = some (zI 2) ∧ Below w§ w w' := by
 have c := exprS_any exA (by decide) w ht
 rw [exA_whole] at c
 refine c.mono ?_
 rintro e w' ⟨⟨m,rfl,hm,hl,_⟩,hb⟩
 obtain ⟨h,a,c,ks⟩ := m
 simp only [treeOf,Tr.mk.injEq] at hm
 obtain ⟨h1,h2⟩ := hm
 match ks,h2,hl with
 | [],h2,_ => simp [treesOf] at h2
 | [_],h2,_ => simp [treesOf] at h2
 | _ :: _ :: _ :: _,h2,_ => simp [treesOf] at h2
 | [k0,k1],h2,hl =>
  simp only [treesOf,List.cons.injEq] at h2
  obtain ⟨k0h,k0a,k0c,k0k⟩ := k0
  have hh := h2.1
  simp only [treeOf,Tr.mk.injEq] at hh
  obtain ⟨B,o,ea,hat⟩ := hl.kid 0 (by simp [Nd.ks])
  simp only [Nd.a] at ea
  subst ea
  have q1 := hat.c1
  have q7 := hat.c7
  simp only [Nd.ks,List.getElem_cons_zero,Nd.h,hh.1,Nat.zero_mul,Nat.add_zero] at q1 q7
  refine ⟨B,o,c,?_,q1,q7,hb⟩
  simp only [Nd.vals,Nd.h,Nd.a,Nd.c,Nd.ks,hdA,h1,List.length_cons,List.length_nil]
  rfl
theorem ErrAt.er_tok {w : World} {s call : ByteArray} {no p : Int} {F : Nat} (h : ErrAt w s call (.tok no p) F) : Er w (.iface 74 (zP F)) no p := .inr (.inl ⟨F,call,rfl,h⟩)
theorem ErrAt.er_lex {w : World} {s call : ByteArray} {F : Nat} (h : ErrAt w s call .lex F) (hE : tksE s ≠ 0) : Er w (.iface 74 (zP F)) (tksE s) (tksB s) := by
 obtain ⟨fa,fe,h1,h2⟩ := h
 obtain ⟨e1,F',e2,h3⟩ := h2.2 hE
 subst e1 e2
 exact .inr (.inr (.inl ⟨F,call,F',_,_,rfl,h1,h3⟩))
theorem exprB (w : World) (ht : Tab w) : Calls zG 16 #[.string ⟨#[40,49,32,43,32,38]⟩] w fun e w' => ∃ F,e = .returned (.tuple #[.agg zNo,.iface 74 (zP F)]) ∧ Er w' (.iface 74 (zP F)) 111 5 ∧ Below w§ w w' := by
 have c := exprS_any exB (by decide) w ht
 rw [exB_whole] at c
 refine c.mono ?_
 rintro e w' ⟨⟨F,rfl,hE,_⟩,hb⟩
 have := hE.er_lex (by rw [exB_tks.1]; decide)
 rw [exB_tks.1,exB_tks.2.1] at this
 exact ⟨F,rfl,this,hb⟩
theorem stratC (w : World) (ht : Tab w) : Calls zG 10 #[.string ZO] w fun e w' => ∃ g cap,e = .returned (.tuple #[.agg #[.string ZE,.slice none 0 0,.slice none 0 0,.slice (some ⟨g,0,none⟩) 1 cap],.nilIface]) ∧ w'.cell? ⟨g,2,none⟩ = some (zI 11) ∧ Below w§ w w' := by
 refine (stratS_ok exC (by decide) w ht ZE ⟨#[97]⟩ 11 [⟨0,⟨#[]⟩,0,0,21⟩] zK (fun V b G fa fe a c h => ?_)).mono ?_
 ·rw [exC_tks.2] at h
  exact strat_one h rfl rfl rfl rfl rfl rfl rfl rfl
 ·rintro e w' ⟨g,cap,rfl,hr,_,hb⟩
  exact ⟨g,cap,rfl,hr.cell (j := 2) (by decide),hb⟩
theorem stratD (w : World) (ht : Tab w) : Calls zG 10 #[.string ZP] w fun e w' => ∃ F,e = .returned (.tuple #[.agg #[.string ⟨#[]⟩,.slice none 0 0,.slice none 0 0,.slice none 0 0],.iface 74 (zP F)]) ∧ Er w' (.iface 74 (zP F)) 130 11 ∧ Below w§ w w' := by
 refine (stratS_err exD (by decide) w ht (.tok 130 11) (fun V b G fa fe a c h => ?_)).mono ?_
 ·rw [exD_tks.2] at h
  exact strat_none h rfl rfl rfl (by decide) (by decide) (by decide)
 ·rintro e w' ⟨⟨F,rfl,hE,_⟩,hb⟩
  exact ⟨F,rfl,hE.er_tok,hb⟩
theorem keep {w w' : World} {a : Addr} {v : Value} (h : w.cell? a = some v) (hb : Below w§ w w') : w'.cell? a = some v := by
 rw [hb.cell (World.block_lt_of_cell? w a h)]; exact h
structure AW (w : World) (B o c N : Nat) : Prop where
 n7 : w.cell? ⟨N,7,none⟩ = some (zI 6)
 n6 : w.cell? ⟨N,6,none⟩ = some (.slice (some ⟨B,o,none⟩) 2 c)
 k1 : w.cell? ⟨B,o + 1,none⟩ = some (zU 7)
 k7 : w.cell? ⟨B,o + 7,none⟩ = some (zI 2)
theorem AW.on {w w' : World} {B o c N : Nat} (h : AW w B o c N) (hb : Below w§ w w') : AW w' B o c N := ⟨keep h.n7 hb,keep h.n6 hb,keep h.k1 hb,keep h.k7 hb⟩
structure AS (w : World) (g cap M : Nat) : Prop where
 s0 : w.cell? ⟨M,0,none⟩ = some (.string ZE)
 s3 : w.cell? ⟨M,3,none⟩ = some (.slice (some ⟨g,0,none⟩) 1 cap)
 g2 : w.cell? ⟨g,2,none⟩ = some (zI 11)
theorem AS.on {w w' : World} {g cap M : Nat} (h : AS w g cap M) (hb : Below w§ w w') : AS w' g cap M := ⟨keep h.s0 hb,keep h.s3 hb,keep h.g2 hb⟩
set_option maxRecDepth 100000 in
set_option maxHeartbeats 4000000 in
theorem awake_any (w : World) (ht : Tab w) (hg : Ety w) : Calls zG 9 #[] w fun e w' => e = .returned (.bool true) ∧ Below w§ w w' := by
 have c1 := exprA w ht
 have HT : Hid (Tab w ∧ Ety w) := ⟨ht,hg⟩
 clear ht hg
 go_enter Tryz.func9,Tryz.ntmps9
 go_wp2_with fail
 refine c1.mono ?_
 rintro e w1 ⟨B,o,c,rfl,hk1,hk7,hb1⟩
 have hbn := below_new w1 (.cells #[zU 6,zU 7,zU 0,zI 0,zU 0,.string ⟨#[]⟩,.slice (some ⟨B,o,none⟩) 2 c,zI 6] 64)
 have hn := heap_new w1 (.cells #[zU 6,zU 7,zU 0,zI 0,zU 0,.string ⟨#[]⟩,.slice (some ⟨B,o,none⟩) 2 c,zI 6] 64)
 obtain ⟨V1,eV1⟩ : ∃ V,w1.alloc (.cells #[zU 6,zU 7,zU 0,zI 0,zU 0,.string ⟨#[]⟩,.slice (some ⟨B,o,none⟩) 2 c,zI 6] 64) = V := ⟨_,rfl⟩
 rw [eV1] at hbn hn
 have HA1 : Hid (AW V1 B o c w1§) := ⟨cell_of hn 7,cell_of hn 6,keep hk1 hbn,keep hk7 hbn⟩
 have HB1 : Hid (Below w§ w V1) := below2 hb1 hbn
 have HE1 : Hid (_ = V1) := eV1
 have c2 := wrong_nil V1
 have c3 := exprB V1 (HT.out.1.on HB1.out)
 clear c1 hk1 hk7 hb1 hbn hn eV1
 go_wp2_with fail
 rw [HE1.out]
 refine c2.mono ?_
 rintro e w2 ⟨rfl,e2⟩
 obtain rfl := e2.symm
 clear c2
 go_wp2_with fail
 refine c3.mono ?_
 rintro e w3 ⟨F,rfl,hE3,hb3⟩
 have hbn := below_new w3 (.cells zNo 64)
 obtain ⟨V3,eV3⟩ : ∃ V,w3.alloc (.cells zNo 64) = V := ⟨_,rfl⟩
 rw [eV3] at hbn
 have HB3 : Hid (Below w§ w V3) := below2 (below2 HB1.out hb3) hbn
 have HA3 : Hid (AW V3 B o c w1§) := (HA1.out.on hb3).on hbn
 have HE3 : Hid (_ = V3) := eV3
 have c4 := wrong_any (hE3.on hbn) (HT.out.2.on HB3.out)
 clear c3 hE3 hb3 hbn eV3 HE1 HA1 HB1
 go_wp2_with fail
 rw [HE3.out]
 refine c4.mono ?_
 rintro e w4 ⟨rfl,hb4⟩
 have HB4 : Hid (Below w§ w w4) := below2 HB3.out hb4
 have HA4 : Hid (AW w4 B o c w1§) := HA3.out.on hb4
 have c5 := stratC w4 (HT.out.1.on HB4.out)
 clear c4 hb4 HE3 HA3 HB3
 go_wp2_with fail
 refine c5.mono ?_
 rintro e w5 ⟨g,cap,rfl,hg2,hb5⟩
 have hbn := below_new w5 (.cells #[.string ZE,.slice none 0 0,.slice none 0 0,.slice (some ⟨g,0,none⟩) 1 cap] 43)
 have hn := heap_new w5 (.cells #[.string ZE,.slice none 0 0,.slice none 0 0,.slice (some ⟨g,0,none⟩) 1 cap] 43)
 obtain ⟨V5,eV5⟩ : ∃ V,w5.alloc (.cells #[.string ZE,.slice none 0 0,.slice none 0 0,.slice (some ⟨g,0,none⟩) 1 cap] 43) = V := ⟨_,rfl⟩
 rw [eV5] at hbn hn
 have HB5 : Hid (Below w§ w V5) := below2 (below2 HB4.out hb5) hbn
 have HA5 : Hid (AW V5 B o c w1§) := (HA4.out.on hb5).on hbn
 have HS5 : Hid (AS V5 g cap w5§) := ⟨cell_of hn 0,cell_of hn 3,keep hg2 hbn⟩
 have HE5 : Hid (_ = V5) := eV5
 have c6 := stratD V5 (HT.out.1.on HB5.out)
 clear c5 hg2 hb5 hbn hn eV5 HA4 HB4
 go_wp2_with fail
 rw [HE5.out]
 refine c6.mono ?_
 rintro e w6 ⟨F2,rfl,hE6,hb6⟩
 have hbn := below_new w6 (.cells #[.string ⟨#[]⟩,.slice none 0 0,.slice none 0 0,.slice none 0 0] 43)
 obtain ⟨V6,eV6⟩ : ∃ V,w6.alloc (.cells #[.string ⟨#[]⟩,.slice none 0 0,.slice none 0 0,.slice none 0 0] 43) = V := ⟨_,rfl⟩
 rw [eV6] at hbn
 have HB6 : Hid (Below w§ w V6) := below2 (below2 HB5.out hb6) hbn
 have HA6 : Hid (AW V6 B o c w1§) := (HA5.out.on hb6).on hbn
 have HS6 : Hid (AS V6 g cap w5§) := (HS5.out.on hb6).on hbn
 have HE6 : Hid (_ = V6) := eV6
 have c7 := wrong_any (hE6.on hbn) (HT.out.2.on HB6.out)
 clear c6 hE6 hb6 hbn eV6 HE5 HA5 HB5 HS5
 go_wp2_with fail
 rw [HE6.out]
 refine c7.mono ?_
 rintro e w7 ⟨rfl,hb7⟩
 have HB7 : Hid (Below w§ w w7) := below2 HB6.out hb7
 obtain ⟨n7,n6,k1,k7⟩ := HA6.out.on hb7
 obtain ⟨s0,s3,g2⟩ := HS6.out.on hb7
 clear c7 hb7 HE6 HA6 HS6 HB6
 go_wp2_with fail
 go_ret
 exact ⟨rfl,HB7.out⟩
set_option linter.unusedSimpArgs false
theorem sizeN : (Tryz.prog.info? 64).map (·.size) = some 8 := by kernel_rfl
theorem sizeF : (Tryz.prog.info? 50).map (·.size) = some 3 := by kernel_rfl
theorem allN (m : Nd) : m.vals.all (·.oneCell') = true := by simp [Nd.vals,hdA,Value.oneCell']
theorem setRow_else (V : World) (N : Nat) (cs : Array Value) {k : Nat} (h : k ≠ N) : (V.setRow N cs).heap[k]? = V.heap[k]? := setRow_other _ _ _ _ h
theorem belowR {w V : World} (h : Below w§ w V) {R : Nat} (hR : w§ ≤ R) (cs : Array Value) : Below w§ w (V.setRow R cs) := by
 have m : Mv w V (fun _ => False) := Mv.ofBelow h
 have hsz : (V.setRow R cs)§ = V§ := by unfold World.setRow; simp
 have m2 : Mv w (V.setRow R cs) (fun _ => False) := ⟨m.os,m.tape,m.output,by rw [hsz]; exact m.size,fun k hk hn' => by
  rw [setRow_else _ _ _ (show k ≠ R by omega)]
  exact m.block k hk hn'⟩
 exact m2.below (Nat.le_refl _) (fun _ e => e.elim)
def fl0 : Array Value := #[zI 0,zI 0,.bool false]
set_option maxRecDepth 100000 in
set_option maxHeartbeats 8000000 in
theorem exprs13 (b c : ByteArray) (w : World) (htb : Tab w) (hg : Ety w) : Calls zG 4 #[.string b,.string c] w fun e w' => e = .returned (.bool true) ∧ Below w§ w w' := by
 have HT : Hid (Tab w ∧ Ety w) := ⟨htb,hg⟩
 have cA := awake_any w htb hg
 clear htb hg
 go_enter Tryz.func4,Tryz.ntmps4
 go_wp2_with fail
 refine cA.mono ?_
 rintro e w0 ⟨rfl,hb0⟩
 have HB0 : Hid (Below w§ w w0) := hb0
 clear cA hb0
 by_cases hB : 1048576 < b.size
 ·have hB' : (1048576 : Int) < (b.size : Int) := by omega
  go_wp2
  go_ret
  exact ⟨rfl,HB0.out⟩
 by_cases hC : 1048576 < c.size
 ·have hB' : ¬ (1048576 : Int) < (b.size : Int) := by omega
  have hC' : (1048576 : Int) < (c.size : Int) := by omega
  go_wp2
  go_ret
  exact ⟨rfl,HB0.out⟩
 have hB' : ¬ (1048576 : Int) < (b.size : Int) := by omega
 have hC' : ¬ (1048576 : Int) < (c.size : Int) := by omega
 have HX : Hid (∀ i,(X3 b c i).size ≤ 4194304) := fun i => by unfold X3; split <;> omega
 have e2 := below2 (below_new w0 (.cells (trN (.slice none 0 0)) 37)) (below_new (w0.alloc (.cells (trN (.slice none 0 0)) 37)) (.cells #[.string b,.string c,.string b] 9))
 have n1 : ((w0.alloc (.cells (trN (.slice none 0 0)) 37)).alloc (.cells #[.string b,.string c,.string b] 9)).heap[w0§]? = some (.cells (trN (.slice none 0 0)) 37 (0,0)) := heap_old (heap_new _ _) (by rw [size_alloc]; omega)
 have n2 : ((w0.alloc (.cells (trN (.slice none 0 0)) 37)).alloc (.cells #[.string b,.string c,.string b] 9)).heap[w0§ + 1]? = some (.cells #[.string b,.string c,.string b] 9 (0,0)) := by rw [← size_alloc w0 (.cells (trN (.slice none 0 0)) 37)]; exact heap_new _ _
 have HI0 : Hid (BI w w0 w0§ (w0§ + 1) b c 0 ((w0.alloc (.cells (trN (.slice none 0 0)) 37)).alloc (.cells #[.string b,.string c,.string b] 9))) := BI.start HB0.out.size e2 n1 n2 (Nat.le_refl _) (by omega) (by omega)
 clear e2 n1 n2
 unfold trN at HI0
 go_wp2
 go_loopw [8] (fun xx wr => ∃ i : Nat,i ≤ 3 ∧ xx = zI i ∧ BI w w0 w0§ (w0§ + 1) b c i wr) (fun xx _ => 3 - (intOf xx).toNat)
 case atStart => exact ⟨0,by omega,rfl,HI0.out⟩
 case round =>
  obtain ⟨i,hi3,rfl,hp⟩ := hrel
  clear HI0
  have HI := hp.hid
  by_cases hi : i < 3
  ·have hi' : (i : Int) < 3 := by omega
   have hcell := X3_cell hp.box hi
   obtain ⟨s,hs⟩ : ∃ s,X3 b c i = s := ⟨_,rfl⟩
   rw [hs] at hcell
   have HSZ : Hid (s.size ≤ 4194304) := by have := HX.out i; rw [hs] at this; exact this
   have HS : Hid (X3 b c i = s) := hs
   have HBw : Hid (Below w§ w wr) := HB0.out.trans (hp.below.mono HB0.out.size)
   have cP := exprP s HSZ.out wr (HT.out.1.on HBw.out)
   have HLB : Hid (wr.heap[w0§ + 1]? = some (.cells #[.string b,.string c,.string b] 9 (0,0))) := hp.box
   clear hp hs
   go_wp2_with fail
   refine cP.mono ?_
   rintro e w3 ⟨m,v,rfl,htr,hlo,hbk,her,hv1,hb3⟩
   have HTR : Hid (treeOf m = tT s) := htr
   have HZ3 : Hid ((w3.alloc (.cells nul8 64)).heap[w3§]? = some (.cells nul8 64 (0,0))) := heap_new _ _
   have hb4 : Below w3§ w3 ((w3.alloc (.cells nul8 64)).setRow w3§ m.vals) := belowR (below_new _ _) (Nat.le_refl _) _
   have HB4 : Hid (Below wr§ wr ((w3.alloc (.cells nul8 64)).setRow w3§ m.vals)) := below2 hb3 hb4
   have HL4 : Hid (LiesO ((w3.alloc (.cells nul8 64)).setRow w3§ m.vals) m ∧ ErO ((w3.alloc (.cells nul8 64)).setRow w3§ m.vals) s v) := ⟨hlo.on hb4,her.on hb4⟩
   have HK4 : Hid (Bkn (fun k => wr§ ≤ k ∧ k < ((w3.alloc (.cells nul8 64)).setRow w3§ m.vals)§) m) := hbk.mono fun k hk => ⟨hk.1,Nat.lt_of_lt_of_le hk.2 hb4.size⟩
   have HN4 : Hid (((w3.alloc (.cells nul8 64)).setRow w3§ m.vals).heap[w3§]? = some (.cells m.vals 64 (0,0))) := setRow_heap _ _ _ _ _ _ HZ3.out
   clear cP htr hlo hbk her hb3 hb4 hcell
   go_upto_region 10 with (refine wpList_store_row rfl 64 (.tmp 9) (.tmp 46) rfl w3§ m.vals rfl rfl 64 nul8 HZ3.out sizeN rfl (allN m) ?_)
   rw [show (w3.alloc (.cells zNo 64)) = w3.alloc (.cells nul8 64) from rfl]
   generalize World.setRow _ _ _ = W4 at HB4 HL4 HK4 HN4 ⊢
   generalize w3§ = G4 at HN4 ⊢
   clear HZ3
   have hcell : W4.cell? ⟨w0§ + 1,i,none⟩ = some (.string s) := by
    have h1 := (HB4.out.block _ (Array.getElem?_eq_some_iff.1 HLB.out).1).trans HLB.out
    have := X3_cell h1 hi
    rw [HS.out] at this
    exact this
   obtain ⟨⟨E,P,T⟩,hF⟩ : ∃ x,tF s = x := ⟨_,rfl⟩
   have cD := exprD s W4
   rw [hF] at cD
   simp only at cD
   have HF : Hid (tF s = (E,P,T)) := hF
   clear hF
   go_wp2_with fail
   refine cD.mono ?_
   rintro e w5 ⟨k,rfl,htk,hlk,hne,hb5⟩
   have HNE : Hid (Tne s) := hne
   have HTK : Hid (treeOf m = treeOf k) := HTR.out.trans htk.symm
   have n1 := heap_new w5 (.cells nul8 64)
   have s1 := size_alloc w5 (.cells nul8 64)
   have b2 := below_new (w5.alloc (.cells nul8 64)) (.cells fl0 50)
   have n2 := heap_new (w5.alloc (.cells nul8 64)) (.cells fl0 50)
   rw [s1] at n2
   have HZ1 : Hid (((w5.alloc (.cells nul8 64)).alloc (.cells fl0 50)).heap[w5§]? = some (.cells nul8 64 (0,0))) := (b2.block _ (by omega)).trans n1
   have HZ2 : Hid ((((w5.alloc (.cells nul8 64)).alloc (.cells fl0 50)).setRow w5§ k.vals).heap[w5§ + 1]? = some (.cells fl0 50 (0,0))) := (setRow_else _ _ _ (by omega)).trans n2
   have hb6 : Below w5§ w5 ((((w5.alloc (.cells nul8 64)).alloc (.cells fl0 50)).setRow w5§ k.vals).setRow (w5§ + 1) #[zI E,zI P,.bool T]) := belowR (belowR (below2 (below_new _ _) b2) (Nat.le_refl _) _) (by omega) _
   have HK6 : Hid (((((w5.alloc (.cells nul8 64)).alloc (.cells fl0 50)).setRow w5§ k.vals).setRow (w5§ + 1) #[zI E,zI P,.bool T]).heap[w5§]? = some (.cells k.vals 64 (0,0))) := (setRow_else _ _ _ (by omega)).trans (setRow_heap _ _ _ _ _ _ HZ1.out)
   have HN6 : Hid (((((w5.alloc (.cells nul8 64)).alloc (.cells fl0 50)).setRow w5§ k.vals).setRow (w5§ + 1) #[zI E,zI P,.bool T]).heap[w5§ + 1]? = some (.cells #[zI E,zI P,.bool T] 50 (0,0))) := setRow_heap _ _ _ _ _ _ HZ2.out
   have h46 := below2 hb5 hb6
   have HB6 : Hid (Below wr§ wr ((((w5.alloc (.cells nul8 64)).alloc (.cells fl0 50)).setRow w5§ k.vals).setRow (w5§ + 1) #[zI E,zI P,.bool T])) := below2 HB4.out h46
   have HL6 : Hid (LiesO ((((w5.alloc (.cells nul8 64)).alloc (.cells fl0 50)).setRow w5§ k.vals).setRow (w5§ + 1) #[zI E,zI P,.bool T]) m ∧ ErO ((((w5.alloc (.cells nul8 64)).alloc (.cells fl0 50)).setRow w5§ k.vals).setRow (w5§ + 1) #[zI E,zI P,.bool T]) s v ∧ Lies ((((w5.alloc (.cells nul8 64)).alloc (.cells fl0 50)).setRow w5§ k.vals).setRow (w5§ + 1) #[zI E,zI P,.bool T]) k) := ⟨HL4.out.1.on h46,HL4.out.2.on h46,hlk.on hb6⟩
   have HM6 : Hid (((((w5.alloc (.cells nul8 64)).alloc (.cells fl0 50)).setRow w5§ k.vals).setRow (w5§ + 1) #[zI E,zI P,.bool T]).heap[G4]? = some (.cells m.vals 64 (0,0)) ∧ Bkn (fun j => wr§ ≤ j ∧ j < ((((w5.alloc (.cells nul8 64)).alloc (.cells fl0 50)).setRow w5§ k.vals).setRow (w5§ + 1) #[zI E,zI P,.bool T])§) m) := ⟨(h46.block _ (Array.getElem?_eq_some_iff.1 HN4.out).1).trans HN4.out,HK4.out.mono fun j hj => ⟨hj.1,Nat.lt_of_lt_of_le hj.2 h46.size⟩⟩
   clear cD htk hlk hne hb5 n1 s1 b2 n2 hb6 h46 hcell HB4 HL4 HK4 HN4
   go_upto_region 11 with (first | (refine wpList_store_row rfl 64 (.tmp 11) (.tmp 54) rfl w5§ k.vals rfl rfl 64 nul8 HZ1.out sizeN rfl (allN k) ?_) | (refine wpList_store_row rfl 50 (.tmp 12) (.tmp 55) rfl (w5§ + 1) #[zI E,zI P,.bool T] rfl rfl 50 fl0 HZ2.out sizeF rfl (by simp [Value.oneCell']) ?_))
   rw [show ((w5.alloc (.cells zNo 64)).alloc (.cells #[zI 0,zI 0,.bool false] 50)) = (w5.alloc (.cells nul8 64)).alloc (.cells fl0 50) from rfl]
   generalize World.setRow _ _ _ = W6 at HB6 HL6 HM6 HN6 HK6 ⊢
   generalize w5§ = G6 at HN6 HK6 ⊢
   clear HZ1 HZ2
   have cW := wrongO HL6.out.2.1 HNE.out (HT.out.2.on (below2 HBw.out HB6.out))
   rw [HF.out] at cW
   simp only at cW
   go_upto_region 12 with (go_at_call 12; refine cW.mono ?_)
   rintro e w7 ⟨rfl,hb7⟩
   have HB7 : Hid (Below wr§ wr w7) := below2 HB6.out hb7
   have HL7 : Hid (LiesO w7 m ∧ Lies w7 k) := ⟨HL6.out.1.on hb7,HL6.out.2.2.on hb7⟩
   have HM7 : Hid (w7.heap[G4]? = some (.cells m.vals 64 (0,0)) ∧ Bkn (fun j => wr§ ≤ j ∧ j < w7§) m) := ⟨(hb7.block _ (Array.getElem?_eq_some_iff.1 HM6.out.1).1).trans HM6.out.1,HM6.out.2.mono fun j hj => ⟨hj.1,Nat.lt_of_lt_of_le hj.2 hb7.size⟩⟩
   have HN7 : Hid (w7.heap[G6 + 1]? = some (.cells #[zI E,zI P,.bool T] 50 (0,0)) ∧ w7.heap[G6]? = some (.cells k.vals 64 (0,0))) := ⟨(hb7.block _ (Array.getElem?_eq_some_iff.1 HN6.out).1).trans HN6.out,(hb7.block _ (Array.getElem?_eq_some_iff.1 HK6.out).1).trans HK6.out⟩
   have HEV : Hid ((v = .nilIface ∧ E = 0) ∨ ∃ F,v = .iface 74 (zP F) ∧ E ≠ 0) := by
    have := nilO HL6.out.2.1 HNE.out
    rw [HF.out] at this
    exact this
   clear cW hb7 HB6 HL6 HM6 HN6 HK6
   have cS := sameO HL7.out.1.lies HL7.out.2 HTK.out
   go_upto_region 13 with (first | (refine wpList_load_row rfl 64 (.tmp 9) rfl G4 rfl 64 m.vals (0,0) _ HM7.out.1 Tryz.underlying64 rfl sizeN ?_) | (refine wpList_load_row rfl 64 (.tmp 11) rfl G6 rfl 64 k.vals (0,0) _ HN7.out.2 Tryz.underlying64 rfl sizeN ?_) | (go_at_call 18; refine cS.mono ?_; rintro e w8 ⟨rfl,hb8⟩))
   have HB8 : Hid (Below wr§ wr w8) := below2 HB7.out hb8
   have HM8 : Hid (w8.heap[G4]? = some (.cells m.vals 64 (0,0))) := (hb8.block _ (Array.getElem?_eq_some_iff.1 HM7.out.1).1).trans HM7.out.1
   have hN8 : w8.heap[G6 + 1]? = some (.cells #[zI E,zI P,.bool T] 50 (0,0)) := (hb8.block _ (Array.getElem?_eq_some_iff.1 HN7.out.1).1).trans HN7.out.1
   have f0 : w8.cell? ⟨G6 + 1,0,none⟩ = some (zI E) := cell_of hN8 0
   have f1 : w8.cell? ⟨G6 + 1,1,none⟩ = some (zI P) := cell_of hN8 1
   have cT := HI.out.next (m := m) hi HB0.out.size HB8.out (HL7.out.1.on hb8) (HM7.out.2.mono fun j hj => ⟨hj.1,Nat.lt_of_lt_of_le hj.2 hb8.size⟩) (tT_size s m HTR.out)
   have hEE : (E != E) = false := by simp
   have hPP : (P != P) = false := by simp
   clear cS hb8 hN8 HB7 HL7 HM7 HN7
   rcases HEV.out with ⟨rfl,rfl⟩ | ⟨F,rfl,hE0⟩
   ·clear HEV
    go_wp2_with (refine wpList_load_row rfl 64 (.tmp 9) rfl G4 rfl 64 m.vals (0,0) _ HM8.out Tryz.underlying64 rfl sizeN ?_)
    refine cT.mono ?_
    rintro e w9 ⟨⟨r,rfl⟩,hI9⟩
    have HI9 := hI9.hid
    clear cT hI9
    go_wp2
    exact ⟨⟨i + 1,by omega,by go_num,HI9.out⟩,by simp only [intOf]; omega⟩
   ·clear HEV
    go_wp2_with (refine wpList_load_row rfl 64 (.tmp 9) rfl G4 rfl 64 m.vals (0,0) _ HM8.out Tryz.underlying64 rfl sizeN ?_)
    refine cT.mono ?_
    rintro e w9 ⟨⟨r,rfl⟩,hI9⟩
    have HI9 := hI9.hid
    clear cT hI9
    go_wp2
    exact ⟨⟨i + 1,by omega,by go_num,HI9.out⟩,by simp only [intOf]; omega⟩
  ·obtain rfl : i = 3 := by omega
   have cO := HI.out.own (HB0.out.trans (HI.out.below.mono HB0.out.size))
   clear hp
   go_wp2_with fail
   refine cO.mono ?_
   rintro e w8 ⟨rfl,hb8⟩
   go_wp2
   go_ret
   exact ⟨rfl,hb8⟩
end Go.Proofs.YtkfabnchhjfjjaaGreatDoor
