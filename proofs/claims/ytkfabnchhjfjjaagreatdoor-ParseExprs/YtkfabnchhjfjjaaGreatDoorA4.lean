import Derived.Test.YtkfabnchhjfjjaaGreatDoorA0
import Derived.Test.YtkfabnchhjfjjaaGreatDoorA3
import Derived.RangeFuncNested
import Derived.RangeFuncBound
import Derived.RangeFuncCalls
import Derived.RangeFuncLeaves
import Derived.Shelf.Abstract
import Derived.Shelf.RegionOpen
import Derived.OwnWalkIn
import Derived.TacticsInMore
import Derived.LoopNIn
import Derived.LoopIn
import Derived.Test.YtkfabnchhjfjjaaGreatDoorA2
import Derived.Test.YtkfabnchhjfjjaaGreatDoorA1
namespace Go.Proofs.YtkfabnchhjfjjaaGreatDoor
open Go.RowKit
theorem tks_short' {s : ByteArray} (h : ¬ s.size > 4096) : tksE s = (begO s 0).2.1 ∧ (tksE s = 0 → tksL s = (begO s 0).1) ∧ (tksE s ≠ 0 → tksB s = (begO s 0).2.2) := by
 obtain ⟨a,b,c⟩ := tks_short h (show begO s 0 = ((begO s 0).1,(begO s 0).2.1,(begO s 0).2.2) from rfl)
 exact ⟨a,fun e => (b (a ▸ e)).2,fun e => (c (a ▸ e)).1⟩
theorem tks_len {s : ByteArray} (h : tksE s = 0) : 0 < (tksL s).length ∧ (tksL s).length ≤ 4097 ∧ s.size ≤ 4096 ∧ Chain s 0 (tksL s) := by
 have hs : ¬ s.size > 4096 := fun hl => by rw [(tks_long hl).1] at h; exact absurd h (by decide)
 obtain ⟨a1,a2,_⟩ := tks_short' hs
 have hc := (beg_chain (s := s) s.size 0 (by omega) (by omega) (by rw [← a1]; exact h)).1
 rw [← a2 h] at hc
 have hle : ∀ (f : Nat) (L : List Tk),Chain s f L → L.length ≤ s.size - f + 1 := by
  intro f L hc
  induction hc with
  | fin f h1 h2 => simp
  | more f p t L hg hp h1 h2 h3 h4 h5 ih => have := hg.ne; simp only [List.length_cons]; omega
 have := hle _ _ hc
 exact ⟨hc.len,by omega,by omega,hc⟩
theorem lsF_mem {L : List Tk} {i : Nat} (h : i < L.length) : lsF L i ∈ L := by
 unfold lsF
 rw [List.getD_eq_getElem?_getD,List.getElem?_eq_getElem h]
 exact List.getElem_mem h
def allF (s : ByteArray) (f : Nat) : List Tk := if (begO s f).2.1 = 0 then (begO s f).1.dropLast else (begO s f).1
def allL (s : ByteArray) : List Tk := if s.size > 4096 then [] else allF s 0
theorem all_bad {s : ByteArray} {f : Nat} (h : oneE s f ≠ 0) : allF s f = [] := by unfold allF; rw [beg_bad h]; simp [h]
theorem all_end {s : ByteArray} {f : Nat} (h : oneE s f = 0) (hk : (oneT s f).k = 0) : allF s f = [] := by unfold allF; rw [beg_end h hk]; simp
theorem all_more {s : ByteArray} {f : Nat} (hf : f ≤ s.size) (h : oneE s f = 0) (hk : ¬ (oneT s f).k = 0) : f < oneQ s f ∧ oneQ s f ≤ s.size ∧ (oneT s f).p + ((oneT s f).x.size : Int) = (oneQ s f : Nat) ∧ allF s f = oneT s f :: allF s (oneQ s f) := by
 obtain ⟨b1,b2,b3,b4⟩ := beg_more hf h hk
 refine ⟨b1,b2,b3,?_⟩
 unfold allF
 rw [b4]
 simp only
 by_cases e : (begO s (oneQ s f)).2.1 = 0
 ·rw [if_pos e,if_pos e]
  have hl := (beg_chain _ _ (Nat.le_refl _) b2 e).1.len
  rw [List.dropLast_cons_of_ne_nil (List.length_pos_iff.1 hl)]
 ·rw [if_neg e,if_neg e]
theorem beg_kinds {s : ByteArray} : ∀ (d f : Nat),s.size - f ≤ d → f ≤ s.size → (begO s f).2.1 ≠ 0 → ∀ t ∈ (begO s f).1,t.k ≠ 0 := by
 intro d
 induction d with
 | zero =>
  intro f hd hf h t ht
  by_cases hE : oneE s f = 0
  ·by_cases hk : (oneT s f).k = 0
   ·rw [beg_end hE hk] at h; exact absurd rfl h
   ·have := beg_more hf hE hk; omega
  ·rw [beg_bad hE] at ht; simp at ht
 | succ d ih =>
  intro f hd hf h t ht
  by_cases hE : oneE s f = 0
  ·by_cases hk : (oneT s f).k = 0
   ·rw [beg_end hE hk] at h; exact absurd rfl h
   ·obtain ⟨b1,b2,_,b4⟩ := beg_more hf hE hk
    rw [b4] at h ht
    rw [List.mem_cons] at ht
    rcases ht with rfl | ht
    ·exact hk
    ·exact ih _ (by omega) b2 h t ht
  ·rw [beg_bad hE] at ht; simp at ht
theorem all_want (s : ByteArray) : ((begO s 0).1 = [] ∧ allF s 0 = []) ∨ (0 < (begO s 0).1.length ∧ (lsF (begO s 0).1 ((begO s 0).1.length - 1)).k = 0 ∧ allF s 0 = (begO s 0).1.dropLast) ∨ (0 < (begO s 0).1.length ∧ (lsF (begO s 0).1 ((begO s 0).1.length - 1)).k ≠ 0 ∧ allF s 0 = (begO s 0).1) := by
 by_cases e : (begO s 0).2.1 = 0
 ·have hc := (beg_chain (s := s) s.size 0 (by omega) (by omega) e).1
  refine .inr (.inl ⟨hc.len,?_,by unfold allF; rw [if_pos e]⟩)
  obtain ⟨K,hK⟩ := last_end hc
  rw [hK]
  unfold lsF
  simp
 ·by_cases hl : (begO s 0).1 = []
  ·exact .inl ⟨hl,by unfold allF; rw [if_neg e,hl]⟩
  ·have hp := List.length_pos_iff.2 hl
   refine .inr (.inr ⟨hp,beg_kinds _ 0 (Nat.le_refl _) (by omega) e _ (lsF_mem (by omega)),by unfold allF; rw [if_neg e]⟩)
theorem beg_len {s : ByteArray} : ∀ (d f : Nat),s.size - f ≤ d → f ≤ s.size → (begO s f).1.length ≤ s.size - f + 1 := by
 intro d
 induction d with
 | zero =>
  intro f hd hf
  by_cases hE : oneE s f = 0
  ·by_cases hk : (oneT s f).k = 0
   ·rw [beg_end hE hk]; simp
   ·have := beg_more hf hE hk; omega
  ·rw [beg_bad hE]; simp
 | succ d ih =>
  intro f hd hf
  by_cases hE : oneE s f = 0
  ·by_cases hk : (oneT s f).k = 0
   ·rw [beg_end hE hk]; simp
   ·obtain ⟨b1,b2,_,b4⟩ := beg_more hf hE hk
    rw [b4]
    have := ih _ (by omega) b2
    simp only [List.length_cons]
    omega
  ·rw [beg_bad hE]; simp
theorem allL_len (s : ByteArray) : (allL s).length ≤ s.size := by
 unfold allL
 split
 ·simp
 ·have h := beg_len (s := s) s.size 0 (by omega) (by omega)
  rcases all_want s with ⟨h1,h2⟩ | ⟨h1,h2,h3⟩ | ⟨h1,h2,h3⟩
  ·rw [h2]; simp
  ·rw [h3,List.length_dropLast]; omega
  ·rw [h3]
   by_cases e : (begO s 0).2.1 = 0
   ·exfalso
    have hc := (beg_chain (s := s) s.size 0 (by omega) (by omega) e).1
    obtain ⟨K,hK⟩ := last_end hc
    rw [hK] at h2
    unfold lsF at h2
    simp at h2
   ·have hb : ∀ (d f : Nat),s.size - f ≤ d → f ≤ s.size → (begO s f).2.1 ≠ 0 → (begO s f).1.length ≤ s.size - f := by
     intro d
     induction d with
     | zero =>
      intro f hd hf he
      by_cases hE : oneE s f = 0
      ·by_cases hk : (oneT s f).k = 0
       ·rw [beg_end hE hk] at he; exact absurd rfl he
       ·have := beg_more hf hE hk; omega
      ·rw [beg_bad hE]; simp
     | succ d ih =>
      intro f hd hf he
      by_cases hE : oneE s f = 0
      ·by_cases hk : (oneT s f).k = 0
       ·rw [beg_end hE hk] at he; exact absurd rfl he
       ·obtain ⟨b1,b2,_,b4⟩ := beg_more hf hE hk
        rw [b4] at he ⊢
        have := ih _ (by omega) b2 he
        simp only [List.length_cons]
        omega
      ·rw [beg_bad hE]; simp
    have := hb s.size 0 (by omega) (by omega) e
    omega
structure Mv (w w' : World) (F : Nat → Prop) : Prop where
 os : w'.os = w.os
 tape : w'.tape = w.tape
 output : w'.output = w.output
 size : w§ ≤ w'§
 block : ∀ k,k < w§ → ¬ F k → w'.heap[k]? = w.heap[k]?
theorem Mv.refl (w : World) (F : Nat → Prop) : Mv w w F := ⟨rfl,rfl,rfl,Nat.le_refl _,fun _ _ _ => rfl⟩
theorem Mv.drew {w w' : World} {F : Nat → Prop} (h : Mv w w' F) : Mv w w'.drew F := ⟨h.os,h.tape,h.output,h.size,h.block⟩
theorem Mv.trans {w w' w'' : World} {F F' : Nat → Prop} (h : Mv w w' F) (k : Mv w' w'' F') (hF : ∀ b,F' b → F b ∨ w§ ≤ b) : Mv w w'' F :=
 ⟨k.os.trans h.os,k.tape.trans h.tape,k.output.trans h.output,Nat.le_trans h.size k.size,fun b hb hn =>
  (k.block b (Nat.lt_of_lt_of_le hb h.size) (fun e => (hF b e).elim hn (fun h1 => by omega))).trans (h.block b hb hn)⟩
theorem Mv.mono {w w' : World} {F F' : Nat → Prop} (h : Mv w w' F) (hF : ∀ b,F b → F' b) : Mv w w' F' := ⟨h.os,h.tape,h.output,h.size,fun b hb hn => h.block b hb (fun e => hn (hF b e))⟩
theorem Mv.setCell {w w' : World} {F : Nat → Prop} (h : Mv w w' F) {a : Addr} (ha : F a.block ∨ w§ ≤ a.block) (u : Value) : Mv w (w'.setCell a u) F :=
 h.trans (F' := fun b => b = a.block) ⟨rfl,rfl,rfl,by simp [World.setCell],fun b _ hn => Below.heap_setCell _ _ _ _ hn⟩ (fun b e => by cases e; exact ha)
theorem Mv.alloc {w w' : World} {F : Nat → Prop} (h : Mv w w' F) (o : Obj) : Mv w (w'.alloc o) F :=
 h.trans (F' := fun _ => False) ⟨rfl,rfl,rfl,by simp,fun b hb _ => Below.heap_alloc _ _ _ hb⟩ (fun b e => e.elim)
theorem Mv.grown {w w' w'' : World} {F : Nat → Prop} {row : Option Nat} (h : Mv w w' F) (hg : w'.grownBy w'' row) (hr : ∀ k,row = some k → F k ∨ w§ ≤ k) : Mv w w'' F :=
 h.trans (F' := fun b => some b = row) ⟨hg.os,hg.tape,hg.output,hg.size,fun b hb hn => hg.block b hb hn⟩ (fun b e => hr b e.symm)
theorem Mv.below {w w' : World} {F : Nat → Prop} (h : Mv w w' F) {B : Nat} (hB : B ≤ w§) (hF : ∀ b,F b → B ≤ b) : Below B w w' :=
 ⟨h.os,h.tape,h.output,h.size,fun k hk => h.block k (by omega) (fun e => by have := hF k e; omega)⟩
theorem Mv.row {w w' : World} {F : Nat → Prop} (h : Mv w w' F) {e : TypeId} {s n : Nat} {v : Value} {f : Nat → Value} (hr : Row w e s v n f) (hn : ∀ k,v.ownBlock = some k → ¬ F k) : Row w' e s v n f :=
 hr.of_block (fun k hk => h.block k (hr.lt k hk) (hn k hk))
open Go.Shelf
attribute [local go_sem] Oper.semAt_some
structure Kps (K : Nat → Prop) (W W' : World) : Prop where
 size : W§ ≤ W'§
 block : ∀ k,K k → W'.heap[k]? = W.heap[k]?
theorem Kps.refl (K : Nat → Prop) (W : World) : Kps K W W := ⟨Nat.le_refl _,fun _ _ => rfl⟩
theorem Kps.trans {K : Nat → Prop} {A B C : World} (h : Kps K A B) (k : Kps K B C) : Kps K A C := ⟨Nat.le_trans h.size k.size,fun b hb => (k.block b hb).trans (h.block b hb)⟩
theorem Kps.of_below {K : Nat → Prop} {A B : World} (h : Below A§ A B) (hK : ∀ k,K k → k < A§) : Kps K A B := ⟨h.size,fun k hk => h.block k (hK k hk)⟩
theorem Tab.of0 {w w' : World} (h : Tab w) (h0 : w'.heap[1]? = w.heap[1]?) : Tab w' := by
 unfold Tab World.var? at *
 rw [words_global] at h ⊢
 simp only [Option.bind_some] at h ⊢
 rw [h0]; exact h
theorem Tab.pos {w : World} (h : Tab w) : 1 < w§ := World.block_lt_of_cell? w ⟨1,0,none⟩ (h.cell 0 (by decide))
theorem grown_of_below {A B : World} (h : Below A§ A B) : A.grownBy B none := ⟨h.os,h.tape,h.output,h.size,fun b hb _ => h.block b hb⟩
theorem range_prefix {k n : Nat} (h : k ≤ n) : List.range k <+: List.range n := by
 obtain ⟨m,rfl⟩ : ∃ m,n = k + m := ⟨n - k,by omega⟩
 rw [List.range_add]
 exact List.prefix_append _ _
def encT (L : List Tk) (k : Nat) : Array Value := #[.agg (tkA (lsF L k))]
theorem drop_head {L : List Tk} {k : Nat} {t : Tk} {R : List Tk} (h : L.drop k = t :: R) : k < L.length ∧ lsF L k = t ∧ L.drop (k + 1) = R := by
 have hk : k < L.length := by
  have := congrArg List.length h
  rw [List.length_drop,List.length_cons] at this
  omega
 rw [List.drop_eq_getElem_cons hk] at h
 refine ⟨hk,?_,(List.cons.inj h).2⟩
 unfold lsF
 rw [List.getD_eq_getElem?_getD,List.getElem?_eq_getElem hk]
 exact (List.cons.inj h).1
def allG (s : ByteArray) (f : Nat) : List Tk := if s.size > 4096 then [] else allF s f
set_option maxRecDepth 100000 in
set_option maxHeartbeats 1000000 in
theorem all1_in (n : Nat) (hn : 1 ≤ n) (lo Bs : Nat) (s : ByteArray) (L : List Tk) (hL : L = allL s) (J Jx : List Nat → World → Prop) (W : World) (hJ : AbidesFrom W§ J)
  (hY : ∀ pre x W,J pre W → pre.length < L.length → YieldAt Fence.wide (n - 1) Tryz.prog lo (encT L x) W fun e W' =>
   (e = .returned (.bool true) ∧ J (pre ++ [x]) W' ∧ Kps (fun k => k = 1 ∨ k = Bs) W W') ∨ (e = .returned (.bool false) ∧ Jx (pre ++ [x]) W'))
  (hBs : W.cell? ⟨Bs,0,none⟩ = some (.string s)) (hT : Tab W) (h0 : J [] W) :
  CallsIn Fence.wide n Tryz.prog 127 #[.func (.yield lo) #[] #[],zP Bs] W fun e W' => (∃ v,e = .returned v) ∧
   ((∃ ys,ys = List.range L.length ∧ J ys W') ∨ (∃ pre,pre <+: List.range L.length ∧ Jx pre W')) := by
 have hg : ∀ pre A B,J pre A → Below A§ A B → J pre B := fun pre A B hA hb => hJ pre A B none hA (grown_of_below hb) (fun r e => by cases e)
 have hBl := World.block_lt_of_cell? W _ hBs
 have hG0 : Hid (L.drop 0 = allG s 0) := by show _ = _; rw [hL,List.drop_zero]; rfl
 refine callsIn_of_wp Tryz.func127 rfl trivial ?_ rfl
 simp only [Tryz.ntmps127,List.size_toArray,List.length_cons,List.length_nil,Nat.reduceAdd,Nat.reduceSub,Array.replicate_succ,Array.replicate_zero,List.push_toArray,List.append_toArray,List.nil_append,List.cons_append]
 gi_wp2_with fail
 gi_loopw [3] (fun v wr => ∃ k f : Nat,k ≤ L.length ∧ v = zI f ∧ f ≤ s.size ∧ Hid (L.drop k = allG s f) ∧ J (List.range k) wr ∧ Kps (fun k => k = 1 ∨ k = Bs) W wr) (fun v _ => s.size - (intOf v).toNat)
 case atStart => exact ⟨0,0,by omega,rfl,by omega,hG0,h0,Kps.refl _ _⟩
 case round =>
  obtain ⟨k,f,hk,rfl,hf,HG,hJk,hkp⟩ := hrel
  have hBs' : wr.cell? ⟨Bs,0,none⟩ = some (.string s) := (World.cell?_of_block (hkp.block Bs (.inr rfl))).trans hBs
  have hTr : Tab wr := hT.of0 (hkp.block 1 (.inl rfl))
  have cN := callsIn_wide (n := n - 1) |>.2 (nextp_any s f wr hTr)
  have hKl : ∀ k,(k = 1 ∨ k = Bs) → k < wr§ := fun k hk => by
   rcases hk with e | e
   ·rw [e]; exact hTr.pos
   ·rw [e]; exact Nat.lt_of_lt_of_le hBl hkp.size
  unfold nxV at cN
  obtain ⟨E,eE⟩ : ∃ E,nxE s f = E := ⟨_,rfl⟩
  rw [eE] at cN
  by_cases hE : E = 0
  ·have hs : ¬ s.size > 4096 := fun h => by unfold nxE at eE; rw [if_pos h] at eE; omega
   have hone : oneE s f = 0 := by unfold nxE at eE; rw [if_neg hs,if_neg (by omega)] at eE; rw [← hE,← eE]; rfl
   obtain ⟨T,eT⟩ : ∃ T,oneT s f = T := ⟨_,rfl⟩
   have hnT : nxT s f = T := by unfold nxT; rw [eE,if_pos hE]; exact eT
   have hnQ : nxQ s f = T.p + (T.x.size : Int) := by unfold nxQ; rw [eE,if_pos hE,hnT]
   rw [hnT,hnQ] at cN
   unfold tkA at cN
   subst hE
   by_cases hk0 : T.k = 0
   ·have e0 : (T.k == 0) = true := by simp [hk0]
    have hend : k = L.length := by
     have := HG.out
     unfold allG at this
     rw [if_neg hs,all_end hone (by rw [eT]; exact hk0)] at this
     have := congrArg List.length this
     rw [List.length_drop] at this
     simp at this
     omega
    gi_wp2_with (refine ⟨trivial,?_⟩; gi_at_call 128; refine cN.mono ?_; rintro e w1 ⟨rfl,hb1⟩)
    refine ⟨fun _ h => (by cases h),?_⟩
    gi_wp2
    refine bodyPost_ret (results_none rfl _ _ _) rfl ?_
    exact ⟨⟨_,rfl⟩,.inl ⟨_,rfl,by rw [← hend]; exact hg _ _ _ (hg _ _ _ hJk hb1) (below_new _ _)⟩⟩
   ·have e0 : (T.k == 0) = false := by simp [hk0]
    obtain ⟨q1,q2,q3,q4⟩ := all_more hf hone (by rw [eT]; exact hk0)
    rw [eT] at q3 q4
    obtain ⟨Q,eQ⟩ : ∃ Q,oneQ s f = Q := ⟨_,rfl⟩
    rw [eQ] at q1 q2 q3 q4
    have hdr := HG.out
    unfold allG at hdr
    rw [if_neg hs,q4] at hdr
    obtain ⟨d1,d2,d3⟩ := drop_head hdr
    have HD3 : Hid (L.drop (k + 1) = allG s Q) := by show _ = _; rw [d3]; unfold allG; rw [if_neg hs]
    rw [q3] at cN
    have hYk := hY (List.range k) k
    unfold encT at hYk
    rw [d2] at hYk
    unfold tkA at hYk
    clear hdr HG q4 d3 eT hnT hnQ
    gi_wp2_with (refine ⟨trivial,?_⟩; gi_at_call 128; refine cN.mono ?_; rintro e w1 ⟨rfl,hb1⟩; have hbA := hb1.trans ((below_new w1 (.cells #[zU T.k,.string T.x,zU T.ty,zI T.n,zI T.p] 82)).mono hb1.size); obtain ⟨fn,tmps,asg,body,hy,hRo⟩ := hYk _ (hg _ _ _ hJk hbA) (by simpa using d1))
    refine hRo.mono ?_
    rintro e W3 (⟨rfl,hJ3,hk3⟩ | ⟨rfl,hJx3⟩)
    ·have hkp3 := (hkp.trans (Kps.of_below hbA hKl)).trans hk3
     clear hRo hy hYk
     gi_wp2
     exact ⟨⟨k + 1,Q,d1,rfl,q2,HD3,by rw [List.range_succ]; exact hJ3,hkp3⟩,by simp only [intOf]; omega⟩
    ·clear hRo hy hYk
     gi_wp2
     refine bodyPost_ret (results_none rfl _ _ _) rfl ?_
     exact ⟨⟨_,rfl⟩,.inr ⟨_,by rw [← List.range_succ]; exact range_prefix d1,hJx3⟩⟩
  ·have hE' : (E != 0) = true := by simp [hE]
   have hend : k = L.length := by
    have hnil : allG s f = [] := by
     unfold allG
     by_cases hs : s.size > 4096
     ·rw [if_pos hs]
     ·rw [if_neg hs]
      refine all_bad ?_
      unfold nxE at eE
      rw [if_neg hs,if_neg (by omega)] at eE
      intro h
      apply hE
      rw [← eE]; exact h
    have := congrArg List.length (HG.out.trans hnil)
    rw [List.length_drop] at this
    simp at this
    omega
   obtain ⟨T,eT⟩ : ∃ T,nxT s f = T := ⟨_,rfl⟩
   obtain ⟨Q,eQ⟩ : ∃ Q,nxQ s f = Q := ⟨_,rfl⟩
   rw [eT,eQ] at cN
   unfold tkA at cN
   clear eT eQ
   gi_wp2_with (refine ⟨trivial,?_⟩; gi_at_call 128; refine cN.mono ?_; rintro e w1 ⟨rfl,hb1⟩)
   refine ⟨fun _ h => (by cases h),?_⟩
   gi_wp2
   refine bodyPost_ret (results_none rfl _ _ _) rfl ?_
   exact ⟨⟨_,rfl⟩,.inl ⟨_,rfl,by rw [← hend]; exact hg _ _ _ (hg _ _ _ hJk hb1) (below_new _ _)⟩⟩
theorem all_any (s : ByteArray) (w : World) : Calls zG 103 #[.string s] w fun e w' => e = .returned (.func (.func 127) #[] #[zP w§]) ∧ w' = w.alloc (.cells #[.string s] 9) := by
 go_enter Tryz.func103,Tryz.ntmps103
 go_wp2_with fail
 go_ret
 exact ⟨rfl,rfl⟩
theorem all_stops (n : Nat) (hn : 1 ≤ n) (Bs : Nat) (s : ByteArray) (L : List Tk) (hL : L = allL s) (w : World) (hBs : w.cell? ⟨Bs,0,none⟩ = some (.string s)) (hT : Tab w) :
  SeqStopsK Fence.wide n Tryz.prog 127 #[zP Bs] (encT L) (Kps (fun k => k = 1 ∨ k = Bs)) (fun ys => ys = List.range L.length) (fun pre => pre <+: List.range L.length) L.length w := fun lo J Jx W hW hJ _ hY h0 =>
 all1_in n hn lo Bs s L hL J Jx W hJ hY ((hW.cell (p := ⟨Bs,0,none⟩) (World.block_lt_of_cell? w _ hBs)).trans hBs) (hT.on hW) h0
structure Hd where
 k : Int
 o : Int
 t : Int
 n : Int
 f : Int
 x : ByteArray
 p : Int
inductive Nd where
 | mk (h : Hd) (a : Option Addr) (c : Nat) (ks : List Nd)
namespace Nd
def h : Nd → Hd | .mk h _ _ _ => h
def a : Nd → Option Addr | .mk _ a _ _ => a
def c : Nd → Nat | .mk _ _ c _ => c
def ks : Nd → List Nd | .mk _ _ _ ks => ks
theorem ind {P : Nd → Prop} (H : ∀ h a c ks,(∀ k ∈ ks,P k) → P (.mk h a c ks)) : ∀ m,P m :=
 @Nd.rec P (fun ks => ∀ k ∈ ks,P k) (fun h a c ks ih => H h a c ks ih) (fun _ hk => by cases hk) (fun k ks h1 h2 x hx => by
  rcases List.mem_cons.1 hx with e | e
  ·rw [e]; exact h1
  ·exact h2 x e)
end Nd
def hdA (h : Hd) (a : Option Addr) (l c : Nat) : Array Value := #[zU h.k,zU h.o,zU h.t,zI h.n,zU h.f,.string h.x,.slice a l c,zI h.p]
def Nd.vals (m : Nd) : Array Value := hdA m.h m.a m.ks.length m.c
structure NdAt (w : World) (b o : Nat) (m : Nd) : Prop where
 c0 : w.cell? ⟨b,o,none⟩ = some (zU m.h.k)
 c1 : w.cell? ⟨b,o + 1,none⟩ = some (zU m.h.o)
 c2 : w.cell? ⟨b,o + 2,none⟩ = some (zU m.h.t)
 c3 : w.cell? ⟨b,o + 3,none⟩ = some (zI m.h.n)
 c4 : w.cell? ⟨b,o + 4,none⟩ = some (zU m.h.f)
 c5 : w.cell? ⟨b,o + 5,none⟩ = some (.string m.h.x)
 c6 : w.cell? ⟨b,o + 6,none⟩ = some (.slice m.a m.ks.length m.c)
 c7 : w.cell? ⟨b,o + 7,none⟩ = some (zI m.h.p)
theorem NdAt.lt {w : World} {b o : Nat} {m : Nd} (h : NdAt w b o m) : b < w§ := World.block_lt_of_cell? w _ h.c0
theorem NdAt.blk {w w' : World} {b o : Nat} {m : Nd} (h : NdAt w b o m) (k : w'.heap[b]? = w.heap[b]?) : NdAt w' b o m :=
 ⟨(World.cell?_of_block k).trans h.c0,(World.cell?_of_block k).trans h.c1,(World.cell?_of_block k).trans h.c2,(World.cell?_of_block k).trans h.c3,(World.cell?_of_block k).trans h.c4,(World.cell?_of_block k).trans h.c5,(World.cell?_of_block k).trans h.c6,(World.cell?_of_block k).trans h.c7⟩
theorem NdAt.on {w w' : World} {b o : Nat} {m : Nd} (h : NdAt w b o m) (k : Below w§ w w') : NdAt w' b o m := h.blk (k.block b h.lt)
structure Rg (h : Hd) : Prop where
 k0 : 0 ≤ h.k
 k1 : h.k ≤ 255
 o0 : 0 ≤ h.o
 o1 : h.o ≤ 255
 t0 : 0 ≤ h.t
 t1 : h.t ≤ 255
 n0 : -9223372036854775808 ≤ h.n
 n1 : h.n ≤ 9223372036854775807
 f0 : 0 ≤ h.f
 f1 : h.f ≤ 255
 p0 : -9223372036854775808 ≤ h.p
 p1 : h.p ≤ 9223372036854775807
 x1 : h.x.size ≤ 140737488355328
inductive Lies (w : World) : Nd → Prop
 | mk (h : Hd) (a : Option Addr) (c : Nat) (ks : List Nd) (hr : Rg h) (hc : ks.length ≤ c) (hm : c ≤ 9223372036854775807)
   (hk : ∀ i (hi : i < ks.length),∃ b o,a = some ⟨b,o,none⟩ ∧ NdAt w b (o + i * 8) ks[i]) (hs : ∀ k ∈ ks,Lies w k) : Lies w (.mk h a c ks)
theorem Lies.rg {w : World} {m : Nd} (h : Lies w m) : Rg m.h := by cases h; assumption
theorem Lies.cap {w : World} {m : Nd} (h : Lies w m) : m.ks.length ≤ m.c := by cases h; assumption
theorem Lies.max {w : World} {m : Nd} (h : Lies w m) : m.c ≤ 9223372036854775807 := by cases h; assumption
theorem Lies.kid {w : World} {m : Nd} (h : Lies w m) (i : Nat) (hi : i < m.ks.length) : ∃ b o,m.a = some ⟨b,o,none⟩ ∧ NdAt w b (o + i * 8) m.ks[i] := by cases h with | mk h a c ks hr hc hm hk hs => exact hk i hi
theorem Lies.sub {w : World} {m : Nd} (h : Lies w m) (k : Nd) (hk : k ∈ m.ks) : Lies w k := by cases h with | mk h a c ks hr hc hm hk' hs => exact hs k hk
theorem Lies.blk {w w' : World} : ∀ {m : Nd},Lies w m → (∀ b,b < w§ → w'.heap[b]? = w.heap[b]?) → Lies w' m := by
 intro m h k
 induction h with
 | mk h a c ks hr hc hm hk hs ih =>
  refine .mk h a c ks hr hc hm (fun i hi => ?_) ih
  obtain ⟨b,o,e,hat⟩ := hk i hi
  exact ⟨b,o,e,hat.blk (k b hat.lt)⟩
theorem Lies.on {w w' : World} {m : Nd} (h : Lies w m) (k : Below w§ w w') : Lies w' m := h.blk k.block
theorem Lies.hid {w : World} {m : Nd} (h : Lies w m) : Hid (Lies w m) := h
theorem NdAt.hid {w : World} {b o : Nat} {m : Nd} (h : NdAt w b o m) : Hid (NdAt w b o m) := h
mutual
def size : Nd → Nat
 | .mk _ _ _ ks => 1 + sizes ks
def sizes : List Nd → Nat
 | [] => 0
 | k :: ks => size k + sizes ks
end
mutual
def pre : Nd → List Nd
 | .mk h a c ks => .mk h a c ks :: pres ks
def pres : List Nd → List Nd
 | [] => []
 | k :: ks => pre k ++ pres ks
end
def alike (g h : Hd) : Bool := decide (g.k = h.k) && (decide (g.o = h.o) && (decide (g.t = h.t) && (decide (g.n = h.n) && (decide (g.f = h.f) && decide (g.x = h.x)))))
theorem nth_mem {ks : List Nd} {i : Nat} (hi : i < ks.length) : ks[i] ∈ ks := List.getElem_mem hi
inductive Tr where
 | mk (h : Hd) (ks : List Tr)
inductive Ft where
 | tok (no : Int) (at' : Int)
 | lex
def gB (l : List UInt8) : ByteArray := ⟨l.toArray⟩
def gLook : List Tk → Except Ft Tk
 | [] => .error .lex
 | t :: _ => .ok t
def gIs (x : ByteArray) (ts : List Tk) : Except Ft Bool := (gLook ts).map fun t => decide (t.x = x)
def gNeed (b : Bool) (no : Int) (ts : List Tk) : Except Ft Unit := if b = true then .ok () else match gLook ts with | .error e => .error e | .ok t => .error (.tok no t.p)
def gStep : List Tk → Except Ft (Tk × List Tk)
 | [] => .error .lex
 | t :: ts => .ok (t,ts)
def gTake (x : ByteArray) (ts : List Tk) : Except Ft (Tk × List Tk) := do
 let b ← gIs x ts
 gNeed b 130 ts
 gStep ts
def gOpn (d : Nat) (ts : List Tk) : Except Ft (Tk × List Tk) := do
 gNeed (decide (d < 24)) 132 ts
 gStep ts
def eqX (x : ByteArray) (l : List UInt8) : Bool := x.toList == l
def tyX (x : ByteArray) : Int :=
 if eqX x [105,110,116] = true then 1 else if eqX x [113,116,121] = true then 2 else if eqX x [112,114,105,99,101] = true then 3 else if eqX x [116,105,109,101] = true then 4 else if eqX x [98,111,111,108] = true then 5 else if eqX x [115,105,100,101] = true then 6 else 0
def fieldX (x : ByteArray) : Int :=
 if eqX x [98,105,100] = true then 1 else if eqX x [97,115,107] = true then 2 else if eqX x [108,97,115,116] = true then 3 else if eqX x [118,111,108,117,109,101] = true then 4 else if eqX x [110,111,119] = true then 5 else if eqX x [111,112,101,110] = true then 6 else 0
def callX (x : ByteArray) : Int := if eqX x [97,98,115] = true then 3 else if eqX x [109,105,110] = true then 4 else if eqX x [109,97,120] = true then 5 else 0
def valT (t : Tk) : Int × Int :=
 if eqX t.x [116,114,117,101] = true then (5,1) else if eqX t.x [102,97,108,115,101] = true then (5,0) else if eqX t.x [98,117,121] = true then (6,1) else if eqX t.x [115,101,108,108] = true then (6,2) else (t.ty,t.n)
def orX (x : ByteArray) : Int := if x = gB [124,124] then 18 else 0
def andX (x : ByteArray) : Int := if x = gB [38,38] then 17 else 0
def cmpX (x : ByteArray) : Int := if eqX x [61,61] = true then 11 else if eqX x [33,61] = true then 12 else if eqX x [60] = true then 13 else if eqX x [60,61] = true then 14 else if eqX x [62] = true then 15 else if eqX x [62,61] = true then 16 else 0
def sumX (x : ByteArray) : Int := if eqX x [43] = true then 6 else if eqX x [45] = true then 7 else 0
def proX (x : ByteArray) : Int := if eqX x [42] = true then 8 else if eqX x [47] = true then 9 else if eqX x [37] = true then 10 else 0
def unX (x : ByteArray) : Int := if eqX x [45] = true then 1 else if eqX x [33] = true then 2 else 0
def gE : ByteArray := ⟨#[]⟩
def gLit (ts : List Tk) : Except Ft (Tr × List Tk) := do
 let t ← gLook ts
 gNeed (decide ((valT t).1 ≠ 0)) 130 ts
 let (_,r) ← gStep ts
 .ok (.mk ⟨1,0,(valT t).1,(valT t).2,0,gE,t.p⟩ [],r)
def gRowR (oper : ByteArray → Int) (part : List Tk → Except Ft (Tr × List Tk)) : Nat → Tr → List Tk → Except Ft (Tr × List Tk)
 | 0,n,ts => .ok (n,ts)
 | m + 1,n,ts => do
  let t ← gLook ts
  if oper t.x = 0 then .ok (n,ts) else do
   let (u,r) ← gStep ts
   let (k,r) ← part r
   gRowR oper part m (.mk ⟨6,oper t.x,0,0,0,gE,u.p⟩ [n,k]) r
def gRow (oper : ByteArray → Int) (part : List Tk → Except Ft (Tr × List Tk)) (m : Nat) (ts : List Tk) : Except Ft (Tr × List Tk) := do
 let (n,r) ← part ts
 gRowR oper part m n r
def gOne (ex : List Tk → Except Ft (Tr × List Tk)) (d : Nat) (ts : List Tk) : Except Ft (Tr × List Tk) := do
 let x ← gLook ts
 if eqX x.x [40] = true then do
  let (_,r) ← gOpn d ts
  let (n,r) ← ex r
  let (_,r) ← gTake (gB [41]) r
  .ok (n,r)
 else if eqX x.x [104,97,115] = true then do
  let (u,r) ← gStep ts
  let y ← gLook r
  gNeed (decide (1 ≤ fieldX y.x ∧ fieldX y.x ≤ 3)) 130 r
  let (_,r) ← gStep r
  .ok (.mk ⟨4,0,0,0,fieldX y.x,gE,u.p⟩ [],r)
 else if callX x.x ≠ 0 then do
  let (u,r) ← gOpn d ts
  let (_,r) ← gTake (gB [40]) r
  if callX x.x = 3 then do
   let (k,r) ← ex r
   let (_,r) ← gTake (gB [41]) r
   .ok (.mk ⟨8,callX x.x,0,0,0,gE,u.p⟩ [k],r)
  else do
   let (j,r) ← ex r
   let (_,r) ← gTake (gB [44]) r
   let (k,r) ← ex r
   let (_,r) ← gTake (gB [41]) r
   .ok (.mk ⟨8,callX x.x,0,0,0,gE,u.p⟩ [j,k],r)
 else if 1 ≤ tyX x.x ∧ tyX x.x ≤ 4 then do
  let (u,r) ← gOpn d ts
  let (_,r) ← gTake (gB [40]) r
  let (k,r) ← ex r
  let (_,r) ← gTake (gB [41]) r
  .ok (.mk ⟨9,0,tyX x.x,0,0,gE,u.p⟩ [k],r)
 else if fieldX x.x ≠ 0 then do
  let (_,r) ← gStep ts
  .ok (.mk ⟨3,0,0,0,fieldX x.x,gE,x.p⟩ [],r)
 else if x.k = 2 then do
  let (_,r) ← gStep ts
  .ok (.mk ⟨2,0,0,0,0,x.x,x.p⟩ [],r)
 else gLit ts
def gUn (ex un : List Tk → Except Ft (Tr × List Tk)) (d : Nat) (ts : List Tk) : Except Ft (Tr × List Tk) := do
 let x ← gLook ts
 if unX x.x = 0 then gOne ex d ts else do
  let (u,r) ← gOpn d ts
  let (k,r) ← un r
  .ok (.mk ⟨5,unX x.x,0,0,0,gE,u.p⟩ [k],r)
def gEx (ex un : List Tk → Except Ft (Tr × List Tk)) (d : Nat) (ts : List Tk) : Except Ft (Tr × List Tk) := do
 let (n,r) ← gRow orX (gRow andX (gRow cmpX (gRow sumX (gRow proX (gUn ex un d) 4096) 4096) 1) 4096) 4096 ts
 let b ← gIs (gB [63]) r
 if b = false then .ok (n,r) else do
  let (u,r) ← gOpn d r
  let (y,r) ← ex r
  let (_,r) ← gTake (gB [58]) r
  let (z,r) ← ex r
  .ok (.mk ⟨7,0,0,0,0,gE,u.p⟩ [n,y,z],r)
mutual
def exF : Nat → Nat → List Tk → Except Ft (Tr × List Tk)
 | 0,_,_ => .error .lex
 | f + 1,d,ts => gEx (exF f (d + 1)) (unF f (d + 1)) d ts
def unF : Nat → Nat → List Tk → Except Ft (Tr × List Tk)
 | 0,_,_ => .error .lex
 | f + 1,d,ts => gUn (exF f (d + 1)) (unF f (d + 1)) d ts
end
def exprT (ts : List Tk) : Except Ft (Tr × List Tk) := exF 26 0 ts
structure TkC (w : World) (b o : Nat) (t : Tk) : Prop where
 c0 : w.cell? ⟨b,o,none⟩ = some (zU t.k)
 c1 : w.cell? ⟨b,o + 1,none⟩ = some (.string t.x)
 c2 : w.cell? ⟨b,o + 2,none⟩ = some (zU t.ty)
 c3 : w.cell? ⟨b,o + 3,none⟩ = some (zI t.n)
 c4 : w.cell? ⟨b,o + 4,none⟩ = some (zI t.p)
theorem TkC.lt {w : World} {b o : Nat} {t : Tk} (h : TkC w b o t) : b < w§ := World.block_lt_of_cell? w _ h.c0
theorem TkC.blk {w w' : World} {b o : Nat} {t : Tk} (h : TkC w b o t) (k : w'.heap[b]? = w.heap[b]?) : TkC w' b o t :=
 ⟨(World.cell?_of_block k).trans h.c0,(World.cell?_of_block k).trans h.c1,(World.cell?_of_block k).trans h.c2,(World.cell?_of_block k).trans h.c3,(World.cell?_of_block k).trans h.c4⟩
structure Rdr (w : World) (b G : Nat) (ts : List Tk) (fa : Int) (fe : Value) (d : Nat) (a : Option Addr) (c : Nat) : Prop where
 h : w.heap[b]? = some (.cells #[.slice a ts.length c,zI fa,fe,zI d] 207 (0,0))
 l : ts.length ≤ c
 m : c ≤ 9223372036854775807
 n : d ≤ 1000
 gb : G ≠ b
 gl : G < w§
 r : ∀ i (hi : i < ts.length),∃ o,a = some ⟨G,o,none⟩ ∧ TkC w G (o + i * 5) ts[i]
theorem Rdr.hid {w : World} {b G : Nat} {ts : List Tk} {fa : Int} {fe : Value} {d : Nat} {a : Option Addr} {c : Nat} (h : Rdr w b G ts fa fe d a c) : Hid (Rdr w b G ts fa fe d a c) := h
theorem Rdr.on {w w' : World} {b G : Nat} {ts : List Tk} {fa : Int} {fe : Value} {d : Nat} {a : Option Addr} {c : Nat} (h : Rdr w b G ts fa fe d a c) (k : Below w§ w w') : Rdr w' b G ts fa fe d a c :=
 ⟨(k.block b (Array.getElem?_eq_some_iff.1 h.h).1).trans h.h,h.l,h.m,h.n,h.gb,Nat.lt_of_lt_of_le h.gl k.size,fun i hi => by
  obtain ⟨o,e,ht⟩ := h.r i hi
  exact ⟨o,e,ht.blk (k.block G ht.lt)⟩⟩
theorem Rdr.lt {w : World} {b G : Nat} {ts : List Tk} {fa : Int} {fe : Value} {d : Nat} {a : Option Addr} {c : Nat} (h : Rdr w b G ts fa fe d a c) : b < w§ := (Array.getElem?_eq_some_iff.1 h.h).1
theorem ba_ext2 {a b : ByteArray} (h : a.data.toList = b.data.toList) : a = b := by
 cases a; cases b; congr 1; exact Array.toList_inj.1 h
theorem str_ne {a b : ByteArray} (h : ¬ a = b) : (a.toList == b.toList) = false := by
 rw [ByteArray.toList_eq,ByteArray.toList_eq]
 exact beq_false_of_ne (fun h' => h (ba_ext2 h'))
def ftV (fa : Int) (fe : Value) : Ft → Value
 | .tok no p => .iface 143 (.agg #[zI p,.iface 48 (zI no)])
 | .lex => .iface 143 (.agg #[zI fa,fe])
def pan (v : Value) : Ending := .panicked [{ v := v,recovered := false }]
set_option maxRecDepth 100000 in
theorem look_ok {w : World} {b G : Nat} {t : Tk} {ts : List Tk} {fa : Int} {fe : Value} {d : Nat} {a : Option Addr} {c : Nat} (h : Rdr w b G (t :: ts) fa fe d a c) :
  Calls zG 104 #[zP b] w fun e w' => e = .returned (.agg (tkA t)) ∧ Below w§ w w' := by
 obtain ⟨o,e,ht⟩ := h.r 0 (by simp)
 subst e
 have ht : TkC w G (o + 0 * 5) t := ht
 obtain ⟨y0,y1,y2,y3,y4⟩ := ht
 simp only [Nat.zero_mul,Nat.add_zero] at y0 y1 y2 y3 y4
 have c0 : w.cell? ⟨b,0,none⟩ = some (.slice (some ⟨G,o,none⟩) (ts.length + 1) c) := cell_of h.h 0
 have hl : (ts.length : Int) + 1 ≠ 0 := by omega
 have hp : (0 : Int) < (ts.length : Int) + 1 := by omega
 have hbl := h.lt
 have hgl : G < w§ := World.block_lt_of_cell? w _ y0
 clear h
 go_enter Tryz.func104,Tryz.ntmps104
 go_wp2_with fail
 exact bodyPost_ret (results_cell_row rfl _ _ w§ 82 (tkA t) (0,0) _ rfl (heap_new _ _) Tryz.underlying82 rfl zK) rfl ⟨rfl,below_new _ _⟩
set_option maxRecDepth 100000 in
theorem look_no {w : World} {b G : Nat} {fa : Int} {fe : Value} {d : Nat} {a : Option Addr} {c : Nat} (h : Rdr w b G [] fa fe d a c) :
  Calls zG 104 #[zP b] w fun e w' => e = pan (.iface 143 (.agg #[zI fa,fe])) ∧ Below w§ w w' := by
 have c0 : w.cell? ⟨b,0,none⟩ = some (.slice a 0 c) := cell_of h.h 0
 have c1 : w.cell? ⟨b,1,none⟩ = some (zI fa) := cell_of h.h 1
 have c2 : w.cell? ⟨b,2,none⟩ = some fe := cell_of h.h 2
 have hbl := h.lt
 clear h
 go_enter Tryz.func104,Tryz.ntmps104
 go_wp2_with fail
 exact ⟨rfl,rfl,below_new _ _⟩
theorem field82_1 (t : Tk) (v : World) : (Instr.field 82 (.agg (tkA t)) 1).run Tryz.prog v = .ok (.string t.x) v := by kernel_rfl
theorem field82_4 (t : Tk) (v : World) : (Instr.field 82 (.agg (tkA t)) 4).run Tryz.prog v = .ok (zI t.p) v := by kernel_rfl
set_option maxRecDepth 100000 in
theorem is_ok {w : World} {b G : Nat} {t : Tk} {ts : List Tk} {fa : Int} {fe : Value} {d : Nat} {a : Option Addr} {c : Nat} (h : Rdr w b G (t :: ts) fa fe d a c) (x : ByteArray) :
  Calls zG 87 #[zP b,.string x] w fun e w' => e = .returned (.bool (decide (t.x = x))) ∧ Below w§ w w' := by
 have cL := look_ok h
 have hf := fun v => field82_1 t v
 clear h
 by_cases e : t.x = x
 ·rw [decide_eq_true e]
  subst e
  go_enter Tryz.func87,Tryz.ntmps87
  go_wp2_with fail
  refine cL.mono ?_
  rintro e w1 ⟨rfl,hb⟩
  go_wp2_with fail
  go_ret
  exact ⟨rfl,hb⟩
 ·have hs := str_ne e
  rw [decide_eq_false e]
  go_enter Tryz.func87,Tryz.ntmps87
  go_wp2_with fail
  refine cL.mono ?_
  rintro e w1 ⟨rfl,hb⟩
  go_wp2_with fail
  go_ret
  exact ⟨rfl,hb⟩
set_option maxRecDepth 100000 in
theorem is_no {w : World} {b G : Nat} {fa : Int} {fe : Value} {d : Nat} {a : Option Addr} {c : Nat} (h : Rdr w b G [] fa fe d a c) (x : ByteArray) :
  Calls zG 87 #[zP b,.string x] w fun e w' => e = pan (.iface 143 (.agg #[zI fa,fe])) ∧ Below w§ w w' := by
 have cL := look_no h
 clear h
 go_enter Tryz.func87,Tryz.ntmps87
 go_wp2_with fail
 refine cL.mono ?_
 rintro e w1 ⟨rfl,hb⟩
 exact ⟨rfl,rfl,hb⟩
set_option maxRecDepth 100000 in
theorem need_ok (w : World) (b : Nat) (no : Int) : Calls zG 72 #[zP b,.bool true,zI no] w fun e w' => e = .returned (.tuple #[]) ∧ w' = w := by
 go_enter Tryz.func72,Tryz.ntmps72
 go_wp2_with fail
 go_end0
 exact ⟨rfl,rfl⟩
set_option maxRecDepth 100000 in
theorem need_tok {w : World} {b G : Nat} {t : Tk} {ts : List Tk} {fa : Int} {fe : Value} {d : Nat} {a : Option Addr} {c : Nat} (h : Rdr w b G (t :: ts) fa fe d a c) (no : Int) :
  Calls zG 72 #[zP b,.bool false,zI no] w fun e w' => e = pan (ftV fa fe (.tok no t.p)) ∧ Below w§ w w' := by
 have cL := look_ok h
 have hf := fun v => field82_4 t v
 clear h
 go_enter Tryz.func72,Tryz.ntmps72
 go_wp2_with fail
 refine cL.mono ?_
 rintro e w1 ⟨rfl,hb⟩
 go_wp2_with fail
 exact ⟨rfl,rfl,hb⟩
set_option maxRecDepth 100000 in
theorem need_lex {w : World} {b G : Nat} {fa : Int} {fe : Value} {d : Nat} {a : Option Addr} {c : Nat} (h : Rdr w b G [] fa fe d a c) (no : Int) :
  Calls zG 72 #[zP b,.bool false,zI no] w fun e w' => e = pan (ftV fa fe .lex) ∧ Below w§ w w' := by
 have cL := look_no h
 clear h
 go_enter Tryz.func72,Tryz.ntmps72
 go_wp2_with fail
 refine cL.mono ?_
 rintro e w1 ⟨rfl,hb⟩
 exact ⟨rfl,rfl,hb⟩
end Go.Proofs.YtkfabnchhjfjjaaGreatDoor
