import Derived.Test.YtkfabnchhjfjjaaGreatDoorA0
import Derived.Test.YtkfabnchhjfjjaaGreatDoorA1
namespace Go.Proofs.YtkfabnchhjfjjaaGreatDoor
open Go.RowKit
def tkP (a : Nat) : Tk := ⟨0,⟨#[]⟩,0,0,a⟩
def pnT (s : ByteArray) (a : Nat) : Tk := if nmE s a = 0 then nmT s a else tkP a
set_option maxRecDepth 100000 in
set_option maxHeartbeats 2000000 in
theorem wordp_any (s : ByteArray) (a : Nat) (hs : s.size ≤ 140737488355328) (ha : a ≤ s.size) (w : World) (ht : Tab w) :
  Calls zG 144 #[.string s,zI a] w fun e w' => e = .returned (.tuple #[.agg (tkA (pnT s a)),zI (nmE s a)]) ∧ Below w§ w w' := by
 obtain ⟨d,hd⟩ : ∃ d,a + lead goB (rest s a) = d := ⟨_,rfl⟩
 have hd1 : a ≤ d := by omega
 have hd2 : d ≤ s.size := by have := lead_le goB (rest s a); rw [rest_len] at this; omega
 have HT : Hid (nmT s a = if d - a > 16 then tk0 else ⟨if isW (s.extract a d) = true then 1 else 2,s.extract a d,0,0,a⟩) := by show _ = _; unfold nmT; rw [hd,show lead goB (rest s a) = d - a by omega]
 have HE : Hid (nmE s a = if d - a > 16 then 112 else 0) := by show _ = _; unfold nmE; rw [show lead goB (rest s a) = d - a by omega]
 have HD : Hid (d = a + lead goB (rest s a)) := hd.symm
 have hS0 : (w.alloc (.cells #[.string s] 9)).heap[w§]? = some (.cells #[.string s] 9 (0,0)) := heap_new w _
 have hB0 := below_two w (.cells #[.string s] 9) (.cells (tkA tk0) 82)
 have hR0 : TkH ((w.alloc (.cells #[.string s] 9)).alloc (.cells (tkA tk0) 82)) (w§ + 1) tk0 := by rw [← size_alloc w (.cells #[.string s] 9)]; exact heap_new _ _
 have hS1 : ((w.alloc (.cells #[.string s] 9)).alloc (.cells (tkA tk0) 82)).heap[w§]? = some (.cells #[.string s] 9 (0,0)) := heap_old hS0 (by rw [size_alloc]; omega)
 have hz0 : ((w.alloc (.cells #[.string s] 9)).alloc (.cells (tkA tk0) 82))§ = w§ + 2 := by rw [size_alloc,size_alloc]
 have hT0 := ht.on hB0
 obtain ⟨W,eW⟩ : ∃ W,(w.alloc (.cells #[.string s] 9)).alloc (.cells (tkA tk0) 82) = W := ⟨_,rfl⟩
 rw [eW] at hB0 hR0 hS1 hz0 hT0
 have hc := cell_of hS1 0
 have HRR := hR0.hid
 have HTab := hT0.hid
 have HB : Hid (Below w§ w W) := hB0
 have cR := reachW_any s a w§ hs ha W hc d HD
 unfold tkA tk0 at eW
 dsimp only at eW
 clear hd ht hS0 hS1 hT0 hR0 hB0 HD
 go_enter Tryz.func144,Tryz.ntmps144
 go_wp2_with fail
 clear eW
 refine cR.mono ?_
 rintro _ v ⟨rfl,e⟩
 obtain rfl := e.symm
 clear cR
 by_cases h16 : d - a > 16
 ·have h16' : (16 : Int) < (d : Int) - (a : Int) := by omega
  have KE : Hid (nmE s a = 112) := by show _ = _; rw [HE.out,if_pos h16]
  have KT : Hid (pnT s a = tkP a) := by show _ = _; unfold pnT; rw [KE.out,if_neg (by decide)]
  obtain ⟨r0,r1,r2,r3,r4⟩ := HRR.out.cells
  obtain ⟨f0,f1,f2,f3,f4⟩ := HRR.out.froz
  clear HT HE
  go_wp2_with fail
  exact bodyPost_ret (results_two (p := 4) (u := 5) (ty := 82) rfl _ _ (w§ + 1) 82 (tkA (tkP a)) (0,0) _ rfl (HRR.out.put (tkP a)) Tryz.underlying82 rfl zK) rfl ⟨by rw [KT.out,KE.out]; rfl,below_put HB.out (by omega) _ _ _ _ _⟩
 ·have h16' : ¬ (16 : Int) < (d : Int) - (a : Int) := by omega
  have KE : Hid (nmE s a = 0) := by show _ = _; rw [HE.out,if_neg h16]
  obtain ⟨x,ex⟩ : ∃ x,s.extract a d = x := ⟨_,rfl⟩
  have KT : Hid (pnT s a = ⟨if isW x = true then 1 else 2,x,0,0,a⟩) := by show _ = _; unfold pnT; rw [KE.out,if_pos rfl,HT.out,if_neg h16,ex]
  have hY : TkH (W.alloc (.cells (tkA ⟨2,x,0,0,a⟩) 82)) W§ ⟨2,x,0,0,a⟩ := heap_new W _
  rw [hz0] at hY
  have hR : TkH (W.alloc (.cells (tkA ⟨2,x,0,0,a⟩) 82)) (w§ + 1) tk0 := heap_old HRR.out HRR.out.lt
  have hB2 := HB.out.alloc HB.out.size (.cells (tkA ⟨2,x,0,0,a⟩) 82)
  have hT2 := HTab.out.on (below_new W (.cells (tkA ⟨2,x,0,0,a⟩) 82))
  obtain ⟨V,eV⟩ : ∃ V,W.alloc (.cells (tkA ⟨2,x,0,0,a⟩) 82) = V := ⟨_,rfl⟩
  rw [eV] at hY hR hB2 hT2
  have HY := hY.hid
  have HR2 := hR.hid
  have HB2 : Hid (Below w§ w V) := hB2
  have cW := wordP_any x V hT2
  unfold tkA at eV
  dsimp only at eV
  clear HT HE hY hR hB2 hT2
  obtain ⟨z0,z1,z2,z3,z4⟩ := HY.out.cells
  go_wp2_with fail
  clear eV
  refine cW.mono ?_
  rintro _ v ⟨rfl,e⟩
  obtain rfl := e.symm
  clear cW
  cases hw : isW x
  ·have KT2 : Hid (pnT s a = ⟨2,x,0,0,a⟩) := by show _ = _; rw [KT.out,hw]; rfl
   obtain ⟨r0,r1,r2,r3,r4⟩ := HR2.out.cells
   obtain ⟨f0,f1,f2,f3,f4⟩ := HR2.out.froz
   clear KT
   go_wp2_with fail
   exact bodyPost_ret (results_two (p := 4) (u := 5) (ty := 82) rfl _ _ (w§ + 1) 82 (tkA ⟨2,x,0,0,a⟩) (0,0) _ rfl (HR2.out.put ⟨2,x,0,0,a⟩) Tryz.underlying82 rfl zK) rfl ⟨by rw [KT2.out,KE.out]; rfl,below_put HB2.out (by omega) _ _ _ _ _⟩
  ·have KT2 : Hid (pnT s a = ⟨1,x,0,0,a⟩) := by show _ = _; rw [KT.out,hw]; rfl
   obtain ⟨U,eU⟩ : ∃ U,V.setCell ⟨w§ + 2,0,none⟩ (zU 1) = U := ⟨_,rfl⟩
   have HY3 : Hid (TkH U (w§ + 2) ⟨1,x,0,0,a⟩) := by show TkH U _ _; rw [← eU]; exact heap_set _ HY.out
   have HR3 : Hid (TkH U (w§ + 1) tk0) := by show TkH U _ _; rw [← eU]; exact (Below.heap_setCell _ _ _ _ (by simp)).trans HR2.out
   have hB4 : Below w§ w U := by rw [← eU]; exact HB2.out.setCell (p := ⟨w§ + 2,0,none⟩) (by simp) _
   obtain ⟨g0,g1,g2,g3,g4⟩ := HY.out.froz
   obtain ⟨y0,y1,y2,y3,y4⟩ := HY3.out.cells
   obtain ⟨r0,r1,r2,r3,r4⟩ := HR3.out.cells
   obtain ⟨f0,f1,f2,f3,f4⟩ := HR3.out.froz
   clear KT
   go_wp2_with fail
   exact bodyPost_ret (results_two (p := 4) (u := 5) (ty := 82) rfl _ _ (w§ + 1) 82 (tkA ⟨1,x,0,0,a⟩) (0,0) _ rfl (HR3.out.put ⟨1,x,0,0,a⟩) Tryz.underlying82 rfl zK) rfl ⟨by rw [KT2.out,KE.out]; rfl,below_put hB4 (by omega) _ _ _ _ _⟩
theorem nmS_len : ∀ (l : List UInt8) (n k n' k' : Nat),nmS l n k = some (n',k') → k ≤ k' ∧ k' ≤ k + l.length ∧ (hdB digB l = true → k < k')
 | [],n,k,n',k',h => by
  simp only [nmS,Option.some.injEq,Prod.mk.injEq] at h
  obtain ⟨_,rfl⟩ := h
  exact ⟨Nat.le_refl _,Nat.le_add_right _ _,fun h => by simp [hdB] at h⟩
 | c :: l,n,k,n',k',h => by
  unfold nmS at h
  by_cases hg : digB c = true
  ·rw [if_pos hg] at h
   by_cases hn : n > 922337203685477580
   ·rw [if_pos hn] at h; exact absurd h (by simp)
   ·rw [if_neg hn] at h
    have := nmS_len l _ _ _ _ h
    refine ⟨by omega,by simp only [List.length_cons]; omega,fun _ => by omega⟩
  ·rw [if_neg hg] at h
   simp only [Option.some.injEq,Prod.mk.injEq] at h
   obtain ⟨_,rfl⟩ := h
   exact ⟨Nat.le_refl _,Nat.le_add_right _ _,fun h => absurd h hg⟩
theorem let_go {c : UInt8} (h : letB c = true) : goB c = true := by
 unfold goB; simp [h]
theorem lead_pos {p : UInt8 → Bool} {l : List UInt8} (h : hdB p l = true) : 0 < lead p l := by
 cases l with
 | nil => simp [hdB] at h
 | cons c l => unfold lead; rw [if_pos (show p c = true from h)]; omega
theorem hd_go {l : List UInt8} (h : hdB letB l = true) : hdB goB l = true := by
 cases l with
 | nil => simp [hdB] at h
 | cons c l => exact let_go h
theorem ext_size (s : ByteArray) (a b : Nat) (h : b ≤ s.size) : (s.extract a b).size = b - a := by
 rw [ByteArray.size_extract]; omega
theorem mk_pos (i : Nat) (h : i < 23) : 0 < (mk i).size := by
 have : ∀ x ∈ marksL,0 < x.size := by decide
 have hl : i < marksL.length := h
 unfold mk
 rw [List.getD_eq_getElem?_getD,List.getElem?_eq_getElem hl]
 exact this _ (List.getElem_mem hl)
theorem nbTy_nil {s : ByteArray} {a : Nat} (h : ¬ nbTy (rest s a) = 1) : a < s.size := by
 by_cases ha : a < s.size
 ·exact ha
 ·exfalso
  apply h
  have : rest s a = [] := by
   apply List.eq_nil_of_length_eq_zero
   rw [rest_len]; omega
  rw [this]; rfl
theorem one_fine (s : ByteArray) (f : Nat) (hf : f ≤ s.size) (h : oneE s f = 0) :
  (oneT s f).p = (oneP s f : Nat) ∧ f ≤ oneP s f ∧ oneP s f + (oneT s f).x.size ≤ s.size ∧ ((oneT s f).k ≠ 0 → 0 < (oneT s f).x.size) := by
 have hP := oneP_le s f hf
 have hfP : f ≤ oneP s f := by unfold oneP; omega
 unfold oneE at h
 unfold oneT
 generalize oneP s f = d at *
 by_cases h0 : d = s.size
 ·rw [if_pos h0]
  exact ⟨rfl,hfP,(show d + 0 ≤ s.size from hP),fun h => absurd rfl h⟩
 rw [if_neg h0] at h ⊢
 by_cases hl : hdB letB (rest s d) = true
 ·rw [if_pos hl] at h ⊢
  unfold nmE at h
  unfold nmT
  by_cases hk : lead goB (rest s d) > 16
  ·rw [if_pos hk] at h; exact absurd h (by decide)
  ·rw [if_neg hk]
   have hL := lead_le goB (rest s d)
   rw [rest_len] at hL
   have h1 := lead_pos (hd_go hl)
   have e := ext_size s d (d + lead goB (rest s d)) (by omega)
   refine ⟨rfl,hfP,?_,fun _ => ?_⟩
   ·show d + (s.extract d _).size ≤ _
    rw [e]; omega
   ·show 0 < (s.extract d _).size
    rw [e]; omega
 rw [if_neg hl] at h ⊢
 by_cases hg : hdB digB (rest s d) = true
 ·rw [if_pos hg] at h ⊢
  unfold nbE at h
  unfold nbT
  cases ho : nbO s d with
  | none => rw [ho] at h; exact absurd h (by decide)
  | some q =>
   obtain ⟨n,e,ty⟩ := q
   have he : d < e ∧ e ≤ s.size := by
    unfold nbO at ho
    cases hm : nmS (rest s d) 0 0 with
    | none => rw [hm] at ho; exact absurd ho (by simp)
    | some q =>
     obtain ⟨n2,k2⟩ := q
     have := nmS_len _ _ _ _ _ hm
     rw [rest_len] at this
     have h3 := this.2.2 hg
     rw [hm] at ho
     simp only at ho
     obtain ⟨E,hE⟩ : ∃ E,(if nbTy (rest s (d + k2)) = 1 then d + k2 else d + k2 + 1) = E := ⟨_,rfl⟩
     rw [hE] at ho
     have hE2 : d < E ∧ E ≤ s.size := by
      by_cases ht : nbTy (rest s (d + k2)) = 1
      ·rw [if_pos ht] at hE; omega
      ·rw [if_neg ht] at hE
       have := nbTy_nil ht
       omega
     split at ho
     ·exact absurd ho (by simp)
     ·split at ho
      ·exact absurd ho (by simp)
      ·simp only [Option.some.injEq,Prod.mk.injEq] at ho
       obtain ⟨_,ho,_⟩ := ho
       rw [← ho]; exact hE2
   have ee := ext_size s d e he.2
   refine ⟨rfl,hfP,?_,fun _ => ?_⟩
   ·show d + (s.extract d _).size ≤ _
    rw [ee]; omega
   ·show 0 < (s.extract d _).size
    rw [ee]; omega
 rw [if_neg hg] at h ⊢
 unfold mkE at h
 unfold mkT
 cases ho : mkO s d with
 | none => rw [ho] at h; exact absurd h (by decide)
 | some i =>
  unfold mkO at ho
  rw [List.find?_range_eq_some] at ho
  obtain ⟨hm,hi,_⟩ := ho
  have hi' : i < 23 := by simpa using hi
  unfold mkB at hm
  rw [Bool.and_eq_true] at hm
  exact ⟨rfl,hfP,of_decide_eq_true hm.1,fun _ => mk_pos i hi'⟩
def mB (l : List UInt8) (i : Nat) : Bool := decide ((mk i).size ≤ l.length) && (l.take (mk i).size == (mk i).data.toList)
def mO (l : List UInt8) : Option Nat := (List.range 23).find? (mB l)
def nE (l : List UInt8) (d : Nat) : Nat := if nbTy (l.drop d) = 1 then d else d + 1
def lx (l : List UInt8) : Option (Int × Nat × Int × Int) :=
 if hdB letB l = true then (if lead goB l > 16 then none else some (if isW ⟨(l.take (lead goB l)).toArray⟩ = true then 1 else 2,lead goB l,0,0))
 else if hdB digB l = true then
  (match nmS l 0 0 with
  | none => none
  | some (n,d) => if n > 9223372036854775807 ∨ (d > 1 ∧ hd0 l = true) then none
   else if badH (l.drop (nE l d)) = true then none else some (3,nE l d,nbTy (l.drop d),n))
 else (match mO l with | none => none | some i => some (4,(mk i).size,0,0))
def lxE (l : List UInt8) : Int := if (lx l).isSome = true then 0 else if hdB letB l = true then 112 else if hdB digB l = true then 113 else 111
def tkOf (l : List UInt8) (d : Nat) : Tk := match lx l with | some (k,n,ty,v) => ⟨k,⟨(l.take n).toArray⟩,ty,v,d⟩ | none => tk0
theorem ext_list (s : ByteArray) (a n : Nat) : (s.extract a (a + n)).data.toList = (rest s a).take n := by
 unfold rest
 rw [ByteArray.data_extract,Array.toList_extract]
 simp [List.extract_eq_take_drop]
theorem ext_eq (s : ByteArray) (a n : Nat) : s.extract a (a + n) = ⟨((rest s a).take n).toArray⟩ := str_eq (by rw [ext_list])
theorem rest_drop (s : ByteArray) (a n : Nat) : (rest s a).drop n = rest s (a + n) := by unfold rest; rw [List.drop_drop]
theorem mB_mkB (s : ByteArray) (a : Nat) (ha : a ≤ s.size) (i : Nat) : mB (rest s a) i = mkB s a i := by
 unfold mB mkB
 rw [ext_list,rest_len]
 congr 1
 by_cases h : (mk i).size ≤ s.size - a
 ·rw [decide_eq_true h,decide_eq_true (by omega)]
 ·rw [decide_eq_false h,decide_eq_false (by omega)]
theorem mO_mkO (s : ByteArray) (a : Nat) (ha : a ≤ s.size) : mO (rest s a) = mkO s a := by
 unfold mO mkO
 congr 1
 funext i
 exact mB_mkB s a ha i
theorem mO_take {l : List UInt8} {i : Nat} (h : mO l = some i) : i < 23 ∧ l.take (mk i).size = (mk i).data.toList ∧ (mk i).size ≤ l.length := by
 unfold mO at h
 rw [List.find?_range_eq_some] at h
 obtain ⟨h1,h2,_⟩ := h
 unfold mB at h1
 rw [Bool.and_eq_true] at h1
 exact ⟨by simpa using h2,by simpa using h1.2,of_decide_eq_true h1.1⟩
theorem one_lx (s : ByteArray) (f : Nat) (hf : f ≤ s.size) (h : oneP s f ≠ s.size) :
  oneT s f = tkOf (rest s (oneP s f)) (oneP s f) ∧ oneE s f = lxE (rest s (oneP s f)) := by
 have hP := oneP_le s f hf
 unfold oneT oneE
 generalize oneP s f = d at *
 rw [if_neg h,if_neg h]
 unfold tkOf lxE lx
 by_cases hl : hdB letB (rest s d) = true
 ·rw [if_pos hl,if_pos hl,if_pos hl,if_pos hl]
  unfold nmT nmE
  by_cases hk : lead goB (rest s d) > 16
  ·rw [if_pos hk,if_pos hk,if_pos hk]; exact ⟨rfl,rfl⟩
  ·rw [if_neg hk,if_neg hk,if_neg hk,ext_eq]; exact ⟨rfl,rfl⟩
 rw [if_neg hl,if_neg hl,if_neg hl,if_neg hl]
 by_cases hg : hdB digB (rest s d) = true
 ·rw [if_pos hg,if_pos hg,if_pos hg,if_pos hg]
  unfold nbT nbE nbO
  cases hm : nmS (rest s d) 0 0 with
  | none => exact ⟨rfl,rfl⟩
  | some q =>
   obtain ⟨n,k⟩ := q
   have e1 : (if nbTy (rest s (d + k)) = 1 then d + k else d + k + 1) = d + nE (rest s d) k := by
    unfold nE
    rw [rest_drop]
    split <;> rfl
   simp only [e1,rest_drop]
   by_cases c1 : n > 9223372036854775807 ∨ (k > 1 ∧ hd0 (rest s d) = true)
   ·simp [if_pos c1]
   ·simp only [if_neg c1]
    by_cases c2 : badH (rest s (d + nE (rest s d) k)) = true
    ·simp [if_pos c2]
    ·simp [if_neg c2,ext_eq]
 rw [if_neg hg,if_neg hg,if_neg hg,if_neg hg]
 unfold mkT mkE
 rw [mO_mkO s d hP]
 cases hm : mkO s d with
 | none => exact ⟨rfl,rfl⟩
 | some i =>
  have := (mO_take (by rw [mO_mkO s d hP]; exact hm : mO (rest s d) = some i)).2.1
  refine ⟨?_,rfl⟩
  show (⟨4,mk i,0,0,d⟩ : Tk) = ⟨4,⟨(List.take (mk i).size (rest s d)).toArray⟩,0,0,d⟩
  rw [this]
theorem nmS_le {l : List UInt8} {n d : Nat} (h : nmS l 0 0 = some (n,d)) : d ≤ l.length := by have := (nmS_len _ _ _ _ _ h).2.1; omega
theorem nE_le {l : List UInt8} {d : Nat} (h : d ≤ l.length) : nE l d ≤ l.length := by
 unfold nE
 by_cases e : nbTy (l.drop d) = 1
 ·rw [if_pos e]; exact h
 ·rw [if_neg e]
  have : d ≠ l.length := by
   intro hd
   apply e
   rw [List.drop_eq_nil_of_le (by omega)]; rfl
  omega
theorem lx_len {l : List UInt8} {k : Int} {n : Nat} {ty v : Int} (h : lx l = some (k,n,ty,v)) : 0 < n ∧ n ≤ l.length ∧ k ≠ 0 := by
 unfold lx at h
 by_cases hl : hdB letB l = true
 ·rw [if_pos hl] at h
  by_cases hk : lead goB l > 16
  ·rw [if_pos hk] at h; exact absurd h (by simp)
  ·rw [if_neg hk] at h
   simp only [Option.some.injEq,Prod.mk.injEq] at h
   obtain ⟨e1,rfl,_⟩ := h
   refine ⟨lead_pos (hd_go hl),lead_le goB l,?_⟩
   rw [← e1]; split <;> decide
 rw [if_neg hl] at h
 by_cases hg : hdB digB l = true
 ·rw [if_pos hg] at h
  cases hm : nmS l 0 0 with
  | none => rw [hm] at h; exact absurd h (by simp)
  | some q =>
   obtain ⟨n2,d⟩ := q
   have hd := nmS_le hm
   have h3 := (nmS_len _ _ _ _ _ hm).2.2 hg
   rw [hm] at h
   simp only at h
   split at h
   ·exact absurd h (by simp)
   ·split at h
    ·exact absurd h (by simp)
    ·simp only [Option.some.injEq,Prod.mk.injEq] at h
     obtain ⟨e1,rfl,_⟩ := h
     refine ⟨?_,nE_le hd,by rw [← e1]; decide⟩
     unfold nE; split <;> omega
 rw [if_neg hg] at h
 cases hm : mO l with
 | none => rw [hm] at h; exact absurd h (by simp)
 | some i =>
  rw [hm] at h
  simp only [Option.some.injEq,Prod.mk.injEq] at h
  obtain ⟨e1,rfl,_⟩ := h
  have := mO_take hm
  exact ⟨mk_pos i this.1,this.2.2,by rw [← e1]; decide⟩
theorem lead_take {p : UInt8 → Bool} : ∀ l : List UInt8,lead p (l.take (lead p l)) = lead p l
 | [] => rfl
 | x :: l => by
  have := lead_take (p := p) l
  by_cases h : p x = true
  ·simp [h,lead,this]
  ·simp [h,lead]
theorem hdB_take {p : UInt8 → Bool} {n : Nat} (h : 0 < n) : ∀ l : List UInt8,hdB p (l.take n) = hdB p l
 | [] => by simp
 | x :: l => by obtain ⟨m,rfl⟩ : ∃ m,n = m + 1 := ⟨n - 1,by omega⟩; rfl
theorem hd0_take {n : Nat} (h : 0 < n) : ∀ l : List UInt8,hd0 (l.take n) = hd0 l
 | [] => by simp
 | x :: l => by obtain ⟨m,rfl⟩ : ∃ m,n = m + 1 := ⟨n - 1,by omega⟩; rfl
theorem nmS_take : ∀ (l : List UInt8) (n k n' k' e : Nat),nmS l n k = some (n',k') → k' ≤ k + e → nmS (l.take e) n k = some (n',k')
 | [],n,k,n',k',e,h,he => by simpa using h
 | x :: l,n,k,n',k',e,h,he => by
  have hle := nmS_len _ _ _ _ _ h
  cases e with
  | zero =>
   have : k' = k := by omega
   subst this
   have h3 : ¬ digB x = true := fun h' => by have := hle.2.2 h'; omega
   simp only [nmS,if_neg h3] at h
   simpa [nmS] using h
  | succ e =>
   simp only [List.take_succ_cons,nmS] at h ⊢
   by_cases hg : digB x = true
   ·rw [if_pos hg] at h ⊢
    by_cases hn : n > 922337203685477580
    ·rw [if_pos hn] at h; exact absurd h (by simp)
    ·rw [if_neg hn] at h ⊢
     exact nmS_take l _ _ _ _ e h (by omega)
   ·rw [if_neg hg] at h ⊢; exact h
theorem nbTy_take {n : Nat} (h : 0 < n) : ∀ l : List UInt8,nbTy (l.take n) = nbTy l
 | [] => by simp
 | x :: l => by obtain ⟨m,rfl⟩ : ∃ m,n = m + 1 := ⟨n - 1,by omega⟩; rfl
theorem mB_take {l : List UInt8} {n i : Nat} (h : mB (l.take n) i = true) : mB l i = true := by
 unfold mB at h ⊢
 rw [Bool.and_eq_true] at h ⊢
 have h1 := of_decide_eq_true h.1
 have h2 : List.take (mk i).size (List.take n l) = (mk i).data.toList := by simpa using h.2
 have h3 : (mk i).size ≤ n := by simp at h1; omega
 rw [List.take_take,Nat.min_eq_left h3] at h2
 refine ⟨decide_eq_true (by simp at h1; omega),by rw [h2]; simp⟩
theorem lx_take {l : List UInt8} {k : Int} {n : Nat} {ty v : Int} (h : lx l = some (k,n,ty,v)) : lx (l.take n) = some (k,n,ty,v) := by
 obtain ⟨hn,hnl,_⟩ := lx_len h
 unfold lx at h ⊢
 rw [hdB_take hn,hdB_take hn]
 by_cases hl : hdB letB l = true
 ·rw [if_pos hl] at h ⊢
  by_cases hk : lead goB l > 16
  ·rw [if_pos hk] at h; exact absurd h (by simp)
  ·rw [if_neg hk] at h
   simp only [Option.some.injEq,Prod.mk.injEq] at h
   obtain ⟨e1,rfl,e2,e3⟩ := h
   rw [lead_take,if_neg hk,List.take_take,Nat.min_self,e1,← e2,← e3]
 rw [if_neg hl] at h ⊢
 by_cases hg : hdB digB l = true
 ·rw [if_pos hg] at h ⊢
  cases hm : nmS l 0 0 with
  | none => rw [hm] at h; exact absurd h (by simp)
  | some q =>
   obtain ⟨n2,d⟩ := q
   have hd := nmS_le hm
   rw [hm] at h
   simp only at h
   by_cases c1 : n2 > 9223372036854775807 ∨ (d > 1 ∧ hd0 l = true)
   ·rw [if_pos c1] at h; exact absurd h (by simp)
   rw [if_neg c1] at h
   by_cases c2 : badH (l.drop (nE l d)) = true
   ·rw [if_pos c2] at h; exact absurd h (by simp)
   rw [if_neg c2] at h
   simp only [Option.some.injEq,Prod.mk.injEq] at h
   obtain ⟨e1,e2,e3,e4⟩ := h
   have hdn : d ≤ n := by rw [← e2]; unfold nE; split <;> omega
   rw [nmS_take l 0 0 n2 d n hm (by omega)]
   simp only
   have e5 : nbTy ((l.take n).drop d) = nbTy (l.drop d) := by
    rw [List.drop_take]
    by_cases hz : n - d = 0
    ·rw [hz,List.take_zero]
     have : nE l d = d := by omega
     unfold nE at this
     by_cases ht : nbTy (l.drop d) = 1
     ·rw [ht]; rfl
     ·rw [if_neg ht] at this; omega
    ·exact nbTy_take (by omega) _
   have e6 : nE (l.take n) d = n := by unfold nE; rw [e5]; exact e2
   rw [hd0_take hn,if_neg c1,e6,e5,List.drop_eq_nil_of_le (by rw [List.length_take]; omega)]
   rw [if_neg (by decide),e1,e3,e4]
 rw [if_neg hg] at h ⊢
 cases hm : mO l with
 | none => rw [hm] at h; exact absurd h (by simp)
 | some i =>
  have ht := mO_take hm
  rw [hm] at h
  simp only [Option.some.injEq,Prod.mk.injEq] at h
  obtain ⟨e1,e2,e3,e4⟩ := h
  have : mO (l.take n) = some i := by
   unfold mO at hm ⊢
   rw [List.find?_range_eq_some] at hm ⊢
   refine ⟨?_,hm.2.1,fun j hj => ?_⟩
   ·unfold mB
    rw [Bool.and_eq_true]
    refine ⟨decide_eq_true (by rw [List.length_take]; omega),?_⟩
    rw [List.take_take,← e2,Nat.min_self,ht.2.1]; simp
   ·have := hm.2.2 j hj
    cases hb : mB (l.take n) j with
    | false => rfl
    | true => rw [mB_take hb] at this; exact absurd this (by simp)
  rw [this]
  simp only
  rw [e1,e2,← e3,← e4]
def pbT (s : ByteArray) (a : Nat) : Tk := if nbE s a = 0 then nbT s a else tkP a
theorem pb_no {s : ByteArray} {a : Nat} (h : nbO s a = none) : Hid (pbT s a = tkP a ∧ nbE s a = 113) := by
 obtain ⟨_,h2⟩ := (nb_no h).out
 exact ⟨by unfold pbT; rw [h2,if_neg (by decide)],h2⟩
theorem pb_yes {s : ByteArray} {a n e : Nat} {ty : Int} (h : nbO s a = some (n,e,ty)) : Hid (pbT s a = ⟨3,s.extract a e,ty,n,a⟩ ∧ nbE s a = 0) := by
 obtain ⟨h1,h2⟩ := (nb_yes h).out
 exact ⟨by unfold pbT; rw [h2,if_pos rfl,h1],h2⟩
def nbM (o : Option Nat) (g bg : Bool) (e : Nat) (ty : Int) : Option (Nat × Nat × Int) := match o with | none => none | some n => if g = true then none else if bg = true then none else some (n,e,ty)
theorem nbM_of {s : ByteArray} {a d e : Nat} (hd : d = a + lead digB (rest s a)) (he : e = if nbTy (rest s d) = 1 then d else d + 1) :
  nbO s a = nbM (wv ((rest s a).take (lead digB (rest s a))) 0) (decide (d - a > 1) && hd0 (rest s a)) (badH (rest s e)) e (nbTy (rest s d)) := by
 rw [nbO_parts s a d e hd he]
 unfold nbM
 cases wv ((rest s a).take (lead digB (rest s a))) 0 with
 | none => rfl
 | some n =>
  simp only
  by_cases h : d - a > 1 ∧ hd0 (rest s a) = true
  ·rw [if_pos h,if_pos (by rw [decide_eq_true h.1,h.2]; rfl)]
  ·have h2 : (decide (d - a > 1) && hd0 (rest s a)) = false := by
    by_cases h1 : d - a > 1
    ·rw [decide_eq_true h1,Bool.true_and]
     cases hh : hd0 (rest s a)
     ·rfl
     ·exact absurd ⟨h1,hh⟩ h
    ·rw [decide_eq_false h1]; rfl
   rw [if_neg h,h2]; rfl
theorem box_two (s : ByteArray) (w : World) : ∃ W,(w.alloc (.cells #[.string s] 9)).alloc (.cells #[zU 0,.string ⟨#[]⟩,zU 0,zI 0,zI 0] 82) = W ∧
  Hid (TkH W (w§ + 1) tk0) ∧ W.cell? ⟨w§,0,none⟩ = some (.string s) ∧ Hid (Below w§ w W) ∧ W§ = w§ + 2 := by
 refine ⟨_,rfl,?_,?_,below_two w _ _,by rw [size_alloc,size_alloc]⟩
 ·show TkH _ _ _
  have := heap_new (w.alloc (.cells #[.string s] 9)) (.cells (tkA tk0) 82)
  rw [size_alloc] at this
  exact this
 ·exact cell_of (heap_old (heap_new w (.cells #[.string s] 9)) (by rw [size_alloc]; omega)) 0
set_option maxRecDepth 100000 in
set_option maxHeartbeats 2000000 in
theorem numberp_any (s : ByteArray) (a : Nat) (hs : s.size ≤ 140737488355328) (ha : a < s.size) (hdg : hdB digB (rest s a) = true) (w : World) :
  Calls zG 146 #[.string s,zI a] w fun e w' => e = .returned (.tuple #[.agg (tkA (pbT s a)),zI (nbE s a)]) ∧ Below w§ w w' := by
 obtain ⟨d,hd⟩ : ∃ d,d = a + lead digB (rest s a) := ⟨_,rfl⟩
 obtain ⟨e,he⟩ : ∃ e,e = if nbTy (rest s d) = 1 then d else d + 1 := ⟨_,rfl⟩
 have hp0 := lead_pos hdg
 have hd1 : a ≤ d := by omega
 have hd2 : d ≤ s.size := by have := lead_le digB (rest s a); rw [rest_len] at this; omega
 have he1 : a ≤ e := by rw [he]; split <;> omega
 have he2 : e ≤ s.size := by
  rw [he]
  by_cases h : nbTy (rest s d) = 1
  ·rw [if_pos h]; exact hd2
  ·rw [if_neg h]; exact nbTy_nil h
 obtain ⟨x,ex⟩ : ∃ x,s.extract a d = x := ⟨_,rfl⟩
 have hxl : x.data.toList = (rest s a).take (lead digB (rest s a)) := by rw [← ex,hd]; exact ext_list _ _ _
 have hx0 : rest x 0 = (rest s a).take (lead digB (rest s a)) := by rw [← hxl]; unfold rest; simp
 have hxs : x.size = d - a := by rw [← ex]; exact ext_size s a d hd2
 have hx00 : hd0 (rest x 0) = hd0 (rest s a) := by rw [hx0]; exact hd0_take hp0 _
 have hO := nbM_of hd he
 rw [← hx0,← hx00] at hO
 have cT := typed_any s d hs hd2
 rw [← he] at cT
 have cW := worth_any x (by omega) (fun c hc => by rw [hx0] at hc; exact lead_all _ c hc)
 have cP := isPadded_any x (by omega)
 have cG := isGlued_any s e he2
 obtain ⟨W,eW,HR,hc,HB,hz⟩ := box_two s w
 have cR := reachN_any s a w§ hs (Nat.le_of_lt ha) W hc d hd
 obtain ⟨o,ho⟩ : ∃ o,wv (rest x 0) 0 = o := ⟨_,rfl⟩
 rw [ho] at hO cW
 obtain ⟨ty,hty⟩ : ∃ ty,nbTy (rest s d) = ty := ⟨_,rfl⟩
 rw [hty] at hO cT
 rw [hxs] at cP
 obtain ⟨bp,hbp⟩ : ∃ bp,(decide (d - a > 1) && hd0 (rest x 0)) = bp := ⟨_,rfl⟩
 rw [hbp] at hO cP
 obtain ⟨bg,hbg⟩ : ∃ bg,badH (rest s e) = bg := ⟨_,rfl⟩
 rw [hbg] at hO cG
 have HO : Hid (nbO s a = nbM o bp bg e ty) := hO
 obtain ⟨r0,r1,r2,r3,r4⟩ := HR.out.cells
 obtain ⟨f0,f1,f2,f3,f4⟩ := HR.out.froz
 clear hO hd he hp0 hxl hx0 hx00 ho hty hbp hbg hdg
 cases o with
 | none =>
  have K := pb_no HO.out
  simp only [Option.isSome,wvN] at cW
  clear HO
  go_enter Tryz.func146,Tryz.ntmps146
  go_wp2_with (first | (go_at_call 161; refine cR.mono ?_; rintro _ v ⟨rfl,q⟩; obtain rfl := q.symm) | (go_at_call 165; refine (cT _).mono ?_; rintro _ v ⟨rfl,q⟩; obtain rfl := q.symm) | (go_at_call 166; refine (cW _).mono ?_; rintro _ v ⟨rfl,q⟩; obtain rfl := q.symm) | (go_at_call 167; refine (cP _).mono ?_; rintro _ v ⟨rfl,q⟩; obtain rfl := q.symm) | (go_at_call 168; refine (cG _).mono ?_; rintro _ v ⟨rfl,q⟩; obtain rfl := q.symm))
  exact bodyPost_ret (results_two (p := 4) (u := 5) (ty := 82) rfl _ _ (w§ + 1) 82 (tkA (tkP a)) (0,0) _ rfl (HR.out.put (tkP a)) Tryz.underlying82 rfl zK) rfl ⟨by rw [K.out.1,K.out.2]; rfl,below_put HB.out (by omega) _ _ _ _ _⟩
 | some n =>
  simp only [Option.isSome,wvN] at cW
  cases bp
  ·cases bg
   ·have K := pb_yes HO.out
    obtain ⟨y,ey⟩ : ∃ y,s.extract a e = y := ⟨_,rfl⟩
    rw [ey] at K
    clear HO
    go_enter Tryz.func146,Tryz.ntmps146
    go_wp2_with (first | (go_at_call 161; refine cR.mono ?_; rintro _ v ⟨rfl,q⟩; obtain rfl := q.symm) | (go_at_call 165; refine (cT _).mono ?_; rintro _ v ⟨rfl,q⟩; obtain rfl := q.symm) | (go_at_call 166; refine (cW _).mono ?_; rintro _ v ⟨rfl,q⟩; obtain rfl := q.symm) | (go_at_call 167; refine (cP _).mono ?_; rintro _ v ⟨rfl,q⟩; obtain rfl := q.symm) | (go_at_call 168; refine (cG _).mono ?_; rintro _ v ⟨rfl,q⟩; obtain rfl := q.symm))
    exact bodyPost_ret (results_two (p := 4) (u := 5) (ty := 82) rfl _ _ (w§ + 1) 82 (tkA ⟨3,y,ty,n,a⟩) (0,0) _ rfl (HR.out.put ⟨3,y,ty,n,a⟩) Tryz.underlying82 rfl zK) rfl ⟨by rw [K.out.1,K.out.2]; rfl,below_put HB.out (by omega) _ _ _ _ _⟩
   ·have K := pb_no HO.out
    clear HO
    go_enter Tryz.func146,Tryz.ntmps146
    go_wp2_with (first | (go_at_call 161; refine cR.mono ?_; rintro _ v ⟨rfl,q⟩; obtain rfl := q.symm) | (go_at_call 165; refine (cT _).mono ?_; rintro _ v ⟨rfl,q⟩; obtain rfl := q.symm) | (go_at_call 166; refine (cW _).mono ?_; rintro _ v ⟨rfl,q⟩; obtain rfl := q.symm) | (go_at_call 167; refine (cP _).mono ?_; rintro _ v ⟨rfl,q⟩; obtain rfl := q.symm) | (go_at_call 168; refine (cG _).mono ?_; rintro _ v ⟨rfl,q⟩; obtain rfl := q.symm))
    exact bodyPost_ret (results_two (p := 4) (u := 5) (ty := 82) rfl _ _ (w§ + 1) 82 (tkA (tkP a)) (0,0) _ rfl (HR.out.put (tkP a)) Tryz.underlying82 rfl zK) rfl ⟨by rw [K.out.1,K.out.2]; rfl,below_put HB.out (by omega) _ _ _ _ _⟩
  ·have K := pb_no HO.out
   clear HO
   go_enter Tryz.func146,Tryz.ntmps146
   go_wp2_with (first | (go_at_call 161; refine cR.mono ?_; rintro _ v ⟨rfl,q⟩; obtain rfl := q.symm) | (go_at_call 165; refine (cT _).mono ?_; rintro _ v ⟨rfl,q⟩; obtain rfl := q.symm) | (go_at_call 166; refine (cW _).mono ?_; rintro _ v ⟨rfl,q⟩; obtain rfl := q.symm) | (go_at_call 167; refine (cP _).mono ?_; rintro _ v ⟨rfl,q⟩; obtain rfl := q.symm) | (go_at_call 168; refine (cG _).mono ?_; rintro _ v ⟨rfl,q⟩; obtain rfl := q.symm))
   exact bodyPost_ret (results_two (p := 4) (u := 5) (ty := 82) rfl _ _ (w§ + 1) 82 (tkA (tkP a)) (0,0) _ rfl (HR.out.put (tkP a)) Tryz.underlying82 rfl zK) rfl ⟨by rw [K.out.1,K.out.2]; rfl,below_put HB.out (by omega) _ _ _ _ _⟩
def pairB (s : ByteArray) (a : Nat) : Bool := (List.range 6).any (mkB s a)
theorem mk_two (i : Nat) (h : i < 6) : (mk i).size = 2 := by
 have : ∀ i,i < 6 → (mk i).size = 2 := by decide
 exact this i h
theorem mk_one (i : Nat) (h : 6 ≤ i) (h2 : i < 23) : (mk i).size = 1 := by
 have : ∀ i,i < 23 → 6 ≤ i → (mk i).size = 1 := by decide
 exact this i h2 h
theorem mkB_two {s : ByteArray} {a : Nat} (h : a + 2 ≤ s.size) (i : Nat) (hi : i < 6) : mkB s a i = ((s.extract a (a + 2)).toList == (mk i).data.toList) := by
 unfold mkB
 rw [mk_two i hi,decide_eq_true h,ByteArray.toList_eq,Bool.true_and]
theorem pairB_of {s : ByteArray} {a : Nat} (h : a + 2 ≤ s.size) {x : ByteArray} (hx : s.extract a (a + 2) = x) : pairB s a = ((x.toList == [61,61]) || ((x.toList == [33,61]) || ((x.toList == [60,61]) || ((x.toList == [62,61]) || ((x.toList == [38,38]) || (x.toList == [124,124])))))) := by
 unfold pairB
 have e : ∀ i,i < 6 → mkB s a i = (x.toList == (mk i).data.toList) := fun i hi => by rw [mkB_two h i hi,hx]
 rw [show List.range 6 = [0,1,2,3,4,5] from rfl]
 simp only [List.any_cons,List.any_nil,Bool.or_false]
 rw [e 0 (by decide),e 1 (by decide),e 2 (by decide),e 3 (by decide),e 4 (by decide),e 5 (by decide)]
 rfl
theorem pairB_short {s : ByteArray} {a : Nat} (h : ¬ a + 2 ≤ s.size) : pairB s a = false := by
 unfold pairB
 rw [List.any_eq_false]
 intro i hi
 have hi6 : i < 6 := by simpa using hi
 unfold mkB
 rw [mk_two i hi6,decide_eq_false h]
 simp
set_option maxRecDepth 100000 in
set_option maxHeartbeats 4000000 in
theorem isPair_any (s : ByteArray) (a : Nat) (hs : s.size ≤ 140737488355328) (ha : a ≤ s.size) (w : World) :
  Calls zG 169 #[.string s,zI a] w fun e w' => e = .returned (.bool (pairB s a)) ∧ w' = w := by
 by_cases h : a + 2 ≤ s.size
 ·obtain ⟨d,hd⟩ : ∃ d,d = a + 2 := ⟨_,rfl⟩
  have hdI : (a : Int) + 2 = (d : Int) := by omega
  have hd1 : a ≤ d := by omega
  have hd2 : d ≤ s.size := by omega
  have h' : ¬ (s.size : Int) < (d : Int) := by omega
  obtain ⟨x,ex⟩ : ∃ x,s.extract a d = x := ⟨_,rfl⟩
  have hP := pairB_of h (x := x) (by rw [← hd]; exact ex)
  obtain ⟨b,eb⟩ : ∃ b,pairB s a = b := ⟨_,rfl⟩
  rw [eb] at hP ⊢
  have KB : Hid (b = ((x.toList == [61,61]) || ((x.toList == [33,61]) || ((x.toList == [60,61]) || ((x.toList == [62,61]) || ((x.toList == [38,38]) || (x.toList == [124,124]))))))) := hP
  clear hd h hP eb
  cases q0 : (x.toList == [61,61])
  ·cases q1 : (x.toList == [33,61])
   ·cases q2 : (x.toList == [60,61])
    ·cases q3 : (x.toList == [62,61])
     ·cases q4 : (x.toList == [38,38])
      ·cases q5 : (x.toList == [124,124])
       ·have KB2 : Hid (b = false) := by show _ = _; rw [KB.out,q0,q1,q2,q3,q4,q5]; rfl
        clear KB
        go_enter Tryz.func169,Tryz.ntmps169
        go_wp2_with fail
        go_ret
        exact ⟨retB (by rw [KB2.out]),rfl⟩
       ·have KB2 : Hid (b = true) := by show _ = _; rw [KB.out,q0,q1,q2,q3,q4,q5]; simp
        clear KB
        go_enter Tryz.func169,Tryz.ntmps169
        go_wp2_with fail
        go_ret
        exact ⟨retB (by rw [KB2.out]),rfl⟩
      ·have KB2 : Hid (b = true) := by show _ = _; rw [KB.out,q0,q1,q2,q3,q4]; simp
       clear KB
       go_enter Tryz.func169,Tryz.ntmps169
       go_wp2_with fail
       go_ret
       exact ⟨retB (by rw [KB2.out]),rfl⟩
     ·have KB2 : Hid (b = true) := by show _ = _; rw [KB.out,q0,q1,q2,q3]; simp
      clear KB
      go_enter Tryz.func169,Tryz.ntmps169
      go_wp2_with fail
      go_ret
      exact ⟨retB (by rw [KB2.out]),rfl⟩
    ·have KB2 : Hid (b = true) := by show _ = _; rw [KB.out,q0,q1,q2]; simp
     clear KB
     go_enter Tryz.func169,Tryz.ntmps169
     go_wp2_with fail
     go_ret
     exact ⟨retB (by rw [KB2.out]),rfl⟩
   ·have KB2 : Hid (b = true) := by show _ = _; rw [KB.out,q0,q1]; simp
    clear KB
    go_enter Tryz.func169,Tryz.ntmps169
    go_wp2_with fail
    go_ret
    exact ⟨retB (by rw [KB2.out]),rfl⟩
  ·have KB2 : Hid (b = true) := by show _ = _; rw [KB.out,q0]; simp
   clear KB
   go_enter Tryz.func169,Tryz.ntmps169
   go_wp2_with fail
   go_ret
   exact ⟨retB (by rw [KB2.out]),rfl⟩
 ·have h' : (s.size : Int) < (a : Int) + 2 := by omega
  rw [pairB_short h]
  go_enter Tryz.func169,Tryz.ntmps169
  go_wp2_with fail
  go_ret
  exact ⟨rfl,rfl⟩
def marks1 : List UInt8 := [123,125,40,41,44,59,63,58,61,33,60,62,43,45,42,47,37]
theorem index_mem : ∀ (l : List UInt8) (c : UInt8),c ∈ l → 0 ≤ Lib.indexByte l c
 | [],c,h => by simp at h
 | b :: l,c,h => by
  unfold Lib.indexByte
  by_cases hb : b == c
  ·rw [if_pos hb]; exact Int.le_refl _
  ·rw [if_neg hb]
   rw [List.mem_cons] at h
   rcases h with rfl | h
   ·simp at hb
   ·have := index_mem l c h
    rw [if_neg (by simp; omega)]; omega
theorem index_no : ∀ (l : List UInt8) (c : UInt8),c ∉ l → Lib.indexByte l c = -1
 | [],c,h => rfl
 | b :: l,c,h => by
  rw [List.mem_cons,not_or] at h
  have := index_no l c h.2
  unfold Lib.indexByte
  rw [if_neg (by simpa using (fun e : b = c => h.1 e.symm)),this]
  rfl
theorem mkO_at {s : ByteArray} {a i : Nat} (h : mkO s a = some i) : i < 23 ∧ mkB s a i = true ∧ ∀ j,j < i → mkB s a j = false := by
 unfold mkO at h
 rw [List.find?_range_eq_some] at h
 exact ⟨by simpa using h.2.1,h.1,fun j hj => by simpa using h.2.2 j hj⟩
theorem mkB_at {s : ByteArray} {a i : Nat} (h : mkB s a i = true) : a + (mk i).size ≤ s.size ∧ s.extract a (a + (mk i).size) = mk i := by
 unfold mkB at h
 rw [Bool.and_eq_true] at h
 exact ⟨of_decide_eq_true h.1,str_eq (by simpa using h.2)⟩
theorem mark_two {s : ByteArray} {a : Nat} (h : pairB s a = true) : a + 2 ≤ s.size ∧ mkT s a = ⟨4,s.extract a (a + 2),0,0,a⟩ ∧ mkE s a = 0 := by
 unfold pairB at h
 rw [List.any_eq_true] at h
 obtain ⟨j,hj,hm⟩ := h
 have hj6 : j < 6 := by simpa using hj
 cases ho : mkO s a with
 | none =>
  unfold mkO at ho
  rw [List.find?_eq_none] at ho
  exact absurd hm (ho j (by simp; omega))
 | some i =>
  obtain ⟨h1,h2,h3⟩ := mkO_at ho
  have hi6 : i < 6 := by
   by_cases hij : i ≤ j
   ·omega
   ·rw [h3 j (by omega)] at hm; cases hm
  obtain ⟨h4,h5⟩ := mkB_at h2
  rw [mk_two i hi6] at h4 h5
  refine ⟨h4,?_,?_⟩
  ·unfold mkT; rw [ho,h5]
  ·unfold mkE; rw [ho]
theorem ext_one {s : ByteArray} {a : Nat} {c : UInt8} (ha : a < s.size) (hc : s[a] = c) : s.extract a (a + 1) = ⟨#[c]⟩ := by
 rw [ext_eq,rest_at s a ha,hc]; rfl
theorem mark_one {s : ByteArray} {a : Nat} {c : UInt8} (ha : a < s.size) (hc : s[a] = c) (h : pairB s a = false) (hm : c ∈ marks1) : mkT s a = ⟨4,s.extract a (a + 1),0,0,a⟩ ∧ mkE s a = 0 := by
 have hex := ext_one ha hc
 have hj : ∃ j,6 ≤ j ∧ j < 23 ∧ mk j = ⟨#[c]⟩ := by
  have : ∀ c ∈ marks1,∃ j,j < 23 ∧ (6 ≤ j ∧ (mk j).data.toList = [c]) := by decide
  obtain ⟨j,h1,h2,h3⟩ := this c hm
  exact ⟨j,h2,h1,str_eq h3⟩
 obtain ⟨j,j1,j2,j3⟩ := hj
 have hB : mkB s a j = true := by
  unfold mkB
  rw [mk_one j j1 j2,hex,j3,decide_eq_true (by omega)]; simp
 cases ho : mkO s a with
 | none =>
  unfold mkO at ho
  rw [List.find?_eq_none] at ho
  exact absurd hB (ho j (by simp; omega))
 | some i =>
  obtain ⟨h1,h2,_⟩ := mkO_at ho
  have hi6 : 6 ≤ i := by
   by_cases hi : 6 ≤ i
   ·exact hi
   ·unfold pairB at h
    rw [List.any_eq_false] at h
    exact absurd h2 (h i (by simp; omega))
  obtain ⟨h4,h5⟩ := mkB_at h2
  rw [mk_one i hi6 h1] at h4 h5
  refine ⟨?_,?_⟩
  ·unfold mkT; rw [ho,h5]
  ·unfold mkE; rw [ho]
theorem mark_no {s : ByteArray} {a : Nat} {c : UInt8} (ha : a < s.size) (hc : s[a] = c) (h : pairB s a = false) (hm : c ∉ marks1) : mkE s a = 111 := by
 have hex := ext_one ha hc
 cases ho : mkO s a with
 | none => unfold mkE; rw [ho]
 | some i =>
  exfalso
  obtain ⟨h1,h2,_⟩ := mkO_at ho
  have hi6 : 6 ≤ i := by
   by_cases hi : 6 ≤ i
   ·exact hi
   ·unfold pairB at h
    rw [List.any_eq_false] at h
    exact absurd h2 (h i (by simp; omega))
  obtain ⟨h4,h5⟩ := mkB_at h2
  rw [mk_one i hi6 h1,hex] at h5
  have : ∀ i,i < 23 → 6 ≤ i → ∀ c ∈ (mk i).data.toList,c ∈ marks1 := by decide
  exact hm (this i h1 hi6 c (by rw [← h5]; simp))
def pmT (s : ByteArray) (a : Nat) : Tk := if mkE s a = 0 then mkT s a else tkP a
theorem box_one (w : World) : ∃ W,w.alloc (.cells #[zU 0,.string ⟨#[]⟩,zU 0,zI 0,zI 0] 82) = W ∧
  Hid (TkH W w§ tk0) ∧ Hid (Below w§ w W) ∧ W§ = w§ + 1 :=
 ⟨_,rfl,heap_new w _,below_new w _,by rw [size_alloc]⟩
set_option maxRecDepth 100000 in
set_option maxHeartbeats 2000000 in
theorem markp_any (s : ByteArray) (a : Nat) (hs : s.size ≤ 140737488355328) (ha : a < s.size) (w : World) :
  Calls zG 147 #[.string s,zI a] w fun e w' => e = .returned (.tuple #[.agg (tkA (pmT s a)),zI (mkE s a)]) ∧ Below w§ w w' := by
 have haI : (a : Int) < (s.size : Int) := by omega
 obtain ⟨c,hc⟩ : ∃ c,s[a] = c := ⟨_,rfl⟩
 have cI := indexByte_any ZN (c.toNat : Int)
 have hcc : ((c.toNat : Int)).toNat.toUInt8 = c := by simp
 have cP := isPair_any s a hs (Nat.le_of_lt ha)
 obtain ⟨W,eW,HR,HB,hz⟩ := box_one w
 obtain ⟨r0,r1,r2,r3,r4⟩ := HR.out.cells
 obtain ⟨f0,f1,f2,f3,f4⟩ := HR.out.froz
 cases hp : pairB s a
 ·rw [hp] at cP
  by_cases hm : c ∈ marks1
  ·obtain ⟨m1,m2⟩ := mark_one ha hc hp hm
   have hi : 0 ≤ Lib.indexByte marks1 c := index_mem _ _ hm
   obtain ⟨g,hg⟩ : ∃ g,Lib.indexByte marks1 c = g := ⟨_,rfl⟩
   rw [hg] at hi
   have cI2 : ∀ w,Calls zG 170 #[.string ZN,zU (c.toNat : Int)] w fun e w' => e = .returned (zI g) ∧ w' = w := fun w => by
    have := cI w
    rw [hcc,show (ByteArray.mk #[123,125,40,41,44,59,63,58,61,33,60,62,43,45,42,47,37]).data.toList = marks1 from rfl,hg] at this
    exact this
   obtain ⟨d,hd⟩ : ∃ d,d = a + 1 := ⟨_,rfl⟩
   have hdI : (a : Int) + 1 = (d : Int) := by omega
   have hd1 : a ≤ d := by omega
   have hd2 : d ≤ s.size := by omega
   obtain ⟨x,ex⟩ : ∃ x,s.extract a d = x := ⟨_,rfl⟩
   have K : Hid (pmT s a = ⟨4,x,0,0,a⟩ ∧ mkE s a = 0) := ⟨by unfold pmT; rw [m2,if_pos rfl,m1,← hd,ex],m2⟩
   clear m1 m2 hd hm cI hg hcc hp
   go_enter Tryz.func147,Tryz.ntmps147
   go_wp2_with (first | (go_at_call 169; refine (cP _).mono ?_; rintro _ v ⟨rfl,q⟩; obtain rfl := q.symm) | (go_at_call 170; refine (cI2 _).mono ?_; rintro _ v ⟨rfl,q⟩; obtain rfl := q.symm))
   exact bodyPost_ret (results_two (p := 4) (u := 5) (ty := 82) rfl _ _ w§ 82 (tkA ⟨4,x,0,0,a⟩) (0,0) _ rfl (HR.out.put ⟨4,x,0,0,a⟩) Tryz.underlying82 rfl zK) rfl ⟨by rw [K.out.1,K.out.2]; rfl,below_put HB.out (Nat.le_refl _) _ _ _ _ _⟩
  ·have m2 := mark_no ha hc hp hm
   have hi : Lib.indexByte marks1 c = -1 := index_no _ _ hm
   have cI2 : ∀ w,Calls zG 170 #[.string ZN,zU (c.toNat : Int)] w fun e w' => e = .returned (zI (-1)) ∧ w' = w := fun w => by
    have := cI w
    rw [hcc,show (ByteArray.mk #[123,125,40,41,44,59,63,58,61,33,60,62,43,45,42,47,37]).data.toList = marks1 from rfl,hi] at this
    exact this
   have K : Hid (pmT s a = tkP a ∧ mkE s a = 111) := ⟨by unfold pmT; rw [m2,if_neg (by decide)],m2⟩
   clear m2 hm cI hi hcc hp
   go_enter Tryz.func147,Tryz.ntmps147
   go_wp2_with (first | (go_at_call 169; refine (cP _).mono ?_; rintro _ v ⟨rfl,q⟩; obtain rfl := q.symm) | (go_at_call 170; refine (cI2 _).mono ?_; rintro _ v ⟨rfl,q⟩; obtain rfl := q.symm))
   exact bodyPost_ret (results_two (p := 4) (u := 5) (ty := 82) rfl _ _ w§ 82 (tkA (tkP a)) (0,0) _ rfl (HR.out.put (tkP a)) Tryz.underlying82 rfl zK) rfl ⟨by rw [K.out.1,K.out.2]; rfl,below_put HB.out (Nat.le_refl _) _ _ _ _ _⟩
 ·rw [hp] at cP
  obtain ⟨m0,m1,m2⟩ := mark_two hp
  obtain ⟨d,hd⟩ : ∃ d,d = a + 2 := ⟨_,rfl⟩
  have hdI : (a : Int) + 2 = (d : Int) := by omega
  have hd1 : a ≤ d := by omega
  have hd2 : d ≤ s.size := by omega
  obtain ⟨x,ex⟩ : ∃ x,s.extract a d = x := ⟨_,rfl⟩
  have K : Hid (pmT s a = ⟨4,x,0,0,a⟩ ∧ mkE s a = 0) := ⟨by unfold pmT; rw [m2,if_pos rfl,m1,← hd,ex],m2⟩
  clear m0 m1 m2 hd cI hcc hp
  go_enter Tryz.func147,Tryz.ntmps147
  go_wp2_with (go_at_call 169; refine (cP _).mono ?_; rintro _ v ⟨rfl,q⟩; obtain rfl := q.symm)
  exact bodyPost_ret (results_two (p := 4) (u := 5) (ty := 82) rfl _ _ w§ 82 (tkA ⟨4,x,0,0,a⟩) (0,0) _ rfl (HR.out.put ⟨4,x,0,0,a⟩) Tryz.underlying82 rfl zK) rfl ⟨by rw [K.out.1,K.out.2]; rfl,below_put HB.out (Nat.le_refl _) _ _ _ _ _⟩
end Go.Proofs.YtkfabnchhjfjjaaGreatDoor
