import Derived.Test.YtkfabnchhjfjjaaGreatDoorA0
import Derived.Test.YtkfabnchhjfjjaaGreatDoorA18
import Derived.Test.YtkfabnchhjfjjaaGreatDoorA6
namespace Go.Proofs.YtkfabnchhjfjjaaGreatDoor
open Go.RowKit
set_option maxRecDepth 100000 in
theorem is_live {w : World} {b : Nat} {K : PK} {t : Tk} {ts : List Tk} (h : Lv w b K (t :: ts)) (x : ByteArray) (hx : t.x = x → t.k = 1 ∨ t.k = 4) :
  Calls zG 76 #[zP b,.string x] w fun e w' => e = .returned (.bool (decide (t.x = x))) ∧ Below w§ w w' := by
 have cN := live_now h
 clear h
 unfold tkA at cN
 by_cases e : t.x = x
 ·rw [decide_eq_true e]
  rcases hx e with hk | hk
  ·subst e
   rw [hk] at cN
   clear hx hk
   go_enter Tryz.func76,Tryz.ntmps76
   go_wp2_with fail
   refine cN.mono ?_
   rintro e w1 ⟨rfl,hb⟩
   have HB : Hid (Below w§ w w1) := hb
   clear cN hb
   go_wp2_with fail
   go_ret
   exact ⟨rfl,below2 HB.out (below_new _ _)⟩
  ·subst e
   rw [hk] at cN
   clear hx hk
   go_enter Tryz.func76,Tryz.ntmps76
   go_wp2_with fail
   refine cN.mono ?_
   rintro e w1 ⟨rfl,hb⟩
   have HB : Hid (Below w§ w w1) := hb
   clear cN hb
   go_wp2_with fail
   go_ret
   exact ⟨rfl,below2 HB.out (below_new _ _)⟩
 ·have hs := str_ne e
  rw [decide_eq_false e]
  clear hx e
  go_enter Tryz.func76,Tryz.ntmps76
  go_wp2_with fail
  refine cN.mono ?_
  rintro e w1 ⟨rfl,hb⟩
  have HB : Hid (Below w§ w w1) := hb
  clear cN hb
  go_wp2_with fail
  go_ret
  exact ⟨rfl,below2 HB.out (below_new _ _)⟩
set_option maxRecDepth 100000 in
theorem is_dead {w : World} {b : Nat} {K : PK} {f : Ft} (h : Dd w b K f) (x : ByteArray) (hx : x ≠ ⟨#[]⟩) :
  Calls zG 76 #[zP b,.string x] w fun e w' => e = .returned (.bool false) ∧ Below w§ w w' := by
 have cN := dead_now h
 clear h
 unfold tkA tk0 at cN
 have hs0 : ¬ x.toList = [] := fun e => hx (ba_ext2 (by rw [ByteArray.toList_eq] at e; exact e))
 have hs : x.toList.isEmpty = false := by cases hl : x.toList with | nil => exact absurd hl hs0 | cons _ _ => rfl
 clear hx
 go_enter Tryz.func76,Tryz.ntmps76
 go_wp2_with fail
 refine cN.mono ?_
 rintro e w1 ⟨rfl,hb⟩
 have HB : Hid (Below w§ w w1) := hb
 clear cN hb
 go_wp2_with fail
 go_ret
 exact ⟨rfl,below2 HB.out (below_new _ _)⟩
def fnd (y : ByteArray) : List ByteArray → Nat → Int
 | [],_ => -1
 | x :: xs,i => if y = x then (i : Int) else fnd y xs (i + 1)
theorem fnd_none (y : ByteArray) : ∀ (L : List ByteArray) (k : Nat),(∀ j (h : j < L.length),y ≠ L[j]) → fnd y L k = -1 := by
 intro L
 induction L with
 | nil => intro k _; rfl
 | cons x xs ih =>
  intro k h
  have h0 := h 0 (by simp)
  simp only [List.getElem_cons_zero] at h0
  rw [fnd,if_neg h0]
  exact ih (k + 1) (fun j hj => by have := h (j + 1) (by simpa using hj); simpa using this)
theorem fnd_at (y : ByteArray) : ∀ (L : List ByteArray) (k i : Nat) (hi : i < L.length),(∀ j (h : j < L.length),j < i → y ≠ L[j]) → y = L[i] → fnd y L k = ((k + i : Nat) : Int) := by
 intro L
 induction L with
 | nil => intro k i hi; simp at hi
 | cons x xs ih =>
  intro k i hi h he
  cases i with
  | zero =>
   simp only [List.getElem_cons_zero] at he
   rw [fnd,if_pos he]
   simp
  | succ i =>
   have h0 := h 0 (by simp) (by omega)
   simp only [List.getElem_cons_zero] at h0
   rw [fnd,if_neg h0,ih (k + 1) i (by simpa using hi) (fun j hj hji => by have := h (j + 1) (by simpa using hj) (by omega); simpa using this) (by simpa using he)]
   congr 1
   omega
def SLs (w : World) (A : Nat) (L : List ByteArray) : Prop := ∀ j (hj : j < L.length),w.cell? ⟨A,j,none⟩ = some (.string L[j])
theorem SLs.on {w w' : World} {A : Nat} {L : List ByteArray} (h : SLs w A L) (k : Below w§ w w') : SLs w' A L := fun j hj =>
 (World.cell?_of_block (k.block A (World.block_lt_of_cell? w _ (h j hj)))).trans (h j hj)
set_option maxRecDepth 100000 in
theorem any_live {w : World} {b : Nat} {K : PK} {t0 : Tk} {ts : List Tk} (h : Lv w b K (t0 :: ts)) {A : Nat} {L : List ByteArray} {c : Nat} (hL : SLs w A L) (hn : L.length ≤ 1000) (hx : ∀ x ∈ L,t0.x = x → t0.k = 1 ∨ t0.k = 4) :
  Calls zG 110 #[zP b,.slice (some ⟨A,0,none⟩) L.length c] w fun e w' => e = .returned (zI (fnd t0.x L 0)) ∧ Below w§ w w' := by
 have HH := h.hid
 have HL : Hid (SLs w A L) := hL
 have HX := hx
 clear h hL hx
 go_enter Tryz.func110,Tryz.ntmps110
 go_wp2_with fail
 go_loopw [5,6] (fun t _ wr => ∃ i : Nat,i ≤ L.length ∧ t = zI i ∧ Hid (Below w§ w wr) ∧ Hid (∀ j (h : j < L.length),j < i → t0.x ≠ L[j])) (fun t _ _ => L.length - (intOf t).toNat)
 case atStart => exact ⟨0,by omega,rfl,Below.refl _ _,fun j _ hj => by omega⟩
 case round =>
  obtain ⟨i,hi,rfl,HR,HJ⟩ := hrel
  by_cases hlt : i < L.length
  ·have hlt' : (i : Int) < (L.length : Int) := by omega
   have cs := (HL.out.on HR.out) i hlt
   have cI := is_live (HH.out.on HR.out) L[i] (HX L[i] (List.getElem_mem hlt))
   have hmx : (i : Int) + 1 ≤ 9223372036854775807 := by omega
   obtain ⟨x,ex⟩ : ∃ x,L[i] = x := ⟨_,rfl⟩
   have HEX : Hid (L[i] = x) := ex
   rw [ex] at cs cI
   clear ex
   by_cases he : t0.x = x
   ·rw [decide_eq_true he] at cI
    have HE : Hid (t0.x = x) := he
    clear he
    go_wp2_with fail
    refine cI.mono ?_
    rintro e w1 ⟨rfl,hb⟩
    have HB1 : Hid (Below w§ w w1) := below2 HR.out hb
    clear cI hb cs
    go_wp2_with fail
    go_ret
    exact ⟨by show Ending.returned (zI (i : Int)) = _; rw [fnd_at t0.x L 0 i hlt HJ.out (by rw [HEX.out,HE.out])]; simp,HB1.out⟩
   ·rw [decide_eq_false he] at cI
    have HE : Hid (¬ t0.x = x) := he
    clear he
    go_wp2_with fail
    refine cI.mono ?_
    rintro e w1 ⟨rfl,hb⟩
    have HB1 : Hid (Below w§ w w1) := below2 HR.out hb
    clear cI hb cs
    go_wp2_with fail
    exact ⟨⟨i + 1,hlt,rfl,HB1,fun j hj hji => by
     by_cases e : j = i
     ·subst e; rw [HEX.out]; exact HE.out
     ·exact HJ.out j hj (by omega)⟩,by simp only [intOf]; omega⟩
  ·obtain rfl : i = L.length := by omega
   have hnot : ¬ (L.length : Int) < (L.length : Int) := by omega
   go_wp2_with fail
   go_ret
   exact ⟨by show Ending.returned (zI (-1)) = _; rw [fnd_none t0.x L 0 (fun j hj => HJ.out j hj hj)],HR.out⟩
set_option maxRecDepth 100000 in
theorem any_dead {w : World} {b : Nat} {K : PK} {f : Ft} (h : Dd w b K f) {A : Nat} {L : List ByteArray} {c : Nat} (hL : SLs w A L) (hn : L.length ≤ 1000) (hx : ∀ x ∈ L,x ≠ ⟨#[]⟩) :
  Calls zG 110 #[zP b,.slice (some ⟨A,0,none⟩) L.length c] w fun e w' => e = .returned (zI (-1)) ∧ Below w§ w w' := by
 have HH := h.hid
 have HL : Hid (SLs w A L) := hL
 have HX := hx
 clear h hL hx
 go_enter Tryz.func110,Tryz.ntmps110
 go_wp2_with fail
 go_loopw [5,6] (fun t _ wr => ∃ i : Nat,i ≤ L.length ∧ t = zI i ∧ Hid (Below w§ w wr)) (fun t _ _ => L.length - (intOf t).toNat)
 case atStart => exact ⟨0,by omega,rfl,Below.refl _ _⟩
 case round =>
  obtain ⟨i,hi,rfl,HR⟩ := hrel
  by_cases hlt : i < L.length
  ·have hlt' : (i : Int) < (L.length : Int) := by omega
   have cs := (HL.out.on HR.out) i hlt
   have cI := is_dead (HH.out.on HR.out) L[i] (HX L[i] (List.getElem_mem hlt))
   have hmx : (i : Int) + 1 ≤ 9223372036854775807 := by omega
   obtain ⟨x,ex⟩ : ∃ x,L[i] = x := ⟨_,rfl⟩
   rw [ex] at cs cI
   clear ex
   go_wp2_with fail
   refine cI.mono ?_
   rintro e w1 ⟨rfl,hb⟩
   have HB1 : Hid (Below w§ w w1) := below2 HR.out hb
   clear cI hb cs
   go_wp2_with fail
   exact ⟨⟨i + 1,hlt,rfl,HB1⟩,by simp only [intOf]; omega⟩
  ·obtain rfl : i = L.length := by omega
   have hnot : ¬ (L.length : Int) < (L.length : Int) := by omega
   go_wp2_with fail
   go_ret
   exact ⟨rfl,HR.out⟩
theorem Lv.at' {w : World} {b : Nat} {K : PK} {t : Tk} {ts : List Tk} (h : Lv w b K (t :: ts)) : ∃ i : Nat,w.cell? ⟨b,3,none⟩ = some (zI i) ∧ w.frozen? ⟨b,3,none⟩ = false ∧ (i : Int) + 1 ≤ 9223372036854775807 ∧
  Lv (w.setCell ⟨b,3,none⟩ (zI ((i : Int) + 1))) b K ts ∧ Mv w (w.setCell ⟨b,3,none⟩ (zI ((i : Int) + 1))) (fun k => k = b) ∧ (∀ k,k ≠ b → (w.setCell ⟨b,3,none⟩ (zI ((i : Int) + 1))).heap[k]? = w.heap[k]?) ∧ (w.setCell ⟨b,3,none⟩ (zI ((i : Int) + 1)))§ = w§ := by
 obtain ⟨i,p,u,h1,h2⟩ := h
 have hi : i < K.T.length := by
  have := congrArg List.length h2
  simp at this
  omega
 have ets : ts = K.T.drop (i + 1) := by
  have := congrArg List.tail h2
  simpa using this
 have hm := h1.m
 have hb : (w.setCell ⟨b,3,none⟩ (zI ((i : Int) + 1))).heap[b]? = some (.cells #[.slice K.a K.T.length K.c,zI K.be,zI K.ba,zI ((i : Int) + 1),zI 0,zI p,.bool u] 96 (0,0)) := heap_set _ h1.h
 refine ⟨i,cell_of h1.h 3,frozen_of h1.h 3,by omega,⟨i + 1,p,u,?_,ets⟩,Mv.setCell (F := fun k => k = b) (a := ⟨b,3,none⟩) (Mv.refl _ _) (.inl rfl) _,fun k hk => Below.heap_setCell _ _ _ _ hk,by simp [World.setCell]⟩
 exact h1.new (fun c hc _ => Below.heap_setCell _ _ _ _ hc) hi h1.z (by rw [hb]; simp)
set_option maxRecDepth 100000 in
theorem take_live {w : World} {b : Nat} {K : PK} {t : Tk} {ts : List Tk} (h : Lv w b K (t :: ts)) (x : ByteArray) (hx : t.x = x → t.k = 1 ∨ t.k = 4) :
  Calls zG 74 #[zP b,.string x] w fun e w' => (∃ p,e = .returned (zI p) ∧ (t.x = x → p = t.p)) ∧ (if t.x = x then Lv w' b K ts else Dd w' b K (.tok 130 t.p)) ∧ Mv w w' (fun k => k = b) := by
 have cI := is_live h x hx
 have HH := h.hid
 clear h hx
 by_cases e : t.x = x
 ·rw [decide_eq_true e] at cI
  simp only [e,if_true]
  clear e
  go_enter Tryz.func74,Tryz.ntmps74
  go_wp2_with fail
  refine cI.mono ?_
  rintro e w1 ⟨rfl,hb⟩
  have HB1 : Hid (Below w§ w w1) := hb
  have cN := live_now (HH.out.on hb)
  have hf := fun v => field82_4 t v
  clear cI hb
  go_wp2_with fail
  refine cN.mono ?_
  rintro e w2 ⟨rfl,hb⟩
  have HB2 : Hid (Below w§ w w2) := below2 HB1.out hb
  obtain ⟨i,c3,f3,hmx,hL,hM,_,_⟩ := (HH.out.on HB2.out).at'
  have HL := hL.hid
  have HM : Hid (Mv w2 _ (fun k => k = b)) := hM
  clear cN hb hL hM
  go_wp2_with fail
  go_ret
  exact ⟨⟨t.p,rfl,fun _ => rfl⟩,HL.out,(Mv.ofBelow HB2.out).trans HM.out (fun k e => .inl e)⟩
 ·rw [decide_eq_false e] at cI
  simp only [e,if_false,false_implies]
  clear e
  go_enter Tryz.func74,Tryz.ntmps74
  go_wp2_with fail
  refine cI.mono ?_
  rintro e w1 ⟨rfl,hb⟩
  have HB1 : Hid (Below w§ w w1) := hb
  have cN := wrong_live (HH.out.on hb) 130 (by decide)
  clear cI hb
  go_wp2_with fail
  refine cN.mono ?_
  rintro e w2 ⟨rfl,hd,hm⟩
  have HD := hd.hid
  have HM : Hid (Mv w1 w2 (fun k => k = b)) := hm
  clear cN hd hm
  go_wp2_with fail
  go_ret
  exact ⟨⟨0,rfl,trivial⟩,HD.out,(Mv.ofBelow HB1.out).trans HM.out (fun k e => .inl e)⟩
set_option maxRecDepth 100000 in
theorem take_dead {w : World} {b : Nat} {K : PK} {f : Ft} (h : Dd w b K f) (x : ByteArray) (hx : x ≠ ⟨#[]⟩) :
  Calls zG 74 #[zP b,.string x] w fun e w' => (∃ p,e = .returned (zI p)) ∧ Dd w' b K f ∧ Mv w w' (fun k => k = b) := by
 have cI := is_dead h x hx
 have HH := h.hid
 clear h hx
 go_enter Tryz.func74,Tryz.ntmps74
 go_wp2_with fail
 refine cI.mono ?_
 rintro e w1 ⟨rfl,hb⟩
 have HB1 : Hid (Below w§ w w1) := hb
 have cN := wrong_dead (HH.out.on hb) 130
 clear cI hb
 go_wp2_with fail
 refine cN.mono ?_
 rintro e w2 ⟨rfl,hd,hm⟩
 have HD := hd.hid
 have HM : Hid (Mv w1 w2 (fun k => k = b)) := hm
 clear cN hd hm
 go_wp2_with fail
 go_ret
 exact ⟨⟨0,rfl⟩,HD.out,(Mv.ofBelow HB1.out).trans HM.out (fun k e => .inl e)⟩
set_option maxRecDepth 100000 in
theorem deeper_ok {w : World} {b : Nat} {K : PK} {t : Tk} {ts : List Tk} (h : Lv w b K (t :: ts)) (d : Nat) (hd : d < 24) :
  Calls zG 91 #[zP b,zI d] w fun e w' => e = .returned (.bool true) ∧ w' = w := by
 obtain ⟨i,p,u,h1,h2⟩ := h
 have cO := over_no h1
 have h3 : ¬ (24 : Int) < (d : Int) + 1 := by omega
 have h4 : decide ((24 : Int) < (d : Int) + 1) = false := decide_eq_false h3
 have h5 : (d : Int) + 1 ≤ 9223372036854775807 := by omega
 clear h1 h2
 go_enter Tryz.func91,Tryz.ntmps91
 go_wp2_with fail
 refine cO.mono ?_
 rintro e w1 ⟨rfl,rfl⟩
 go_wp2_with fail
 go_ret
 exact ⟨rfl,rfl⟩
set_option maxRecDepth 100000 in
theorem deeper_no {w : World} {b : Nat} {K : PK} {t : Tk} {ts : List Tk} (h : Lv w b K (t :: ts)) (d : Nat) (hd : ¬ d < 24) (hm : d ≤ 1000) :
  Calls zG 91 #[zP b,zI d] w fun e w' => e = .returned (.bool false) ∧ Dd w' b K (.tok 132 t.p) ∧ Mv w w' (fun k => k = b) := by
 have cW := wrong_live h 132 (by decide)
 have h3 : (24 : Int) < (d : Int) + 1 := by omega
 have h4 : decide ((24 : Int) < (d : Int) + 1) = true := decide_eq_true h3
 have h5 : (d : Int) + 1 ≤ 9223372036854775807 := by omega
 clear h
 go_enter Tryz.func91,Tryz.ntmps91
 go_wp2_with fail
 refine cW.mono ?_
 rintro e w1 ⟨rfl,hd,hm⟩
 have HD := hd.hid
 have HM : Hid (Mv w w1 (fun k => k = b)) := hm
 obtain ⟨i,h6,h7⟩ := hd
 have cO := over_yes h6 h7
 clear cW hm h6 h7
 go_wp2_with fail
 refine cO.mono ?_
 rintro e w2 ⟨rfl,rfl⟩
 go_wp2_with fail
 go_ret
 exact ⟨rfl,HD.out,HM.out⟩
end Go.Proofs.YtkfabnchhjfjjaaGreatDoor
