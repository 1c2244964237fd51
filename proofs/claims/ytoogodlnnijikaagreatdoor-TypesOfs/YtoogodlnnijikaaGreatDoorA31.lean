import Derived.Test.YtoogodlnnijikaaGreatDoorA0
import Derived.Test.YtoogodlnnijikaaGreatDoorA25
import Derived.Test.YtoogodlnnijikaaGreatDoorA26
namespace Go.Proofs.YtoogodlnnijikaaGreatDoor
open Go.RowKit
set_option linter.unusedVariables false
set_option linter.unusedSimpArgs false
theorem rnum_any (t : Int) (w : World) : Calls zG 122 #[zU t] w fun e w' => e = .returned (.bool (numY t)) ∧ w' = w := by
  unfold numY
  obtain ⟨p, hp⟩ : ∃ p, decide (1 ≤ t) = p := ⟨_, rfl⟩
  obtain ⟨q, hq⟩ : ∃ q, decide (t ≤ 4) = q := ⟨_, rfl⟩
  rw [hp, hq]
  cases p <;> cases q <;> (go_enter Tryz.func122, Tryz.ntmps122; go_wp2_with fail; go_ret; exact ⟨rfl, rfl⟩)
def dProd (a b : Int) : Int := if a == 1 && numY b then b else if b == 1 && numY a then a else if (a == 3 && b == 2) || (a == 2 && b == 3) then 1 else 0
def dQuot (a b : Int) : Int := if numY a && b == 1 then a else if numY a && a == b then 1 else 0
def dTwo (o a b : Int) : Int × Bool :=
  if o == 6 then (a, a == b && numY a) else if o == 7 then (a, a == b && numY a) else if o == 10 then (a, a == b && numY a) else if o == 4 then (a, a == b && numY a) else if o == 5 then (a, a == b && numY a)
  else if o == 8 then (dProd a b, dProd a b != 0) else if o == 9 then (dQuot a b, dQuot a b != 0)
  else if o == 11 then (5, a == b) else if o == 12 then (5, a == b) else if o == 17 then (5, a == b && a == 5) else if o == 18 then (5, a == b && a == 5) else (5, a == b && numY a)
set_option maxRecDepth 100000 in
set_option maxHeartbeats 8000000 in
theorem rprod_any (a b : Int) (w : World) : Calls zG 154 #[zU a, zU b] w fun e w' => e = .returned (zU (dProd a b)) ∧ w' = w := by
  have HE : Hid (dProd a b = if a == 1 && numY b then b else if b == 1 && numY a then a else if (a == 3 && b == 2) || (a == 2 && b == 3) then 1 else 0) := rfl
  have cA := rnum_any a
  have cB := rnum_any b
  obtain ⟨r, er⟩ : ∃ r, dProd a b = r := ⟨_, rfl⟩
  rw [er] at HE ⊢
  clear er
  obtain ⟨A, eA⟩ : ∃ A, numY a = A := ⟨_, rfl⟩
  obtain ⟨B, eB⟩ : ∃ B, numY b = B := ⟨_, rfl⟩
  simp only [eA] at cA HE
  simp only [eB] at cB HE
  by_cases h1 : a = 1
  · have p0 : (a == 1) = true := by simpa using h1
    simp only [p0] at HE
    cases B
    · have p1 : (b == 1) = false := by
        cases hb : (b == 1) with
        | false => rfl
        | true => have e : b = 1 := by simpa using hb
                  rw [e] at eB; cases eB
      have p2 : (a == 3) = false := by rw [h1]; rfl
      have p3 : (a == 2) = false := by rw [h1]; rfl
      simp only [p1, p2, p3] at HE
      clear h1 eA eB
      (go_enter Tryz.func154, Tryz.ntmps154; go_wp2_with (go_at_call 122; first | (refine (cA _).mono ?_; rintro e w1 ⟨rfl, e1⟩; obtain rfl := e1.symm) | (refine (cB _).mono ?_; rintro e w1 ⟨rfl, e1⟩; obtain rfl := e1.symm)); go_ret; exact ⟨by rw [HE.out]; rfl, rfl⟩)
    · clear h1 eA eB
      (go_enter Tryz.func154, Tryz.ntmps154; go_wp2_with (go_at_call 122; first | (refine (cA _).mono ?_; rintro e w1 ⟨rfl, e1⟩; obtain rfl := e1.symm) | (refine (cB _).mono ?_; rintro e w1 ⟨rfl, e1⟩; obtain rfl := e1.symm)); go_ret; exact ⟨by rw [HE.out]; rfl, rfl⟩)
  · have p0 : (a == 1) = false := by simpa using h1
    simp only [p0] at HE
    by_cases h2 : b = 1
    · have p1 : (b == 1) = true := by simpa using h2
      have p2 : (b == 2) = false := by rw [h2]; rfl
      have p3 : (b == 3) = false := by rw [h2]; rfl
      simp only [p1, p2, p3] at HE
      cases A
      · obtain ⟨p4, h4⟩ : ∃ p, (a == 3) = p := ⟨_, rfl⟩
        obtain ⟨p5, h5⟩ : ∃ p, (a == 2) = p := ⟨_, rfl⟩
        simp only [h4, h5] at HE
        clear h1 h2 eA eB
        cases p4 <;> cases p5 <;> (go_enter Tryz.func154, Tryz.ntmps154; go_wp2_with (go_at_call 122; first | (refine (cA _).mono ?_; rintro e w1 ⟨rfl, e1⟩; obtain rfl := e1.symm) | (refine (cB _).mono ?_; rintro e w1 ⟨rfl, e1⟩; obtain rfl := e1.symm)); go_ret; exact ⟨by rw [HE.out]; rfl, rfl⟩)
      · clear h1 h2 eA eB
        (go_enter Tryz.func154, Tryz.ntmps154; go_wp2_with (go_at_call 122; first | (refine (cA _).mono ?_; rintro e w1 ⟨rfl, e1⟩; obtain rfl := e1.symm) | (refine (cB _).mono ?_; rintro e w1 ⟨rfl, e1⟩; obtain rfl := e1.symm)); go_ret; exact ⟨by rw [HE.out]; rfl, rfl⟩)
    · have p1 : (b == 1) = false := by simpa using h2
      simp only [p1] at HE
      obtain ⟨p4, h4⟩ : ∃ p, (a == 3) = p := ⟨_, rfl⟩
      obtain ⟨p5, h5⟩ : ∃ p, (a == 2) = p := ⟨_, rfl⟩
      obtain ⟨p6, h6⟩ : ∃ p, (b == 2) = p := ⟨_, rfl⟩
      obtain ⟨p7, h7⟩ : ∃ p, (b == 3) = p := ⟨_, rfl⟩
      simp only [h4, h5, h6, h7] at HE
      clear h1 h2 eA eB
      cases p4
      · cases p5
        · (go_enter Tryz.func154, Tryz.ntmps154; go_wp2_with (go_at_call 122; first | (refine (cA _).mono ?_; rintro e w1 ⟨rfl, e1⟩; obtain rfl := e1.symm) | (refine (cB _).mono ?_; rintro e w1 ⟨rfl, e1⟩; obtain rfl := e1.symm)); go_ret; exact ⟨by rw [HE.out]; rfl, rfl⟩)
        · cases p7 <;> (go_enter Tryz.func154, Tryz.ntmps154; go_wp2_with (go_at_call 122; first | (refine (cA _).mono ?_; rintro e w1 ⟨rfl, e1⟩; obtain rfl := e1.symm) | (refine (cB _).mono ?_; rintro e w1 ⟨rfl, e1⟩; obtain rfl := e1.symm)); go_ret; exact ⟨by rw [HE.out]; rfl, rfl⟩)
      · cases p6
        · cases p5
          · (go_enter Tryz.func154, Tryz.ntmps154; go_wp2_with (go_at_call 122; first | (refine (cA _).mono ?_; rintro e w1 ⟨rfl, e1⟩; obtain rfl := e1.symm) | (refine (cB _).mono ?_; rintro e w1 ⟨rfl, e1⟩; obtain rfl := e1.symm)); go_ret; exact ⟨by rw [HE.out]; rfl, rfl⟩)
          · cases p7 <;> (go_enter Tryz.func154, Tryz.ntmps154; go_wp2_with (go_at_call 122; first | (refine (cA _).mono ?_; rintro e w1 ⟨rfl, e1⟩; obtain rfl := e1.symm) | (refine (cB _).mono ?_; rintro e w1 ⟨rfl, e1⟩; obtain rfl := e1.symm)); go_ret; exact ⟨by rw [HE.out]; rfl, rfl⟩)
        · (go_enter Tryz.func154, Tryz.ntmps154; go_wp2_with (go_at_call 122; first | (refine (cA _).mono ?_; rintro e w1 ⟨rfl, e1⟩; obtain rfl := e1.symm) | (refine (cB _).mono ?_; rintro e w1 ⟨rfl, e1⟩; obtain rfl := e1.symm)); go_ret; exact ⟨by rw [HE.out]; rfl, rfl⟩)
set_option maxRecDepth 100000 in
set_option maxHeartbeats 8000000 in
theorem rquot_any (a b : Int) (w : World) : Calls zG 155 #[zU a, zU b] w fun e w' => e = .returned (zU (dQuot a b)) ∧ w' = w := by
  have HE : Hid (dQuot a b = if numY a && b == 1 then a else if numY a && a == b then 1 else 0) := rfl
  have cA := rnum_any a
  obtain ⟨r, er⟩ : ∃ r, dQuot a b = r := ⟨_, rfl⟩
  rw [er] at HE ⊢
  clear er
  obtain ⟨A, eA⟩ : ∃ A, numY a = A := ⟨_, rfl⟩
  simp only [eA] at cA HE
  clear eA
  obtain ⟨p0, hp0⟩ : ∃ p, (b == 1) = p := ⟨_, rfl⟩
  simp only [hp0] at HE
  obtain ⟨p1, hp1⟩ : ∃ p, (a == b) = p := ⟨_, rfl⟩
  simp only [hp1] at HE
  cases A <;> cases p0 <;> cases p1 <;> (go_enter Tryz.func155, Tryz.ntmps155; go_wp2_with (go_at_call 122; refine (cA _).mono ?_; rintro e w1 ⟨rfl, e1⟩; obtain rfl := e1.symm); go_ret; exact ⟨by rw [HE.out]; rfl, rfl⟩)
set_option maxRecDepth 100000 in
set_option maxHeartbeats 16000000 in
theorem rtwo_any (o a b:Int) (w:World):Calls zG 123 #[zU o,zU a,zU b] w fun e w'=>e=.returned (two (dTwo o a b))∧w'=w:=by
 cases h6:(o == 6) with
 | true =>
  have HE:Hid (dTwo o a b=(a,a == b && numY a)):=by show _=_; simp [dTwo,h6]
  have cA:=rnum_any a
  obtain⟨A,eA⟩:∃ A,numY a=A:=⟨_,rfl⟩
  simp only [eA] at cA HE
  obtain⟨E,eE⟩:∃ E,(a == b)=E:=⟨_,rfl⟩
  simp only [eE] at HE
  clear eA
  cases A <;> cases E <;> (go_enter Tryz.func123,Tryz.ntmps123; go_wp2_with (go_at_call 122; refine (cA _).mono ?_; rintro e w1 ⟨rfl,e1⟩; obtain rfl:=e1.symm); go_ret2; exact⟨by rw [HE.out]; rfl,rfl⟩)
 | false =>
  cases h7:(o == 7) with
  | true =>
   have HE:Hid (dTwo o a b=(a,a == b && numY a)):=by show _=_; simp [dTwo,h6,h7]
   have cA:=rnum_any a
   obtain⟨A,eA⟩:∃ A,numY a=A:=⟨_,rfl⟩
   simp only [eA] at cA HE
   obtain⟨E,eE⟩:∃ E,(a == b)=E:=⟨_,rfl⟩
   simp only [eE] at HE
   clear eA
   cases A <;> cases E <;> (go_enter Tryz.func123,Tryz.ntmps123; go_wp2_with (go_at_call 122; refine (cA _).mono ?_; rintro e w1 ⟨rfl,e1⟩; obtain rfl:=e1.symm); go_ret2; exact⟨by rw [HE.out]; rfl,rfl⟩)
  | false =>
   cases h10:(o == 10) with
   | true =>
    have HE:Hid (dTwo o a b=(a,a == b && numY a)):=by show _=_; simp [dTwo,h6,h7,h10]
    have cA:=rnum_any a
    obtain⟨A,eA⟩:∃ A,numY a=A:=⟨_,rfl⟩
    simp only [eA] at cA HE
    obtain⟨E,eE⟩:∃ E,(a == b)=E:=⟨_,rfl⟩
    simp only [eE] at HE
    clear eA
    cases A <;> cases E <;> (go_enter Tryz.func123,Tryz.ntmps123; go_wp2_with (go_at_call 122; refine (cA _).mono ?_; rintro e w1 ⟨rfl,e1⟩; obtain rfl:=e1.symm); go_ret2; exact⟨by rw [HE.out]; rfl,rfl⟩)
   | false =>
    cases h4:(o == 4) with
    | true =>
     have HE:Hid (dTwo o a b=(a,a == b && numY a)):=by show _=_; simp [dTwo,h6,h7,h10,h4]
     have cA:=rnum_any a
     obtain⟨A,eA⟩:∃ A,numY a=A:=⟨_,rfl⟩
     simp only [eA] at cA HE
     obtain⟨E,eE⟩:∃ E,(a == b)=E:=⟨_,rfl⟩
     simp only [eE] at HE
     clear eA
     cases A <;> cases E <;> (go_enter Tryz.func123,Tryz.ntmps123; go_wp2_with (go_at_call 122; refine (cA _).mono ?_; rintro e w1 ⟨rfl,e1⟩; obtain rfl:=e1.symm); go_ret2; exact⟨by rw [HE.out]; rfl,rfl⟩)
    | false =>
     cases h5:(o == 5) with
     | true =>
      have HE:Hid (dTwo o a b=(a,a == b && numY a)):=by show _=_; simp [dTwo,h6,h7,h10,h4,h5]
      have cA:=rnum_any a
      obtain⟨A,eA⟩:∃ A,numY a=A:=⟨_,rfl⟩
      simp only [eA] at cA HE
      obtain⟨E,eE⟩:∃ E,(a == b)=E:=⟨_,rfl⟩
      simp only [eE] at HE
      clear eA
      cases A <;> cases E <;> (go_enter Tryz.func123,Tryz.ntmps123; go_wp2_with (go_at_call 122; refine (cA _).mono ?_; rintro e w1 ⟨rfl,e1⟩; obtain rfl:=e1.symm); go_ret2; exact⟨by rw [HE.out]; rfl,rfl⟩)
     | false =>
      cases h8:(o == 8) with
      | true =>
       have HE:Hid (dTwo o a b=(dProd a b,dProd a b != 0)):=by show _=_; simp [dTwo,h6,h7,h10,h4,h5,h8]
       have cP:=rprod_any a b
       obtain⟨r,er⟩:∃ r,dProd a b=r:=⟨_,rfl⟩
       simp only [er] at cP HE
       obtain⟨E,eE⟩:∃ E,(a == b)=E:=⟨_,rfl⟩
       obtain⟨D,eD⟩:∃ D,(r != 0)=D:=⟨_,rfl⟩
       simp only [eD] at HE
       clear er
       cases D <;> (go_enter Tryz.func123,Tryz.ntmps123; go_wp2_with (go_at_call 154; refine (cP _).mono ?_; rintro e w1 ⟨rfl,e1⟩; obtain rfl:=e1.symm); go_ret2; exact⟨by rw [HE.out]; rfl,rfl⟩)
      | false =>
       cases h9:(o == 9) with
       | true =>
        have HE:Hid (dTwo o a b=(dQuot a b,dQuot a b != 0)):=by show _=_; simp [dTwo,h6,h7,h10,h4,h5,h8,h9]
        have cP:=rquot_any a b
        obtain⟨r,er⟩:∃ r,dQuot a b=r:=⟨_,rfl⟩
        simp only [er] at cP HE
        obtain⟨E,eE⟩:∃ E,(a == b)=E:=⟨_,rfl⟩
        obtain⟨D,eD⟩:∃ D,(r != 0)=D:=⟨_,rfl⟩
        simp only [eD] at HE
        clear er
        cases D <;> (go_enter Tryz.func123,Tryz.ntmps123; go_wp2_with (go_at_call 155; refine (cP _).mono ?_; rintro e w1 ⟨rfl,e1⟩; obtain rfl:=e1.symm); go_ret2; exact⟨by rw [HE.out]; rfl,rfl⟩)
       | false =>
        cases h11:(o == 11) with
        | true =>
         have HE:Hid (dTwo o a b=(5,a == b)):=by show _=_; simp [dTwo,h6,h7,h10,h4,h5,h8,h9,h11]
         obtain⟨E,eE⟩:∃ E,(a == b)=E:=⟨_,rfl⟩
         simp only [eE] at HE
         cases E <;> (go_enter Tryz.func123,Tryz.ntmps123; go_wp2_with fail; go_ret2; exact⟨by rw [HE.out]; rfl,rfl⟩)
        | false =>
         cases h12:(o == 12) with
         | true =>
          have HE:Hid (dTwo o a b=(5,a == b)):=by show _=_; simp [dTwo,h6,h7,h10,h4,h5,h8,h9,h11,h12]
          obtain⟨E,eE⟩:∃ E,(a == b)=E:=⟨_,rfl⟩
          simp only [eE] at HE
          cases E <;> (go_enter Tryz.func123,Tryz.ntmps123; go_wp2_with fail; go_ret2; exact⟨by rw [HE.out]; rfl,rfl⟩)
         | false =>
          cases h17:(o == 17) with
          | true =>
           have HE:Hid (dTwo o a b=(5,a == b && a == 5)):=by show _=_; simp [dTwo,h6,h7,h10,h4,h5,h8,h9,h11,h12,h17]
           obtain⟨E,eE⟩:∃ E,(a == b)=E:=⟨_,rfl⟩
           simp only [eE] at HE
           obtain⟨F,eF⟩:∃ E,(a == 5)=E:=⟨_,rfl⟩
           simp only [eF] at HE
           cases E <;> cases F <;> (go_enter Tryz.func123,Tryz.ntmps123; go_wp2_with fail; go_ret2; exact⟨by rw [HE.out]; rfl,rfl⟩)
          | false =>
           cases h18:(o == 18) with
           | true =>
            have HE:Hid (dTwo o a b=(5,a == b && a == 5)):=by show _=_; simp [dTwo,h6,h7,h10,h4,h5,h8,h9,h11,h12,h17,h18]
            obtain⟨E,eE⟩:∃ E,(a == b)=E:=⟨_,rfl⟩
            simp only [eE] at HE
            obtain⟨F,eF⟩:∃ E,(a == 5)=E:=⟨_,rfl⟩
            simp only [eF] at HE
            cases E <;> cases F <;> (go_enter Tryz.func123,Tryz.ntmps123; go_wp2_with fail; go_ret2; exact⟨by rw [HE.out]; rfl,rfl⟩)
           | false =>
            have HE:Hid (dTwo o a b=(5,a == b && numY a)):=by show _=_; simp [dTwo,h6,h7,h10,h4,h5,h8,h9,h11,h12,h17,h18]
            have cA:=rnum_any a
            obtain⟨A,eA⟩:∃ A,numY a=A:=⟨_,rfl⟩
            simp only [eA] at cA HE
            obtain⟨E,eE⟩:∃ E,(a == b)=E:=⟨_,rfl⟩
            simp only [eE] at HE
            clear eA
            cases A <;> cases E <;> (go_enter Tryz.func123,Tryz.ntmps123; go_wp2_with (go_at_call 122; refine (cA _).mono ?_; rintro e w1 ⟨rfl,e1⟩; obtain rfl:=e1.symm); go_ret2; exact⟨by rw [HE.out]; rfl,rfl⟩)
theorem five {a b:Int}:(a == b && a == 5)=(a == 5 && b == 5):=by
 refine Bool.eq_iff_iff.2 ?_
 simp only [Bool.and_eq_true,beq_iff_eq]
 omega
theorem dTwo_pair {o a b:Int}(ho:4≤o∧o≤18):(dTwo o a b).2=(pairT o a b).2∧((pairT o a b).2=true→(dTwo o a b).1=(pairT o a b).1):=by
 have hs:o=4∨o=5∨o=6∨o=7∨o=8∨o=9∨o=10∨o=11∨o=12∨o=13∨o=14∨o=15∨o=16∨o=17∨o=18:=by omega
 rcases hs with rfl | rfl | rfl | rfl | rfl | rfl | rfl | rfl | rfl | rfl | rfl | rfl | rfl | rfl | rfl
 case inr.inr.inr.inr.inl =>
  show (dProd a b != 0)=(prodT a b).2∧((prodT a b).2=true→dProd a b=(prodT a b).1)
  unfold dProd prodT
  by_cases h1:a=1
  ·subst h1
   by_cases hb:numY b=true
   ·have hb2:=hb
    unfold numY at hb2
    simp only [Bool.and_eq_true,decide_eq_true_eq] at hb2
    simp [hb]; omega
   ·have hb1:¬ b=1:=fun e=>by subst e; exact hb rfl
    simp [hb,hb1]
  ·by_cases h2:b=1
   ·subst h2
    by_cases ha:numY a=true
    ·have ha2:=ha
     unfold numY at ha2
     simp only [Bool.and_eq_true,decide_eq_true_eq] at ha2
     simp [h1,ha]; omega
    ·simp [h1,ha]
   ·simp only [h1,h2,beq_iff_eq,Bool.and_eq_true,false_and,if_false]
    by_cases h3:(a == 3 && b == 2 || a == 2 && b == 3)=true
    ·simp [h3]
    ·simp [h3]
 case inr.inr.inr.inr.inr.inl =>
  show (dQuot a b != 0)=(quotT a b).2∧((quotT a b).2=true→dQuot a b=(quotT a b).1)
  unfold dQuot quotT
  by_cases ha:numY a=true
  ·have ha2:=ha
   unfold numY at ha2
   simp only [Bool.and_eq_true,decide_eq_true_eq] at ha2
   by_cases h2:b=1
   ·subst h2; simp [ha]; omega
   ·by_cases h3:a=b
    ·subst h3; simp [ha,h2]
    ·simp [ha,h2,h3]
  ·by_cases h2:b=1 <;> simp [ha,h2]
 all_goals
  simp only [dTwo,pairT]
  by_cases ha:numY a=true <;> by_cases h3:a=b <;> simp [ha,h3] <;> (try (subst h3)) <;> (try simp_all) <;> (try omega) <;> (try exact five)
def regI:List RegM→Nat→ByteArray→Int
 | [],_,_=>-1
 | r :: l,i,x=>if r.x=x then (i:Int) else regI l (i+1) x
theorem regI_drop {l:List RegM}{i:Nat}(hi:i < l.length) (x:ByteArray):regI (l.drop i) i x=if l[i].x=x then (i:Int) else regI (l.drop (i+1)) (i+1) x:=by
 rw [List.drop_eq_getElem_cons hi]; rfl
theorem regI_spec:∀ (l:List RegM) (i:Nat) (x:ByteArray),(regI l i x = -1∧regL l x=none)∨(∃ (k:Nat) (hk:k < l.length),regI l i x=((i+k:Nat):Int)∧regL l x=some l[k].t)
 | [],i,x=>.inl ⟨rfl,rfl⟩
 | r :: l,i,x=>by
  by_cases h:r.x=x
  ·exact .inr ⟨0,by simp,by simp [regI,h],by simp [regL,h]⟩
  ·rcases regI_spec l (i+1) x with ⟨h1,h2⟩ | ⟨k,hk,h1,h2⟩
   ·exact .inl ⟨by simp only [regI,if_neg h,h1],by unfold regL at h2 ⊢; simp only [List.find?_cons,h,decide_false]; exact h2⟩
   ·refine .inr ⟨k+1,by simp; exact hk,by simp only [regI,if_neg h,h1]; congr 1; omega,?_⟩
    unfold regL at h2 ⊢
    simp only [List.find?_cons,h,decide_false]
    rw [h2]; simp
theorem str_eqB (x y:ByteArray):(x.toList == y.toList)=decide (x=y):=by
 by_cases h:x=y
 ·subst h; simp
 ·rw [decide_eq_false h]
  have:¬ x.toList=y.toList:=fun e=>h (by
   have e2:x.data.toList=y.data.toList:=by simpa [ByteArray.toList_eq] using e
   cases x; cases y; simpa using e2)
  simpa using this
set_option maxRecDepth 100000 in
set_option maxHeartbeats 8000000 in
theorem rreg_any (S:StratM) (x:ByteArray) (w:World) (hl:StratL w S):Calls zG 74 #[.agg S.vals,.string x] w fun e w'=>e=.returned (zI (regI S.rs 0 x))∧Below w§ w w':=by
 have hb0:=below_new w (.cells S.vals 27)
 have hn0:=heap_new w (.cells S.vals 27)
 obtain⟨V,eV⟩:∃ V,w.alloc (.cells S.vals 27)=V:=⟨_,rfl⟩
 rw [eV] at hb0 hn0
 have EV:Hid (w.alloc (.cells S.vals 27)=V):=eV
 have HB0:Hid (Below w§ w V):=hb0
 have HL:Hid (StratL V S):=hl.on hb0
 have x1:V.cell? ⟨w§,1,none⟩=some (.slice S.ra S.rs.length S.rc):=cell_of hn0 1
 obtain⟨r,er⟩:∃ r,regI S.rs 0 x=r:=⟨_,rfl⟩
 have HR:Hid (r=regI (S.rs.drop 0) 0 x):=er.symm
 rw [er]
 clear er hl hb0 hn0 eV
 go_enter Tryz.func74,Tryz.ntmps74
 go_upto_region 1 with fail
 rw [EV.out]
 clear EV
 go_wp2_with fail
 go_loop [5] (fun t=>∃ (i:Nat),i≤S.rs.length∧t=zI i∧Hid (r=regI (S.rs.drop i) i x)) (fun t=>S.rs.length - (intOf t).toNat)
 case atStart=>exact⟨0,by omega,rfl,HR.out⟩
 case round =>
  obtain⟨i,hi,rfl,HQ⟩:=hrel
  by_cases hlt:i < S.rs.length
  ·have hlt':(i:Int) < (S.rs.length:Int):=by omega
   have hmx:(i:Int)+1≤9223372036854775807:=by have h1:=HL.out.1.1; have h2:=HL.out.1.2.1; rw [List.length_map] at h1; omega
   obtain⟨b,o,ea,hat⟩:=HL.out.1.2.2 i (by rw [List.length_map]; exact hlt)
   simp only [List.getElem_map] at hat
   have y0:V.cell? ⟨b,o+i * 11,none⟩=some (.string S.rs[i].x):=hat 0 (by omega)
   have HD:Hid (r=if S.rs[i].x=x then (i:Int) else regI (S.rs.drop (i+1)) (i+1) x):=HQ.out.trans (regI_drop hlt x)
   obtain⟨y,ey⟩:∃ y,S.rs[i].x=y:=⟨_,rfl⟩
   rw [ey] at y0 HD
   have x2:V.cell? ⟨w§,1,none⟩=some (.slice (some ⟨b,o,none⟩) S.rs.length S.rc):=by rw [x1,ea]
   clear ey ea hat x1 HQ HR
   by_cases hy:y=x
   ·subst hy
    rw [if_pos rfl] at HD
    go_wp2_with fail
    go_ret
    exact⟨by rw [HD.out]; rfl,HB0.out⟩
   ·have hy1:(y.toList == x.toList)=false:=by rw [str_eqB]; exact decide_eq_false hy
    rw [if_neg hy] at HD
    clear hy
    go_wp2_with fail
    exact⟨⟨i+1,hlt,by go_num,HD.out⟩,by simp only [intOf]; omega⟩
  ·obtain rfl:i=S.rs.length:=by omega
   have hnot:¬ (S.rs.length:Int) < (S.rs.length:Int):=by omega
   have HE:Hid (r = -1):=by show _=_; rw [HQ.out,List.drop_length]; rfl
   go_wp2_with fail
   go_ret
   exact⟨by rw [HE.out]; rfl,HB0.out⟩
end Go.Proofs.YtoogodlnnijikaaGreatDoor
