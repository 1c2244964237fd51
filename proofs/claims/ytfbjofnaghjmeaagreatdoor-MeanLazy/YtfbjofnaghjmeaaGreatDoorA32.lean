import Derived.Test.YtfbjofnaghjmeaaGreatDoorA28
namespace Go.Proofs.YtfbjofnaghjmeaaGreatDoor
open Go.Proofs.Tryz
open Go.RowKit
set_option linter.unusedVariables false
theorem Qdn {h:Hd}{a:Option Addr}{c:Nat}{ks:List Nd}{k:Nd}(hk:k ∈ ks):size k≤size (.mk h a c ks):=by
 have:=X2 hk
 simp only [size];omega
set_option maxRecDepth 100000
set_option maxHeartbeats 8000000
set_option linter.unusedSimpArgs false
theorem Jk (t:Int) (w:yW):Calls zG 94 #[zU t] w fun e w'=>e=.returned (.bool (numY t))∧w'=w:=by
 unfold numY
 obtain⟨p,hp⟩:∃ p,decide (1≤t)=p:=jV
 obtain⟨q,hq⟩:∃ q,decide (t≤4)=q:=jV
 rw [hp,hq]
 cases p <;> cases q <;> (go_enter func94,ntmps94;go_wp2_with fail;go_ret;exact⟨rfl,rfl⟩)
def Xp (a b:Int):Int:=if a == 1 && numY b then b else if b == 1 && numY a then a else if (a == 3 && b == 2) || (a == 2 && b == 3) then 1 else 0
def Xo (a b:Int):Int:=if numY a && b == 1 then a else if numY a && a == b then 1 else 0
def dTwo (o a b:Int):Int × Bool :=
 if o == 6 then (a,a == b && numY a) else if o == 7 then (a,a == b && numY a) else if o == 10 then (a,a == b && numY a) else if o == 4 then (a,a == b && numY a) else if o == 5 then (a,a == b && numY a)
 else if o == 8 then (Xp a b,Xp a b != 0) else if o == 9 then (Xo a b,Xo a b != 0)
 else if o == 11 then (5,a == b) else if o == 12 then (5,a == b) else if o == 17 then (5,a == b && a == 5) else if o == 18 then (5,a == b && a == 5) else (5,a == b && numY a)
theorem Qb3 (a b : Int) (w : yW) : Calls zG 154 #[zU a, zU b] w fun e w' => e = .returned (zU (Xp a b)) ∧ w' = w := by
 have HE : Hid (Xp a b = if a == 1 && numY b then b else if b == 1 && numY a then a else if (a == 3 && b == 2) || (a == 2 && b == 3) then 1 else 0) := rfl
 have cA := Jk a
 have cB := Jk b
 obtain ⟨r, er⟩ : ∃ r, Xp a b = r := ⟨_, rfl⟩
 rw [er] at HE ⊢
 clear er
 obtain ⟨A, eA⟩ : ∃ A, numY a = A := ⟨_, rfl⟩
 obtain ⟨B, eB⟩ : ∃ B, numY b = B := ⟨_, rfl⟩
 simp only [eA] at cA HE
 simp only [eB] at cB HE
 by_cases h1 : a = 1
 ·have p0 : (a == 1) = true := by simpa using h1
  simp only [p0] at HE
  cases B
  ·have p1 : (b == 1) = false := by
    cases hb : (b == 1) with
    | false => rfl
    | true => have e : b = 1 := (by simpa using hb);rw [e] at eB;cases eB
   have p2 : (a == 3) = false := by rw [h1];rfl
   have p3 : (a == 2) = false := by rw [h1];rfl
   simp only [p1, p2, p3] at HE
   clear h1 eA eB
   (go_enter func154, ntmps154;go_wp2_with (go_at_call 94;first | (refine (cA _).mono ?_;rintro e w1 ⟨rfl, e1⟩;obtain rfl := e1.symm) | (refine (cB _).mono ?_;rintro e w1 ⟨rfl, e1⟩;obtain rfl := e1.symm));go_ret;exact ⟨by rw [HE.out];rfl, rfl⟩)
  ·clear h1 eA eB
   (go_enter func154, ntmps154;go_wp2_with (go_at_call 94;first | (refine (cA _).mono ?_;rintro e w1 ⟨rfl, e1⟩;obtain rfl := e1.symm) | (refine (cB _).mono ?_;rintro e w1 ⟨rfl, e1⟩;obtain rfl := e1.symm));go_ret;exact ⟨by rw [HE.out];rfl, rfl⟩)
 ·have p0 : (a == 1) = false := by simpa using h1
  simp only [p0] at HE
  by_cases h2 : b = 1
  ·have p1 : (b == 1) = true := by simpa using h2
   have p2 : (b == 2) = false := by rw [h2];rfl
   have p3 : (b == 3) = false := by rw [h2];rfl
   simp only [p1, p2, p3] at HE
   cases A
   ·obtain ⟨p4, h4⟩ : ∃ p, (a == 3) = p := ⟨_, rfl⟩
    obtain ⟨p5, h5⟩ : ∃ p, (a == 2) = p := ⟨_, rfl⟩
    simp only [h4, h5] at HE
    clear h1 h2 eA eB
    cases p4 <;> cases p5 <;> (go_enter func154, ntmps154;go_wp2_with (go_at_call 94;first | (refine (cA _).mono ?_;rintro e w1 ⟨rfl, e1⟩;obtain rfl := e1.symm) | (refine (cB _).mono ?_;rintro e w1 ⟨rfl, e1⟩;obtain rfl := e1.symm));go_ret;exact ⟨by rw [HE.out];rfl, rfl⟩)
   ·clear h1 h2 eA eB
    (go_enter func154, ntmps154;go_wp2_with (go_at_call 94;first | (refine (cA _).mono ?_;rintro e w1 ⟨rfl, e1⟩;obtain rfl := e1.symm) | (refine (cB _).mono ?_;rintro e w1 ⟨rfl, e1⟩;obtain rfl := e1.symm));go_ret;exact ⟨by rw [HE.out];rfl, rfl⟩)
  ·have p1 : (b == 1) = false := by simpa using h2
   simp only [p1] at HE
   obtain ⟨p4, h4⟩ : ∃ p, (a == 3) = p := ⟨_, rfl⟩
   obtain ⟨p5, h5⟩ : ∃ p, (a == 2) = p := ⟨_, rfl⟩
   obtain ⟨p6, h6⟩ : ∃ p, (b == 2) = p := ⟨_, rfl⟩
   obtain ⟨p7, h7⟩ : ∃ p, (b == 3) = p := ⟨_, rfl⟩
   simp only [h4, h5, h6, h7] at HE
   clear h1 h2 eA eB
   cases p4
   ·cases p5
    ·(go_enter func154, ntmps154;go_wp2_with (go_at_call 94;first | (refine (cA _).mono ?_;rintro e w1 ⟨rfl, e1⟩;obtain rfl := e1.symm) | (refine (cB _).mono ?_;rintro e w1 ⟨rfl, e1⟩;obtain rfl := e1.symm));go_ret;exact ⟨by rw [HE.out];rfl, rfl⟩)
    ·cases p7 <;> (go_enter func154, ntmps154;go_wp2_with (go_at_call 94;first | (refine (cA _).mono ?_;rintro e w1 ⟨rfl, e1⟩;obtain rfl := e1.symm) | (refine (cB _).mono ?_;rintro e w1 ⟨rfl, e1⟩;obtain rfl := e1.symm));go_ret;exact ⟨by rw [HE.out];rfl, rfl⟩)
   ·cases p6
    ·cases p5
     ·(go_enter func154, ntmps154;go_wp2_with (go_at_call 94;first | (refine (cA _).mono ?_;rintro e w1 ⟨rfl, e1⟩;obtain rfl := e1.symm) | (refine (cB _).mono ?_;rintro e w1 ⟨rfl, e1⟩;obtain rfl := e1.symm));go_ret;exact ⟨by rw [HE.out];rfl, rfl⟩)
     ·cases p7 <;> (go_enter func154, ntmps154;go_wp2_with (go_at_call 94;first | (refine (cA _).mono ?_;rintro e w1 ⟨rfl, e1⟩;obtain rfl := e1.symm) | (refine (cB _).mono ?_;rintro e w1 ⟨rfl, e1⟩;obtain rfl := e1.symm));go_ret;exact ⟨by rw [HE.out];rfl, rfl⟩)
    ·(go_enter func154, ntmps154;go_wp2_with (go_at_call 94;first | (refine (cA _).mono ?_;rintro e w1 ⟨rfl, e1⟩;obtain rfl := e1.symm) | (refine (cB _).mono ?_;rintro e w1 ⟨rfl, e1⟩;obtain rfl := e1.symm));go_ret;exact ⟨by rw [HE.out];rfl, rfl⟩)
theorem Qb2 (a b : Int) (w : yW) : Calls zG 155 #[zU a, zU b] w fun e w' => e = .returned (zU (Xo a b)) ∧ w' = w := by
 have HE : Hid (Xo a b = if numY a && b == 1 then a else if numY a && a == b then 1 else 0) := rfl
 have cA := Jk a
 obtain ⟨r, er⟩ : ∃ r, Xo a b = r := ⟨_, rfl⟩
 rw [er] at HE ⊢
 clear er
 obtain ⟨A, eA⟩ : ∃ A, numY a = A := ⟨_, rfl⟩
 simp only [eA] at cA HE
 clear eA
 obtain ⟨p0, hp0⟩ : ∃ p, (b == 1) = p := ⟨_, rfl⟩
 simp only [hp0] at HE
 obtain ⟨p1, hp1⟩ : ∃ p, (a == b) = p := ⟨_, rfl⟩
 simp only [hp1] at HE
 cases A <;> cases p0 <;> cases p1 <;> (go_enter func155, ntmps155;go_wp2_with (go_at_call 94;refine (cA _).mono ?_;rintro e w1 ⟨rfl, e1⟩;obtain rfl := e1.symm);go_ret;exact ⟨by rw [HE.out];rfl, rfl⟩)
set_option maxHeartbeats 16000000
theorem PO (o a b:Int) (w:yW):Calls zG 95 #[zU o,zU a,zU b] w fun e w'=>e=.returned (two (dTwo o a b))∧w'=w:=by
 cases h6:(o == 6) with
 | true =>
  have HE:Hid (dTwo o a b=(a,a == b && numY a)):=by show _=_;simp [dTwo,h6]
  have cA:=Jk a
  obtain⟨A,eA⟩:∃ A,numY a=A:=jV
  simp only [eA] at cA HE
  obtain⟨E,eE⟩:∃ E,(a == b)=E:=jV
  simp only [eE] at HE
  clear eA
  cases A <;> cases E <;> (go_enter func95,ntmps95;go_wp2_with (go_at_call 94;refine (cA _).mono ?_;rintro e w1 ⟨rfl,e1⟩;obtain rfl:=e1.symm);go_ret2;exact⟨by rw [HE.out];rfl,rfl⟩)
 | false =>
  cases h7:(o == 7) with
  | true =>
   have HE:Hid (dTwo o a b=(a,a == b && numY a)):=by show _=_;simp [dTwo,h6,h7]
   have cA:=Jk a
   obtain⟨A,eA⟩:∃ A,numY a=A:=jV
   simp only [eA] at cA HE
   obtain⟨E,eE⟩:∃ E,(a == b)=E:=jV
   simp only [eE] at HE
   clear eA
   cases A <;> cases E <;> (go_enter func95,ntmps95;go_wp2_with (go_at_call 94;refine (cA _).mono ?_;rintro e w1 ⟨rfl,e1⟩;obtain rfl:=e1.symm);go_ret2;exact⟨by rw [HE.out];rfl,rfl⟩)
  | false =>
   cases h10:(o == 10) with
   | true =>
    have HE:Hid (dTwo o a b=(a,a == b && numY a)):=by show _=_;simp [dTwo,h6,h7,h10]
    have cA:=Jk a
    obtain⟨A,eA⟩:∃ A,numY a=A:=jV
    simp only [eA] at cA HE
    obtain⟨E,eE⟩:∃ E,(a == b)=E:=jV
    simp only [eE] at HE
    clear eA
    cases A <;> cases E <;> (go_enter func95,ntmps95;go_wp2_with (go_at_call 94;refine (cA _).mono ?_;rintro e w1 ⟨rfl,e1⟩;obtain rfl:=e1.symm);go_ret2;exact⟨by rw [HE.out];rfl,rfl⟩)
   | false =>
    cases h4:(o == 4) with
    | true =>
     have HE:Hid (dTwo o a b=(a,a == b && numY a)):=by show _=_;simp [dTwo,h6,h7,h10,h4]
     have cA:=Jk a
     obtain⟨A,eA⟩:∃ A,numY a=A:=jV
     simp only [eA] at cA HE
     obtain⟨E,eE⟩:∃ E,(a == b)=E:=jV
     simp only [eE] at HE
     clear eA
     cases A <;> cases E <;> (go_enter func95,ntmps95;go_wp2_with (go_at_call 94;refine (cA _).mono ?_;rintro e w1 ⟨rfl,e1⟩;obtain rfl:=e1.symm);go_ret2;exact⟨by rw [HE.out];rfl,rfl⟩)
    | false =>
     cases h5:(o == 5) with
     | true =>
      have HE:Hid (dTwo o a b=(a,a == b && numY a)):=by show _=_;simp [dTwo,h6,h7,h10,h4,h5]
      have cA:=Jk a
      obtain⟨A,eA⟩:∃ A,numY a=A:=jV
      simp only [eA] at cA HE
      obtain⟨E,eE⟩:∃ E,(a == b)=E:=jV
      simp only [eE] at HE
      clear eA
      cases A <;> cases E <;> (go_enter func95,ntmps95;go_wp2_with (go_at_call 94;refine (cA _).mono ?_;rintro e w1 ⟨rfl,e1⟩;obtain rfl:=e1.symm);go_ret2;exact⟨by rw [HE.out];rfl,rfl⟩)
     | false =>
      cases h8:(o == 8) with
      | true =>
       have HE:Hid (dTwo o a b=(Xp a b,Xp a b != 0)):=by show _=_;simp [dTwo,h6,h7,h10,h4,h5,h8]
       have cP:=Qb3 a b
       obtain⟨r,er⟩:∃ r,Xp a b=r:=jV
       simp only [er] at cP HE
       obtain⟨E,eE⟩:∃ E,(a == b)=E:=jV
       obtain⟨D,eD⟩:∃ D,(r != 0)=D:=jV
       simp only [eD] at HE
       clear er
       cases D <;> (go_enter func95,ntmps95;go_wp2_with (go_at_call 154;refine (cP _).mono ?_;rintro e w1 ⟨rfl,e1⟩;obtain rfl:=e1.symm);go_ret2;exact⟨by rw [HE.out];rfl,rfl⟩)
      | false =>
       cases h9:(o == 9) with
       | true =>
        have HE:Hid (dTwo o a b=(Xo a b,Xo a b != 0)):=by show _=_;simp [dTwo,h6,h7,h10,h4,h5,h8,h9]
        have cP:=Qb2 a b
        obtain⟨r,er⟩:∃ r,Xo a b=r:=jV
        simp only [er] at cP HE
        obtain⟨E,eE⟩:∃ E,(a == b)=E:=jV
        obtain⟨D,eD⟩:∃ D,(r != 0)=D:=jV
        simp only [eD] at HE
        clear er
        cases D <;> (go_enter func95,ntmps95;go_wp2_with (go_at_call 155;refine (cP _).mono ?_;rintro e w1 ⟨rfl,e1⟩;obtain rfl:=e1.symm);go_ret2;exact⟨by rw [HE.out];rfl,rfl⟩)
       | false =>
        cases h11:(o == 11) with
        | true =>
         have HE:Hid (dTwo o a b=(5,a == b)):=by show _=_;simp [dTwo,h6,h7,h10,h4,h5,h8,h9,h11]
         obtain⟨E,eE⟩:∃ E,(a == b)=E:=jV
         simp only [eE] at HE
         cases E <;> (go_enter func95,ntmps95;go_wp2_with fail;go_ret2;exact⟨by rw [HE.out];rfl,rfl⟩)
        | false =>
         cases h12:(o == 12) with
         | true =>
          have HE:Hid (dTwo o a b=(5,a == b)):=by show _=_;simp [dTwo,h6,h7,h10,h4,h5,h8,h9,h11,h12]
          obtain⟨E,eE⟩:∃ E,(a == b)=E:=jV
          simp only [eE] at HE
          cases E <;> (go_enter func95,ntmps95;go_wp2_with fail;go_ret2;exact⟨by rw [HE.out];rfl,rfl⟩)
         | false =>
          cases h17:(o == 17) with
          | true =>
           have HE:Hid (dTwo o a b=(5,a == b && a == 5)):=by show _=_;simp [dTwo,h6,h7,h10,h4,h5,h8,h9,h11,h12,h17]
           obtain⟨E,eE⟩:∃ E,(a == b)=E:=jV
           simp only [eE] at HE
           obtain⟨F,eF⟩:∃ E,(a == 5)=E:=jV
           simp only [eF] at HE
           cases E <;> cases F <;> (go_enter func95,ntmps95;go_wp2_with fail;go_ret2;exact⟨by rw [HE.out];rfl,rfl⟩)
          | false =>
           cases h18:(o == 18) with
           | true =>
            have HE:Hid (dTwo o a b=(5,a == b && a == 5)):=by show _=_;simp [dTwo,h6,h7,h10,h4,h5,h8,h9,h11,h12,h17,h18]
            obtain⟨E,eE⟩:∃ E,(a == b)=E:=jV
            simp only [eE] at HE
            obtain⟨F,eF⟩:∃ E,(a == 5)=E:=jV
            simp only [eF] at HE
            cases E <;> cases F <;> (go_enter func95,ntmps95;go_wp2_with fail;go_ret2;exact⟨by rw [HE.out];rfl,rfl⟩)
           | false =>
            have HE:Hid (dTwo o a b=(5,a == b && numY a)):=by show _=_;simp [dTwo,h6,h7,h10,h4,h5,h8,h9,h11,h12,h17,h18]
            have cA:=Jk a
            obtain⟨A,eA⟩:∃ A,numY a=A:=jV
            simp only [eA] at cA HE
            obtain⟨E,eE⟩:∃ E,(a == b)=E:=jV
            simp only [eE] at HE
            clear eA
            cases A <;> cases E <;> (go_enter func95,ntmps95;go_wp2_with (go_at_call 94;refine (cA _).mono ?_;rintro e w1 ⟨rfl,e1⟩;obtain rfl:=e1.symm);go_ret2;exact⟨by rw [HE.out];rfl,rfl⟩)
theorem five {a b:Int}:(a == b && a == 5)=(a == 5 && b == 5):=by
 refine Bool.eq_iff_iff.2 ?_
 simp only [Bool.and_eq_true,beq_iff_eq]
 omega
theorem Ha {o a b:Int}(ho:4≤o∧o≤18):(dTwo o a b).2=(QS o a b).2∧((QS o a b).2=true→(dTwo o a b).1=(QS o a b).1):=by
 have hs:o=4∨o=5∨o=6∨o=7∨o=8∨o=9∨o=10∨o=11∨o=12∨o=13∨o=14∨o=15∨o=16∨o=17∨o=18:=by omega
 rcases hs with rfl | rfl | rfl | rfl | rfl | rfl | rfl | rfl | rfl | rfl | rfl | rfl | rfl | rfl | rfl
 case inr.inr.inr.inr.inl =>
  show (Xp a b != 0)=(J4 a b).2∧((J4 a b).2=true→Xp a b=(J4 a b).1)
  unfold Xp J4
  by_cases h1:a=1
  ·subst h1
   by_cases hb:numY b=true
   ·have hb2:=hb
    unfold numY at hb2
    simp only [Bool.and_eq_true,decide_eq_true_eq] at hb2
    simp [hb];omega
   ·have hb1:¬ b=1:=fun e=>by subst e;exact hb rfl
    simp [hb,hb1]
  ·by_cases h2:b=1
   ·subst h2
    by_cases ha:numY a=true
    ·have ha2:=ha
     unfold numY at ha2
     simp only [Bool.and_eq_true,decide_eq_true_eq] at ha2
     simp [h1,ha];omega
    ·simp [h1,ha]
   ·simp only [h1,h2,beq_iff_eq,Bool.and_eq_true,false_and,if_false]
    by_cases h3:(a == 3 && b == 2 || a == 2 && b == 3)=true
    ·simp [h3]
    ·simp [h3]
 case inr.inr.inr.inr.inr.inl =>
  show (Xo a b != 0)=(Ko a b).2∧((Ko a b).2=true→Xo a b=(Ko a b).1)
  unfold Xo Ko
  by_cases ha:numY a=true
  ·have ha2:=ha
   unfold numY at ha2
   simp only [Bool.and_eq_true,decide_eq_true_eq] at ha2
   by_cases h2:b=1
   ·subst h2;simp [ha];omega
   ·by_cases h3:a=b
    ·subst h3;simp [ha,h2]
    ·simp [ha,h2,h3]
  ·by_cases h2:b=1 <;> simp [ha,h2]
 all_goals
  simp only [dTwo,QS]
  by_cases ha:numY a=true <;> by_cases h3:a=b <;> simp [ha,h3] <;> (try (subst h3)) <;> (try simp_all) <;> (try omega) <;> (try exact five)
def regI:List RegM→Nat→yB→Int
 | [],_,_=>-1
 | r :: l,i,x=>if r.x=x then (i:Int) else regI l (i+1) x
theorem Qb7 {l:List RegM}{i:Nat}(hi:i < l.length) (x:yB):regI (l.drop i) i x=if l[i].x=x then (i:Int) else regI (l.drop (i+1)) (i+1) x:=by
 rw [List.drop_eq_getElem_cons hi];rfl
theorem UC:∀ (l:List RegM) (i:Nat) (x:yB),(regI l i x = -1∧regL l x=none)∨(∃ (k:Nat) (hk:k < l.length),regI l i x=((i+k:Nat):Int)∧regL l x=some l[k].t)
 | [],i,x=>.inl ⟨rfl,rfl⟩
 | r :: l,i,x=>by
  by_cases h:r.x=x
  ·exact .inr ⟨0,by simp,by simp [regI,h],by simp [regL,h]⟩
  ·rcases UC l (i+1) x with ⟨h1,h2⟩ | ⟨k,hk,h1,h2⟩
   ·exact .inl ⟨by simp only [regI,if_neg h,h1],by unfold regL at h2 ⊢;simp only [List.find?_cons,h,decide_false];exact h2⟩
   ·refine .inr ⟨k+1,by simp;exact hk,by simp only [regI,if_neg h,h1];congr 1;omega,?_⟩
    unfold regL at h2 ⊢
    simp only [List.find?_cons,h,decide_false]
    rw [h2];simp
theorem QfF (x y:yB):(x.toList == y.toList)=decide (x=y):=by
 by_cases h:x=y
 ·subst h;simp
 ·rw [decide_eq_false h]
  have:¬ x.toList=y.toList:=fun e=>h (by
   have e2:x.data.toList=y.data.toList:=by simpa [ByteArray.toList_eq] using e
   cases x;cases y;simpa using e2)
  simpa using this
theorem U1 (S:Qg) (x:yB) (w:yW) (hl:Qr w S):Calls zG 56 #[.agg S.vals,.string x] w fun e w'=>e=.returned (zI (regI S.rs 0 x))∧yD w w':=by
 have hb0:=Qb w (.cells S.vals 26)
 have hn0:=Qc w (.cells S.vals 26)
 obtain⟨V,eV⟩:∃ V,w.alloc (.cells S.vals 26)=V:=jV
 rw [eV] at hb0 hn0
 have EV:=zH eV
 have HB0:=zH hb0
 have HL:Hid (Qr V S):=hl.on hb0
 have x1:zQ V w§¢1 (.slice S.ra S.rs.length S.rc):=Qa hn0 1
 obtain⟨r,er⟩:∃ r,regI S.rs 0 x=r:=jV
 have HR:=zH er.symm
 rw [er]
 clear er hl hb0 hn0 eV
 go_enter func56,ntmps56
 go_upto_region 1 with fail
 rw [EV.out]
 clear EV
 go_wp2_with fail
 go_loop [5] (fun t=>∃ (i:Nat),i≤S.rs.length∧t=zI i∧Hid (r=regI (S.rs.drop i) i x)) (fun t=>S.rs.length - (intOf t).toNat)
 case atStart=>exact⟨0,by omega,rfl,HR.out⟩
 case round =>
  obtain⟨i,hi,rfl,HQ⟩:=hrel
  by_cases hlt:i < S.rs.length
  ·have hlt':(i:Int) < (S.rs.length:Int):=by omega
   have hmx:(i:Int)+1≤jX:=by have h1:=HL.out.1.1;have h2:=HL.out.1.2.1;rw [List.length_map] at h1;omega
   obtain⟨b,o,ea,hat⟩:=HL.out.1.2.2 i (by rw [List.length_map];exact hlt)
   simp only [List.getElem_map] at hat
   have y0:zQ V ⟨b,o+i * 11,none⟩ (.string S.rs[i].x):=hat 0 zY
   have HD:=zH (HQ.out.trans (Qb7 hlt x))
   obtain⟨y,ey⟩:∃ y,S.rs[i].x=y:=jV
   rw [ey] at y0 HD
   have x2:zQ V w§¢1 (.slice (some b¢o) S.rs.length S.rc):=by rw [x1,ea]
   clear ey ea hat x1 HQ HR
   by_cases hy:y=x
   ·subst hy
    rw [if_pos rfl] at HD
    go_wp2
    go_ret
    exact⟨by rw [HD.out];rfl,HB0.out⟩
   ·have hy1:(y.toList == x.toList)=false:=by rw [QfF];exact decide_eq_false hy
    rw [if_neg hy] at HD
    clear hy
    go_wp2_with fail
    exact⟨⟨i+1,hlt,by go_num,HD.out⟩,by simp only [intOf];omega⟩
  ·obtain rfl:i=S.rs.length:=by omega
   have hnot:¬ (S.rs.length:Int) < (S.rs.length:Int):=by omega
   have HE:Hid (r = -1):=by show _=_;rw [HQ.out,List.drop_length];rfl
   go_wp2
   go_ret
   exact⟨by rw [HE.out];rfl,HB0.out⟩
theorem QfU (S:Qg) (o t n f:Int) (x:yB) (p:Int) (am:Option Addr) (l c:Nat) (v:Value) (w:yW):Calls zG 57 #[.agg S.vals,.agg #[zU 1,zU o,zU t,zI n,zU f,.string x,.slice am l c,zI p],v] w fun e w'=>e=.returned (two (t,true))∧yD w w':=by
 have e2:=Qk w (.cells S.vals 26) (.cells #[zU 1,zU o,zU t,zI n,zU f,.string x,.slice am l c,zI p] 38)
 have n1:((zA w S.vals 26).alloc (.cells #[zU 1,zU o,zU t,zI n,zU f,.string x,.slice am l c,zI p] 38)).heap[w§]? = (zC S.vals 26):=Qz (Qc _ _) (by rw [Qe];omega)
 have n2:((zA w S.vals 26).alloc (.cells #[zU 1,zU o,zU t,zI n,zU f,.string x,.slice am l c,zI p] 38)).heap[w§+1]? = (zC #[zU 1,zU o,zU t,zI n,zU f,.string x,.slice am l c,zI p] 38):=by rw [← Qe w (.cells S.vals 26)];exact Qc _ _
 obtain⟨V,eV⟩:∃ V,(zA w S.vals 26).alloc (.cells #[zU 1,zU o,zU t,zI n,zU f,.string x,.slice am l c,zI p] 38)=V:=jV
 rw [eV] at e2 n1 n2
 have EV:=zH eV
 have HB:=zH e2
 have HN1:=zH n1
 have m0:zQ V ⟨w§+1,0,none⟩ (zU 1):=Qa n2 0
 have m1:zQ V ⟨w§+1,1,none⟩ (zU o):=Qa n2 1
 have m2:zQ V ⟨w§+1,2,none⟩ (zU t):=Qa n2 2
 have m4:zQ V ⟨w§+1,4,none⟩ (zU f):=Qa n2 4
 have m5:zQ V ⟨w§+1,5,none⟩ (.string x):=Qa n2 5
 clear n1 n2 eV
 clear e2
 go_enter func57,ntmps57
 go_upto_region 1 with fail
 rw [EV.out]
 clear EV
 go_wp2
 go_ret2
 exact⟨rfl,HB.out⟩
theorem QfS (S:Qg) (o t n f:Int) (x:yB) (p:Int) (am:Option Addr) (l c:Nat) (v:Value) (w:yW):Calls zG 57 #[.agg S.vals,.agg #[zU 4,zU o,zU t,zI n,zU f,.string x,.slice am l c,zI p],v] w fun e w'=>e=.returned (two (5,true))∧yD w w':=by
 have e2:=Qk w (.cells S.vals 26) (.cells #[zU 4,zU o,zU t,zI n,zU f,.string x,.slice am l c,zI p] 38)
 have n1:((zA w S.vals 26).alloc (.cells #[zU 4,zU o,zU t,zI n,zU f,.string x,.slice am l c,zI p] 38)).heap[w§]? = (zC S.vals 26):=Qz (Qc _ _) (by rw [Qe];omega)
 have n2:((zA w S.vals 26).alloc (.cells #[zU 4,zU o,zU t,zI n,zU f,.string x,.slice am l c,zI p] 38)).heap[w§+1]? = (zC #[zU 4,zU o,zU t,zI n,zU f,.string x,.slice am l c,zI p] 38):=by rw [← Qe w (.cells S.vals 26)];exact Qc _ _
 obtain⟨V,eV⟩:∃ V,(zA w S.vals 26).alloc (.cells #[zU 4,zU o,zU t,zI n,zU f,.string x,.slice am l c,zI p] 38)=V:=jV
 rw [eV] at e2 n1 n2
 have EV:=zH eV
 have HB:=zH e2
 have HN1:=zH n1
 have m0:zQ V ⟨w§+1,0,none⟩ (zU 4):=Qa n2 0
 have m1:zQ V ⟨w§+1,1,none⟩ (zU o):=Qa n2 1
 have m2:zQ V ⟨w§+1,2,none⟩ (zU t):=Qa n2 2
 have m4:zQ V ⟨w§+1,4,none⟩ (zU f):=Qa n2 4
 have m5:zQ V ⟨w§+1,5,none⟩ (.string x):=Qa n2 5
 clear n1 n2 eV
 clear e2
 go_enter func57,ntmps57
 go_upto_region 1 with fail
 rw [EV.out]
 clear EV
 go_wp2
 go_ret2
 exact⟨rfl,HB.out⟩
theorem QdE (S:Qg) (o t n:Int) (x:yB) (p:Int) (am:Option Addr) (l c:Nat) (v:Value) (w:yW):Calls zG 57 #[.agg S.vals,.agg #[zU 3,zU o,zU t,zI n,zU 1,.string x,.slice am l c,zI p],v] w fun e w'=>e=.returned (two (3,true))∧yD w w':=by
 have e2:=Qk w (.cells S.vals 26) (.cells #[zU 3,zU o,zU t,zI n,zU 1,.string x,.slice am l c,zI p] 38)
 have n1:((zA w S.vals 26).alloc (.cells #[zU 3,zU o,zU t,zI n,zU 1,.string x,.slice am l c,zI p] 38)).heap[w§]? = (zC S.vals 26):=Qz (Qc _ _) (by rw [Qe];omega)
 have n2:((zA w S.vals 26).alloc (.cells #[zU 3,zU o,zU t,zI n,zU 1,.string x,.slice am l c,zI p] 38)).heap[w§+1]? = (zC #[zU 3,zU o,zU t,zI n,zU 1,.string x,.slice am l c,zI p] 38):=by rw [← Qe w (.cells S.vals 26)];exact Qc _ _
 obtain⟨V,eV⟩:∃ V,(zA w S.vals 26).alloc (.cells #[zU 3,zU o,zU t,zI n,zU 1,.string x,.slice am l c,zI p] 38)=V:=jV
 rw [eV] at e2 n1 n2
 have EV:=zH eV
 have HB:=zH e2
 have HN1:=zH n1
 have m0:zQ V ⟨w§+1,0,none⟩ (zU 3):=Qa n2 0
 have m1:zQ V ⟨w§+1,1,none⟩ (zU o):=Qa n2 1
 have m2:zQ V ⟨w§+1,2,none⟩ (zU t):=Qa n2 2
 have m4:zQ V ⟨w§+1,4,none⟩ (zU 1):=Qa n2 4
 have m5:zQ V ⟨w§+1,5,none⟩ (.string x):=Qa n2 5
 clear n1 n2 eV
 clear e2
 have hb2:=Qb V (.cells zl 34)
 have hn2:=Qc V (.cells zl 34)
 have k0:(zA V zl 34).cell? V§¢0=some (zU 3):=Qa hn2 0
 have k4:(zA V zl 34).cell? ⟨w§+1,4,none⟩=some (zU 1):=(hb2.cell (World.block_lt_of_cell? V _ m4)).trans m4
 have HB2:=zH (Qd HB.out hb2)
 clear hb2 hn2
 go_enter func57,ntmps57
 go_upto_region 1 with fail
 rw [EV.out]
 clear EV
 go_wp2
 go_ret2
 exact⟨rfl,HB2.out⟩
theorem QdD (S:Qg) (o t n:Int) (x:yB) (p:Int) (am:Option Addr) (l c:Nat) (v:Value) (w:yW):Calls zG 57 #[.agg S.vals,.agg #[zU 3,zU o,zU t,zI n,zU 2,.string x,.slice am l c,zI p],v] w fun e w'=>e=.returned (two (3,true))∧yD w w':=by
 have e2:=Qk w (.cells S.vals 26) (.cells #[zU 3,zU o,zU t,zI n,zU 2,.string x,.slice am l c,zI p] 38)
 have n1:((zA w S.vals 26).alloc (.cells #[zU 3,zU o,zU t,zI n,zU 2,.string x,.slice am l c,zI p] 38)).heap[w§]? = (zC S.vals 26):=Qz (Qc _ _) (by rw [Qe];omega)
 have n2:((zA w S.vals 26).alloc (.cells #[zU 3,zU o,zU t,zI n,zU 2,.string x,.slice am l c,zI p] 38)).heap[w§+1]? = (zC #[zU 3,zU o,zU t,zI n,zU 2,.string x,.slice am l c,zI p] 38):=by rw [← Qe w (.cells S.vals 26)];exact Qc _ _
 obtain⟨V,eV⟩:∃ V,(zA w S.vals 26).alloc (.cells #[zU 3,zU o,zU t,zI n,zU 2,.string x,.slice am l c,zI p] 38)=V:=jV
 rw [eV] at e2 n1 n2
 have EV:=zH eV
 have HB:=zH e2
 have HN1:=zH n1
 have m0:zQ V ⟨w§+1,0,none⟩ (zU 3):=Qa n2 0
 have m1:zQ V ⟨w§+1,1,none⟩ (zU o):=Qa n2 1
 have m2:zQ V ⟨w§+1,2,none⟩ (zU t):=Qa n2 2
 have m4:zQ V ⟨w§+1,4,none⟩ (zU 2):=Qa n2 4
 have m5:zQ V ⟨w§+1,5,none⟩ (.string x):=Qa n2 5
 clear n1 n2 eV
 clear e2
 have hb2:=Qb V (.cells zl 34)
 have hn2:=Qc V (.cells zl 34)
 have k0:(zA V zl 34).cell? V§¢1=some (zU 3):=Qa hn2 1
 have k4:(zA V zl 34).cell? ⟨w§+1,4,none⟩=some (zU 2):=(hb2.cell (World.block_lt_of_cell? V _ m4)).trans m4
 have HB2:=zH (Qd HB.out hb2)
 clear hb2 hn2
 go_enter func57,ntmps57
 go_upto_region 1 with fail
 rw [EV.out]
 clear EV
 go_wp2
 go_ret2
 exact⟨rfl,HB2.out⟩
theorem QdC (S:Qg) (o t n:Int) (x:yB) (p:Int) (am:Option Addr) (l c:Nat) (v:Value) (w:yW):Calls zG 57 #[.agg S.vals,.agg #[zU 3,zU o,zU t,zI n,zU 3,.string x,.slice am l c,zI p],v] w fun e w'=>e=.returned (two (3,true))∧yD w w':=by
 have e2:=Qk w (.cells S.vals 26) (.cells #[zU 3,zU o,zU t,zI n,zU 3,.string x,.slice am l c,zI p] 38)
 have n1:((zA w S.vals 26).alloc (.cells #[zU 3,zU o,zU t,zI n,zU 3,.string x,.slice am l c,zI p] 38)).heap[w§]? = (zC S.vals 26):=Qz (Qc _ _) (by rw [Qe];omega)
 have n2:((zA w S.vals 26).alloc (.cells #[zU 3,zU o,zU t,zI n,zU 3,.string x,.slice am l c,zI p] 38)).heap[w§+1]? = (zC #[zU 3,zU o,zU t,zI n,zU 3,.string x,.slice am l c,zI p] 38):=by rw [← Qe w (.cells S.vals 26)];exact Qc _ _
 obtain⟨V,eV⟩:∃ V,(zA w S.vals 26).alloc (.cells #[zU 3,zU o,zU t,zI n,zU 3,.string x,.slice am l c,zI p] 38)=V:=jV
 rw [eV] at e2 n1 n2
 have EV:=zH eV
 have HB:=zH e2
 have HN1:=zH n1
 have m0:zQ V ⟨w§+1,0,none⟩ (zU 3):=Qa n2 0
 have m1:zQ V ⟨w§+1,1,none⟩ (zU o):=Qa n2 1
 have m2:zQ V ⟨w§+1,2,none⟩ (zU t):=Qa n2 2
 have m4:zQ V ⟨w§+1,4,none⟩ (zU 3):=Qa n2 4
 have m5:zQ V ⟨w§+1,5,none⟩ (.string x):=Qa n2 5
 clear n1 n2 eV
 clear e2
 have hb2:=Qb V (.cells zl 34)
 have hn2:=Qc V (.cells zl 34)
 have k0:(zA V zl 34).cell? V§¢2=some (zU 3):=Qa hn2 2
 have k4:(zA V zl 34).cell? ⟨w§+1,4,none⟩=some (zU 3):=(hb2.cell (World.block_lt_of_cell? V _ m4)).trans m4
 have HB2:=zH (Qd HB.out hb2)
 clear hb2 hn2
 go_enter func57,ntmps57
 go_upto_region 1 with fail
 rw [EV.out]
 clear EV
 go_wp2
 go_ret2
 exact⟨rfl,HB2.out⟩
theorem QdB (S:Qg) (o t n:Int) (x:yB) (p:Int) (am:Option Addr) (l c:Nat) (v:Value) (w:yW):Calls zG 57 #[.agg S.vals,.agg #[zU 3,zU o,zU t,zI n,zU 4,.string x,.slice am l c,zI p],v] w fun e w'=>e=.returned (two (2,true))∧yD w w':=by
 have e2:=Qk w (.cells S.vals 26) (.cells #[zU 3,zU o,zU t,zI n,zU 4,.string x,.slice am l c,zI p] 38)
 have n1:((zA w S.vals 26).alloc (.cells #[zU 3,zU o,zU t,zI n,zU 4,.string x,.slice am l c,zI p] 38)).heap[w§]? = (zC S.vals 26):=Qz (Qc _ _) (by rw [Qe];omega)
 have n2:((zA w S.vals 26).alloc (.cells #[zU 3,zU o,zU t,zI n,zU 4,.string x,.slice am l c,zI p] 38)).heap[w§+1]? = (zC #[zU 3,zU o,zU t,zI n,zU 4,.string x,.slice am l c,zI p] 38):=by rw [← Qe w (.cells S.vals 26)];exact Qc _ _
 obtain⟨V,eV⟩:∃ V,(zA w S.vals 26).alloc (.cells #[zU 3,zU o,zU t,zI n,zU 4,.string x,.slice am l c,zI p] 38)=V:=jV
 rw [eV] at e2 n1 n2
 have EV:=zH eV
 have HB:=zH e2
 have HN1:=zH n1
 have m0:zQ V ⟨w§+1,0,none⟩ (zU 3):=Qa n2 0
 have m1:zQ V ⟨w§+1,1,none⟩ (zU o):=Qa n2 1
 have m2:zQ V ⟨w§+1,2,none⟩ (zU t):=Qa n2 2
 have m4:zQ V ⟨w§+1,4,none⟩ (zU 4):=Qa n2 4
 have m5:zQ V ⟨w§+1,5,none⟩ (.string x):=Qa n2 5
 clear n1 n2 eV
 clear e2
 have hb2:=Qb V (.cells zl 34)
 have hn2:=Qc V (.cells zl 34)
 have k0:(zA V zl 34).cell? V§¢3=some (zU 2):=Qa hn2 3
 have k4:(zA V zl 34).cell? ⟨w§+1,4,none⟩=some (zU 4):=(hb2.cell (World.block_lt_of_cell? V _ m4)).trans m4
 have HB2:=zH (Qd HB.out hb2)
 clear hb2 hn2
 go_enter func57,ntmps57
 go_upto_region 1 with fail
 rw [EV.out]
 clear EV
 go_wp2
 go_ret2
 exact⟨rfl,HB2.out⟩
theorem QdA (S:Qg) (o t n:Int) (x:yB) (p:Int) (am:Option Addr) (l c:Nat) (v:Value) (w:yW):Calls zG 57 #[.agg S.vals,.agg #[zU 3,zU o,zU t,zI n,zU 5,.string x,.slice am l c,zI p],v] w fun e w'=>e=.returned (two (4,true))∧yD w w':=by
 have e2:=Qk w (.cells S.vals 26) (.cells #[zU 3,zU o,zU t,zI n,zU 5,.string x,.slice am l c,zI p] 38)
 have n1:((zA w S.vals 26).alloc (.cells #[zU 3,zU o,zU t,zI n,zU 5,.string x,.slice am l c,zI p] 38)).heap[w§]? = (zC S.vals 26):=Qz (Qc _ _) (by rw [Qe];omega)
 have n2:((zA w S.vals 26).alloc (.cells #[zU 3,zU o,zU t,zI n,zU 5,.string x,.slice am l c,zI p] 38)).heap[w§+1]? = (zC #[zU 3,zU o,zU t,zI n,zU 5,.string x,.slice am l c,zI p] 38):=by rw [← Qe w (.cells S.vals 26)];exact Qc _ _
 obtain⟨V,eV⟩:∃ V,(zA w S.vals 26).alloc (.cells #[zU 3,zU o,zU t,zI n,zU 5,.string x,.slice am l c,zI p] 38)=V:=jV
 rw [eV] at e2 n1 n2
 have EV:=zH eV
 have HB:=zH e2
 have HN1:=zH n1
 have m0:zQ V ⟨w§+1,0,none⟩ (zU 3):=Qa n2 0
 have m1:zQ V ⟨w§+1,1,none⟩ (zU o):=Qa n2 1
 have m2:zQ V ⟨w§+1,2,none⟩ (zU t):=Qa n2 2
 have m4:zQ V ⟨w§+1,4,none⟩ (zU 5):=Qa n2 4
 have m5:zQ V ⟨w§+1,5,none⟩ (.string x):=Qa n2 5
 clear n1 n2 eV
 clear e2
 have hb2:=Qb V (.cells zl 34)
 have hn2:=Qc V (.cells zl 34)
 have k0:(zA V zl 34).cell? V§¢4=some (zU 4):=Qa hn2 4
 have k4:(zA V zl 34).cell? ⟨w§+1,4,none⟩=some (zU 5):=(hb2.cell (World.block_lt_of_cell? V _ m4)).trans m4
 have HB2:=zH (Qd HB.out hb2)
 clear hb2 hn2
 go_enter func57,ntmps57
 go_upto_region 1 with fail
 rw [EV.out]
 clear EV
 go_wp2
 go_ret2
 exact⟨rfl,HB2.out⟩
theorem Qdz (S:Qg) (o t n:Int) (x:yB) (p:Int) (am:Option Addr) (l c:Nat) (v:Value) (w:yW):Calls zG 57 #[.agg S.vals,.agg #[zU 3,zU o,zU t,zI n,zU 6,.string x,.slice am l c,zI p],v] w fun e w'=>e=.returned (two (2,true))∧yD w w':=by
 have e2:=Qk w (.cells S.vals 26) (.cells #[zU 3,zU o,zU t,zI n,zU 6,.string x,.slice am l c,zI p] 38)
 have n1:((zA w S.vals 26).alloc (.cells #[zU 3,zU o,zU t,zI n,zU 6,.string x,.slice am l c,zI p] 38)).heap[w§]? = (zC S.vals 26):=Qz (Qc _ _) (by rw [Qe];omega)
 have n2:((zA w S.vals 26).alloc (.cells #[zU 3,zU o,zU t,zI n,zU 6,.string x,.slice am l c,zI p] 38)).heap[w§+1]? = (zC #[zU 3,zU o,zU t,zI n,zU 6,.string x,.slice am l c,zI p] 38):=by rw [← Qe w (.cells S.vals 26)];exact Qc _ _
 obtain⟨V,eV⟩:∃ V,(zA w S.vals 26).alloc (.cells #[zU 3,zU o,zU t,zI n,zU 6,.string x,.slice am l c,zI p] 38)=V:=jV
 rw [eV] at e2 n1 n2
 have EV:=zH eV
 have HB:=zH e2
 have HN1:=zH n1
 have m0:zQ V ⟨w§+1,0,none⟩ (zU 3):=Qa n2 0
 have m1:zQ V ⟨w§+1,1,none⟩ (zU o):=Qa n2 1
 have m2:zQ V ⟨w§+1,2,none⟩ (zU t):=Qa n2 2
 have m4:zQ V ⟨w§+1,4,none⟩ (zU 6):=Qa n2 4
 have m5:zQ V ⟨w§+1,5,none⟩ (.string x):=Qa n2 5
 clear n1 n2 eV
 clear e2
 have hb2:=Qb V (.cells zl 34)
 have hn2:=Qc V (.cells zl 34)
 have k0:(zA V zl 34).cell? V§¢5=some (zU 2):=Qa hn2 5
 have k4:(zA V zl 34).cell? ⟨w§+1,4,none⟩=some (zU 6):=(hb2.cell (World.block_lt_of_cell? V _ m4)).trans m4
 have HB2:=zH (Qd HB.out hb2)
 clear hb2 hn2
 go_enter func57,ntmps57
 go_upto_region 1 with fail
 rw [EV.out]
 clear EV
 go_wp2
 go_ret2
 exact⟨rfl,HB2.out⟩
theorem QfR (S:Qg) (o t n f:Int) (x:yB) (p:Int) (am:Option Addr) (l c:Nat) (g q cap:Nat) (a b d:Int) (w:yW) (c0:zQ w g¢q (zU a)) (c1:zQ w ⟨g,q+1,none⟩ (zU b)) (c2:zQ w ⟨g,q+2,none⟩ (zU d)):Calls zG 57 #[.agg S.vals,.agg #[zU 7,zU o,zU t,zI n,zU f,.string x,.slice am l c,zI p],.slice (some g¢q) 3 cap] w fun e w'=>e=.returned (two (b,a == 5 && b == d))∧yD w w':=by
 have e2:=Qk w (.cells S.vals 26) (.cells #[zU 7,zU o,zU t,zI n,zU f,.string x,.slice am l c,zI p] 38)
 have n1:((zA w S.vals 26).alloc (.cells #[zU 7,zU o,zU t,zI n,zU f,.string x,.slice am l c,zI p] 38)).heap[w§]? = (zC S.vals 26):=Qz (Qc _ _) (by rw [Qe];omega)
 have n2:((zA w S.vals 26).alloc (.cells #[zU 7,zU o,zU t,zI n,zU f,.string x,.slice am l c,zI p] 38)).heap[w§+1]? = (zC #[zU 7,zU o,zU t,zI n,zU f,.string x,.slice am l c,zI p] 38):=by rw [← Qe w (.cells S.vals 26)];exact Qc _ _
 obtain⟨V,eV⟩:∃ V,(zA w S.vals 26).alloc (.cells #[zU 7,zU o,zU t,zI n,zU f,.string x,.slice am l c,zI p] 38)=V:=jV
 rw [eV] at e2 n1 n2
 have EV:=zH eV
 have HB:=zH e2
 have HN1:=zH n1
 have m0:zQ V ⟨w§+1,0,none⟩ (zU 7):=Qa n2 0
 have m1:zQ V ⟨w§+1,1,none⟩ (zU o):=Qa n2 1
 have m2:zQ V ⟨w§+1,2,none⟩ (zU t):=Qa n2 2
 have m4:zQ V ⟨w§+1,4,none⟩ (zU f):=Qa n2 4
 have m5:zQ V ⟨w§+1,5,none⟩ (.string x):=Qa n2 5
 clear n1 n2 eV
 have d0:zQ V g¢q (zU a):=(e2.cell (World.block_lt_of_cell? w _ c0)).trans c0
 have d1:zQ V ⟨g,q+1,none⟩ (zU b):=(e2.cell (World.block_lt_of_cell? w _ c1)).trans c1
 have d2:zQ V ⟨g,q+2,none⟩ (zU d):=(e2.cell (World.block_lt_of_cell? w _ c2)).trans c2
 clear e2 c0 c1 c2
 obtain⟨A,eA⟩:∃ A,(a == 5)=A:=jV
 obtain⟨B,eB⟩:∃ A,(b == d)=A:=jV
 rw [eA,eB]
 cases A <;> cases B
 all_goals
  go_enter func57,ntmps57
  go_upto_region 1 with fail
  rw [EV.out]
  clear EV
  go_upto_region 11 with fail
  go_quiet (fail)
  go_wp2
  go_ret2
  exact⟨rfl,by have h:=HB.out;exact⟨h.os,h.tape,h.output,h.size,h.block⟩⟩
theorem QfQ (S:Qg) (o t n f:Int) (x:yB) (p:Int) (am:Option Addr) (l c:Nat) (g q cap:Nat) (a:Int) (w:yW) (c0:zQ w g¢q (zU a)):Calls zG 57 #[.agg S.vals,.agg #[zU 9,zU o,zU t,zI n,zU f,.string x,.slice am l c,zI p],.slice (some g¢q) 1 cap] w fun e w'=>e=.returned (two (t,numY a))∧yD w w':=by
 have e2:=Qk w (.cells S.vals 26) (.cells #[zU 9,zU o,zU t,zI n,zU f,.string x,.slice am l c,zI p] 38)
 have n1:((zA w S.vals 26).alloc (.cells #[zU 9,zU o,zU t,zI n,zU f,.string x,.slice am l c,zI p] 38)).heap[w§]? = (zC S.vals 26):=Qz (Qc _ _) (by rw [Qe];omega)
 have n2:((zA w S.vals 26).alloc (.cells #[zU 9,zU o,zU t,zI n,zU f,.string x,.slice am l c,zI p] 38)).heap[w§+1]? = (zC #[zU 9,zU o,zU t,zI n,zU f,.string x,.slice am l c,zI p] 38):=by rw [← Qe w (.cells S.vals 26)];exact Qc _ _
 obtain⟨V,eV⟩:∃ V,(zA w S.vals 26).alloc (.cells #[zU 9,zU o,zU t,zI n,zU f,.string x,.slice am l c,zI p] 38)=V:=jV
 rw [eV] at e2 n1 n2
 have EV:=zH eV
 have HB:=zH e2
 have HN1:=zH n1
 have m0:zQ V ⟨w§+1,0,none⟩ (zU 9):=Qa n2 0
 have m1:zQ V ⟨w§+1,1,none⟩ (zU o):=Qa n2 1
 have m2:zQ V ⟨w§+1,2,none⟩ (zU t):=Qa n2 2
 have m4:zQ V ⟨w§+1,4,none⟩ (zU f):=Qa n2 4
 have m5:zQ V ⟨w§+1,5,none⟩ (.string x):=Qa n2 5
 clear n1 n2 eV
 have d0:zQ V g¢q (zU a):=(e2.cell (World.block_lt_of_cell? w _ c0)).trans c0
 clear e2 c0
 have cN:∀ v,Calls zG 94 #[zU a] v fun e w'=>e=.returned (.bool (numY a))∧w'=v:=fun v=>Jk a v
 obtain⟨A,eA⟩:∃ A,numY a=A:=jV
 rw [eA] at cN ⊢
 clear eA
 go_enter func57,ntmps57
 go_upto_region 1 with fail
 rw [EV.out]
 clear EV
 go_upto_region 13 with fail
 go_quiet ((go_at_call 94;refine Calls.quiet_of_same (cN _)))
 go_wp2
 go_ret2
 exact⟨rfl,by have h:=HB.out;exact⟨h.os,h.tape,h.output,h.size,h.block⟩⟩
theorem F9 (S:Qg) (o t n f:Int) (x:yB) (p:Int) (am:Option Addr) (l c:Nat) (g q cap:Nat) (a b:Int) (w:yW) (c0:zQ w g¢q (zU a)) (c1:zQ w ⟨g,q+1,none⟩ (zU b)):Calls zG 57 #[.agg S.vals,.agg #[zU 6,zU o,zU t,zI n,zU f,.string x,.slice am l c,zI p],.slice (some g¢q) 2 cap] w fun e w'=>e=.returned (two (dTwo o a b))∧yD w w':=by
 have e2:=Qk w (.cells S.vals 26) (.cells #[zU 6,zU o,zU t,zI n,zU f,.string x,.slice am l c,zI p] 38)
 have n1:((zA w S.vals 26).alloc (.cells #[zU 6,zU o,zU t,zI n,zU f,.string x,.slice am l c,zI p] 38)).heap[w§]? = (zC S.vals 26):=Qz (Qc _ _) (by rw [Qe];omega)
 have n2:((zA w S.vals 26).alloc (.cells #[zU 6,zU o,zU t,zI n,zU f,.string x,.slice am l c,zI p] 38)).heap[w§+1]? = (zC #[zU 6,zU o,zU t,zI n,zU f,.string x,.slice am l c,zI p] 38):=by rw [← Qe w (.cells S.vals 26)];exact Qc _ _
 obtain⟨V,eV⟩:∃ V,(zA w S.vals 26).alloc (.cells #[zU 6,zU o,zU t,zI n,zU f,.string x,.slice am l c,zI p] 38)=V:=jV
 rw [eV] at e2 n1 n2
 have EV:=zH eV
 have HB:=zH e2
 have HN1:=zH n1
 have m0:zQ V ⟨w§+1,0,none⟩ (zU 6):=Qa n2 0
 have m1:zQ V ⟨w§+1,1,none⟩ (zU o):=Qa n2 1
 have m2:zQ V ⟨w§+1,2,none⟩ (zU t):=Qa n2 2
 have m4:zQ V ⟨w§+1,4,none⟩ (zU f):=Qa n2 4
 have m5:zQ V ⟨w§+1,5,none⟩ (.string x):=Qa n2 5
 clear n1 n2 eV
 have d0:zQ V g¢q (zU a):=(e2.cell (World.block_lt_of_cell? w _ c0)).trans c0
 have d1:zQ V ⟨g,q+1,none⟩ (zU b):=(e2.cell (World.block_lt_of_cell? w _ c1)).trans c1
 clear e2 c0 c1
 have cN:∀ v,Calls zG 95 #[zU o,zU a,zU b] v fun e w'=>e=.returned (two (dTwo o a b))∧w'=v:=fun v=>PO o a b v
 obtain⟨⟨r1,r2⟩,er⟩:∃ r,dTwo o a b=r:=jV
 rw [er] at cN ⊢
 unfold two at cN
 clear er
 go_enter func57,ntmps57
 go_upto_region 1 with fail
 rw [EV.out]
 clear EV
 go_upto_region 15 with fail
 go_quiet ((go_at_call 95;refine Calls.quiet_of_same (cN _)))
 go_wp2
 go_ret2
 exact⟨rfl,by have h:=HB.out;exact⟨h.os,h.tape,h.output,h.size,h.block⟩⟩
theorem F8 (S:Qg) (o t n f:Int) (x:yB) (p:Int) (am:Option Addr) (l c:Nat) (g q cap:Nat) (a b:Int) (w:yW) (c0:zQ w g¢q (zU a)) (c1:zQ w ⟨g,q+1,none⟩ (zU b)):Calls zG 57 #[.agg S.vals,.agg #[zU 8,zU o,zU t,zI n,zU f,.string x,.slice am l c,zI p],.slice (some g¢q) 2 cap] w fun e w'=>e=.returned (two (dTwo o a b))∧yD w w':=by
 have e2:=Qk w (.cells S.vals 26) (.cells #[zU 8,zU o,zU t,zI n,zU f,.string x,.slice am l c,zI p] 38)
 have n1:((zA w S.vals 26).alloc (.cells #[zU 8,zU o,zU t,zI n,zU f,.string x,.slice am l c,zI p] 38)).heap[w§]? = (zC S.vals 26):=Qz (Qc _ _) (by rw [Qe];omega)
 have n2:((zA w S.vals 26).alloc (.cells #[zU 8,zU o,zU t,zI n,zU f,.string x,.slice am l c,zI p] 38)).heap[w§+1]? = (zC #[zU 8,zU o,zU t,zI n,zU f,.string x,.slice am l c,zI p] 38):=by rw [← Qe w (.cells S.vals 26)];exact Qc _ _
 obtain⟨V,eV⟩:∃ V,(zA w S.vals 26).alloc (.cells #[zU 8,zU o,zU t,zI n,zU f,.string x,.slice am l c,zI p] 38)=V:=jV
 rw [eV] at e2 n1 n2
 have EV:=zH eV
 have HB:=zH e2
 have HN1:=zH n1
 have m0:zQ V ⟨w§+1,0,none⟩ (zU 8):=Qa n2 0
 have m1:zQ V ⟨w§+1,1,none⟩ (zU o):=Qa n2 1
 have m2:zQ V ⟨w§+1,2,none⟩ (zU t):=Qa n2 2
 have m4:zQ V ⟨w§+1,4,none⟩ (zU f):=Qa n2 4
 have m5:zQ V ⟨w§+1,5,none⟩ (.string x):=Qa n2 5
 clear n1 n2 eV
 have d0:zQ V g¢q (zU a):=(e2.cell (World.block_lt_of_cell? w _ c0)).trans c0
 have d1:zQ V ⟨g,q+1,none⟩ (zU b):=(e2.cell (World.block_lt_of_cell? w _ c1)).trans c1
 clear e2 c0 c1
 have cN:∀ v,Calls zG 95 #[zU o,zU a,zU b] v fun e w'=>e=.returned (two (dTwo o a b))∧w'=v:=fun v=>PO o a b v
 obtain⟨⟨r1,r2⟩,er⟩:∃ r,dTwo o a b=r:=jV
 rw [er] at cN ⊢
 unfold two at cN
 clear er
 go_enter func57,ntmps57
 go_upto_region 1 with fail
 rw [EV.out]
 clear EV
 go_upto_region 15 with fail
 go_quiet ((go_at_call 95;refine Calls.quiet_of_same (cN _)))
 go_wp2
 go_ret2
 exact⟨rfl,by have h:=HB.out;exact⟨h.os,h.tape,h.output,h.size,h.block⟩⟩
theorem Qb4 (S:Qg) (t n f:Int) (x:yB) (p:Int) (am:Option Addr) (l c:Nat) (g q cap:Nat) (a:Int) (w:yW) (c0:zQ w g¢q (zU a)):Calls zG 57 #[.agg S.vals,.agg #[zU 5,zU 2,zU t,zI n,zU f,.string x,.slice am l c,zI p],.slice (some g¢q) 1 cap] w fun e w'=>e=.returned (two (5,a == 5))∧yD w w':=by
 have e2:=Qk w (.cells S.vals 26) (.cells #[zU 5,zU 2,zU t,zI n,zU f,.string x,.slice am l c,zI p] 38)
 have n1:((zA w S.vals 26).alloc (.cells #[zU 5,zU 2,zU t,zI n,zU f,.string x,.slice am l c,zI p] 38)).heap[w§]? = (zC S.vals 26):=Qz (Qc _ _) (by rw [Qe];omega)
 have n2:((zA w S.vals 26).alloc (.cells #[zU 5,zU 2,zU t,zI n,zU f,.string x,.slice am l c,zI p] 38)).heap[w§+1]? = (zC #[zU 5,zU 2,zU t,zI n,zU f,.string x,.slice am l c,zI p] 38):=by rw [← Qe w (.cells S.vals 26)];exact Qc _ _
 obtain⟨V,eV⟩:∃ V,(zA w S.vals 26).alloc (.cells #[zU 5,zU 2,zU t,zI n,zU f,.string x,.slice am l c,zI p] 38)=V:=jV
 rw [eV] at e2 n1 n2
 have EV:=zH eV
 have HB:=zH e2
 have HN1:=zH n1
 have m0:zQ V ⟨w§+1,0,none⟩ (zU 5):=Qa n2 0
 have m1:zQ V ⟨w§+1,1,none⟩ (zU 2):=Qa n2 1
 have m2:zQ V ⟨w§+1,2,none⟩ (zU t):=Qa n2 2
 have m4:zQ V ⟨w§+1,4,none⟩ (zU f):=Qa n2 4
 have m5:zQ V ⟨w§+1,5,none⟩ (.string x):=Qa n2 5
 clear n1 n2 eV
 have d0:zQ V g¢q (zU a):=(e2.cell (World.block_lt_of_cell? w _ c0)).trans c0
 clear e2 c0
 obtain⟨A,eA⟩:∃ A,(a == 5)=A:=jV
 rw [eA]
 cases A
 all_goals
  go_enter func57,ntmps57
  go_upto_region 1 with fail
  rw [EV.out]
  clear EV
  go_upto_region 17 with fail
  go_quiet (fail)
  go_wp2
  go_ret2
  exact⟨rfl,by have h:=HB.out;exact⟨h.os,h.tape,h.output,h.size,h.block⟩⟩
theorem Qab (S:Qg) (o t n f:Int) (x:yB) (p:Int) (am:Option Addr) (l c:Nat) (g q cap:Nat) (a:Int) (w:yW) (ho:(o == 2)=false) (c0:zQ w g¢q (zU a)):Calls zG 57 #[.agg S.vals,.agg #[zU 5,zU o,zU t,zI n,zU f,.string x,.slice am l c,zI p],.slice (some g¢q) 1 cap] w fun e w'=>e=.returned (two (a,numY a))∧yD w w':=by
 have e2:=Qk w (.cells S.vals 26) (.cells #[zU 5,zU o,zU t,zI n,zU f,.string x,.slice am l c,zI p] 38)
 have n1:((zA w S.vals 26).alloc (.cells #[zU 5,zU o,zU t,zI n,zU f,.string x,.slice am l c,zI p] 38)).heap[w§]? = (zC S.vals 26):=Qz (Qc _ _) (by rw [Qe];omega)
 have n2:((zA w S.vals 26).alloc (.cells #[zU 5,zU o,zU t,zI n,zU f,.string x,.slice am l c,zI p] 38)).heap[w§+1]? = (zC #[zU 5,zU o,zU t,zI n,zU f,.string x,.slice am l c,zI p] 38):=by rw [← Qe w (.cells S.vals 26)];exact Qc _ _
 obtain⟨V,eV⟩:∃ V,(zA w S.vals 26).alloc (.cells #[zU 5,zU o,zU t,zI n,zU f,.string x,.slice am l c,zI p] 38)=V:=jV
 rw [eV] at e2 n1 n2
 have EV:=zH eV
 have HB:=zH e2
 have HN1:=zH n1
 have m0:zQ V ⟨w§+1,0,none⟩ (zU 5):=Qa n2 0
 have m1:zQ V ⟨w§+1,1,none⟩ (zU o):=Qa n2 1
 have m2:zQ V ⟨w§+1,2,none⟩ (zU t):=Qa n2 2
 have m4:zQ V ⟨w§+1,4,none⟩ (zU f):=Qa n2 4
 have m5:zQ V ⟨w§+1,5,none⟩ (.string x):=Qa n2 5
 clear n1 n2 eV
 have d0:zQ V g¢q (zU a):=(e2.cell (World.block_lt_of_cell? w _ c0)).trans c0
 clear e2 c0
 have cN:∀ v,Calls zG 94 #[zU a] v fun e w'=>e=.returned (.bool (numY a))∧w'=v:=fun v=>Jk a v
 obtain⟨A,eA⟩:∃ A,numY a=A:=jV
 rw [eA] at cN ⊢
 clear eA
 go_enter func57,ntmps57
 go_upto_region 1 with fail
 rw [EV.out]
 clear EV
 go_upto_region 18 with fail
 go_quiet ((go_at_call 94;refine Calls.quiet_of_same (cN _)))
 go_wp2
 go_ret2
 exact⟨rfl,by have h:=HB.out;exact⟨h.os,h.tape,h.output,h.size,h.block⟩⟩
theorem Qaa (S:Qg) (o t n f:Int) (x:yB) (p:Int) (am:Option Addr) (l c:Nat) (g q cap:Nat) (a:Int) (w:yW) (ho:(o == 2)=false) (c0:zQ w g¢q (zU a)):Calls zG 57 #[.agg S.vals,.agg #[zU 8,zU o,zU t,zI n,zU f,.string x,.slice am l c,zI p],.slice (some g¢q) 1 cap] w fun e w'=>e=.returned (two (a,numY a))∧yD w w':=by
 have e2:=Qk w (.cells S.vals 26) (.cells #[zU 8,zU o,zU t,zI n,zU f,.string x,.slice am l c,zI p] 38)
 have n1:((zA w S.vals 26).alloc (.cells #[zU 8,zU o,zU t,zI n,zU f,.string x,.slice am l c,zI p] 38)).heap[w§]? = (zC S.vals 26):=Qz (Qc _ _) (by rw [Qe];omega)
 have n2:((zA w S.vals 26).alloc (.cells #[zU 8,zU o,zU t,zI n,zU f,.string x,.slice am l c,zI p] 38)).heap[w§+1]? = (zC #[zU 8,zU o,zU t,zI n,zU f,.string x,.slice am l c,zI p] 38):=by rw [← Qe w (.cells S.vals 26)];exact Qc _ _
 obtain⟨V,eV⟩:∃ V,(zA w S.vals 26).alloc (.cells #[zU 8,zU o,zU t,zI n,zU f,.string x,.slice am l c,zI p] 38)=V:=jV
 rw [eV] at e2 n1 n2
 have EV:=zH eV
 have HB:=zH e2
 have HN1:=zH n1
 have m0:zQ V ⟨w§+1,0,none⟩ (zU 8):=Qa n2 0
 have m1:zQ V ⟨w§+1,1,none⟩ (zU o):=Qa n2 1
 have m2:zQ V ⟨w§+1,2,none⟩ (zU t):=Qa n2 2
 have m4:zQ V ⟨w§+1,4,none⟩ (zU f):=Qa n2 4
 have m5:zQ V ⟨w§+1,5,none⟩ (.string x):=Qa n2 5
 clear n1 n2 eV
 have d0:zQ V g¢q (zU a):=(e2.cell (World.block_lt_of_cell? w _ c0)).trans c0
 clear e2 c0
 have cN:∀ v,Calls zG 94 #[zU a] v fun e w'=>e=.returned (.bool (numY a))∧w'=v:=fun v=>Jk a v
 obtain⟨A,eA⟩:∃ A,numY a=A:=jV
 rw [eA] at cN ⊢
 clear eA
 go_enter func57,ntmps57
 go_upto_region 1 with fail
 rw [EV.out]
 clear EV
 go_upto_region 18 with fail
 go_quiet ((go_at_call 94;refine Calls.quiet_of_same (cN _)))
 go_wp2
 go_ret2
 exact⟨rfl,by have h:=HB.out;exact⟨h.os,h.tape,h.output,h.size,h.block⟩⟩
end Go.Proofs.YtfbjofnaghjmeaaGreatDoor
