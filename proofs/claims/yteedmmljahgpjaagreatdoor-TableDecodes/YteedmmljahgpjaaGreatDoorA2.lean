import Derived.Test.YteedmmljahgpjaaGreatDoorA0
import Derived.Test.YteedmmljahgpjaaGreatDoorA1
import Derived.WalkMore
import Derived.Deep.QuietTactic
import Derived.BigQuiet
import Derived.Below
import Derived.WalkKit
import Derived.ProofKit
import Derived.OwnWalk
import Derived.WalkSmall
import Derived.Outline
import Derived.Laws.BitsAllLaws
import Derived.Laws.Bits64b
import Derived.Laws.BitsLemmas
import Derived.Laws.Closers25b
namespace Go.Proofs.YteedmmljahgpjaaGreatDoor
set_option maxRecDepth 100000
set_option maxHeartbeats 2000000
open Go.RowKit
def pbT (s:ByteArray) (a:Nat):Tk:=if nbE s a=0 then nbT s a else tkP a
theorem pb_no {s:ByteArray}{a:Nat}(h:nbO s a=none):Hid (pbT s a=tkP a∧nbE s a=113):=by
 obtain⟨_,h2⟩:=(nb_no h).out
 exact⟨by unfold pbT; rw [h2,if_neg (by decide)],h2⟩
theorem pb_yes {s:ByteArray}{a n e:Nat}{ty:Int}(h:nbO s a=some (n,e,ty)):Hid (pbT s a=⟨3,s.extract a e,ty,n,a⟩∧nbE s a=0):=by
 obtain⟨h1,h2⟩:=(nb_yes h).out
 exact⟨by unfold pbT; rw [h2,if_pos rfl,h1],h2⟩
def nbM (o:Option Nat) (g bg:Bool) (e:Nat) (ty:Int):Option (Nat × Nat × Int):=match o with | none=>none | some n=>if g=true then none else if bg=true then none else some (n,e,ty)
theorem nbM_of {s:ByteArray}{a d e:Nat}(hd:d=a+lead digB (rest s a)) (he:e=if nbTy (rest s d)=1 then d else d+1) :
  nbO s a=nbM (wv ((rest s a).take (lead digB (rest s a))) 0) (decide (d - a > 1) && hd0 (rest s a)) (badH (rest s e)) e (nbTy (rest s d)):=by
 rw [nbO_parts s a d e hd he]
 unfold nbM
 cases wv ((rest s a).take (lead digB (rest s a))) 0 with
 | none=>rfl
 | some n =>
  simp only
  by_cases h:d - a > 1∧hd0 (rest s a)=true
  ·rw [if_pos h,if_pos (by rw [decide_eq_true h.1,h.2]; rfl)]
  ·have h2:(decide (d - a > 1) && hd0 (rest s a))=false:=by
    by_cases h1:d - a > 1
    ·rw [decide_eq_true h1,Bool.true_and]
     cases hh:hd0 (rest s a)
     ·rfl
     ·exact absurd ⟨h1,hh⟩ h
    ·rw [decide_eq_false h1]; rfl
   rw [if_neg h,h2]; rfl
theorem box_two (s:ByteArray) (w:World):∃ W,(w.alloc (.cells #[.string s] 9)).alloc (.cells #[zU 0,.string ⟨#[]⟩,zU 0,zI 0,zI 0] 160)=W ∧
  Hid (TkH W (w§+1) tk0)∧W.cell? ⟨w§,0,none⟩=some (.string s)∧Hid (Below w§ w W)∧W§=w§+2:=by
 refine⟨_,rfl,?_,?_,below_two w _ _,by rw [Sa,Sa]⟩
 ·show TkH _ _ _
  have:=Hn (w.alloc (.cells #[.string s] 9)) (.cells (tkA tk0) 160)
  rw [Sa] at this
  exact this
 ·exact Co (heap_old (Hn w (.cells #[.string s] 9)) (by rw [Sa]; omega)) 0
theorem numberp_any (s:ByteArray) (a:Nat) (hs:s.size≤140737488355328) (ha:a < s.size) (hdg:hdB digB (rest s a)=true) (w:World) :
  Calls zG 121 #[.string s,zI a] w fun e w'=>e=.returned (.tuple #[.agg (tkA (pbT s a)),zI (nbE s a)])∧Below w§ w w':=by
 obtain⟨d,hd⟩:∃ d,d=a+lead digB (rest s a):=⟨_,rfl⟩
 obtain⟨e,he⟩:∃ e,e=if nbTy (rest s d)=1 then d else d+1:=⟨_,rfl⟩
 have hp0:=lead_pos hdg
 have hd1:a≤d:=by omega
 have hd2:d≤s.size:=by have:=lead_le digB (rest s a); rw [J4] at this; omega
 have he1:a≤e:=by rw [he]; split <;> omega
 have he2:e≤s.size:=by
  rw [he]
  by_cases h:nbTy (rest s d)=1
  ·rw [if_pos h]; exact hd2
  ·rw [if_neg h]; exact nbTy_nil h
 obtain⟨x,ex⟩:∃ x,s.extract a d=x:=⟨_,rfl⟩
 have hxl:x.data.toList=(rest s a).take (lead digB (rest s a)):=by rw [← ex,hd]; exact ext_list _ _ _
 have hx0:rest x 0=(rest s a).take (lead digB (rest s a)):=by rw [← hxl]; unfold rest; simp
 have hxs:x.size=d - a:=by rw [← ex]; exact ext_size s a d hd2
 have hx00:hd0 (rest x 0)=hd0 (rest s a):=by rw [hx0]; exact hd0_take hp0 _
 have hO:=nbM_of hd he
 rw [← hx0,← hx00] at hO
 have cT:=typed_any s d hs hd2
 rw [← he] at cT
 have cW:=worth_any x (by omega) (fun c hc=>by rw [hx0] at hc; exact lead_all _ c hc)
 have cP:=isPadded_any x (by omega)
 have cG:=isGlued_any s e he2
 obtain⟨W,eW,HR,hc,HB,hz⟩:=box_two s w
 have cR:=reachN_any s a w§ hs (Nat.le_of_lt ha) W hc d hd
 obtain⟨o,ho⟩:∃ o,wv (rest x 0) 0=o:=⟨_,rfl⟩
 rw [ho] at hO cW
 obtain⟨ty,hty⟩:∃ ty,nbTy (rest s d)=ty:=⟨_,rfl⟩
 rw [hty] at hO cT
 rw [hxs] at cP
 obtain⟨bp,hbp⟩:∃ bp,(decide (d - a > 1) && hd0 (rest x 0))=bp:=⟨_,rfl⟩
 rw [hbp] at hO cP
 obtain⟨bg,hbg⟩:∃ bg,badH (rest s e)=bg:=⟨_,rfl⟩
 rw [hbg] at hO cG
 have HO:=zH hO
 obtain⟨r0,r1,r2,r3,r4⟩:=HR.out.cells
 obtain⟨f0,f1,f2,f3,f4⟩:=HR.out.froz
 clear hO hd he hp0 hxl hx0 hx00 ho hty hbp hbg hdg
 cases o with
 | none =>
  have K:=pb_no HO.out
  simp only [Option.isSome,wvN] at cW
  clear HO
  go_enter Tryz.func121,Tryz.ntmps121
  go_wp2_with (first | (go_at_call 137; refine cR.mono ?_; rintro _ v ⟨rfl,q⟩; obtain rfl:=q.symm) | (go_at_call 141; refine (cT _).mono ?_; rintro _ v ⟨rfl,q⟩; obtain rfl:=q.symm) | (go_at_call 142; refine (cW _).mono ?_; rintro _ v ⟨rfl,q⟩; obtain rfl:=q.symm) | (go_at_call 143; refine (cP _).mono ?_; rintro _ v ⟨rfl,q⟩; obtain rfl:=q.symm) | (go_at_call 144; refine (cG _).mono ?_; rintro _ v ⟨rfl,q⟩; obtain rfl:=q.symm))
  exact bodyPost_ret (Rt2 (p:=4) (u:=5) (ty:=160) rfl _ _ (w§+1) 160 (tkA (tkP a)) (0,0) _ rfl (HR.out.put (tkP a)) Tryz.underlying160 rfl zK) rfl ⟨by rw [K.out.1,K.out.2]; rfl,QJ HB.out (by omega) _ _ _ _ _⟩
 | some n =>
  simp only [Option.isSome,wvN] at cW
  cases bp
  ·cases bg
   ·have K:=pb_yes HO.out
    obtain⟨y,ey⟩:∃ y,s.extract a e=y:=⟨_,rfl⟩
    rw [ey] at K
    clear HO
    go_enter Tryz.func121,Tryz.ntmps121
    go_wp2_with (first | (go_at_call 137; refine cR.mono ?_; rintro _ v ⟨rfl,q⟩; obtain rfl:=q.symm) | (go_at_call 141; refine (cT _).mono ?_; rintro _ v ⟨rfl,q⟩; obtain rfl:=q.symm) | (go_at_call 142; refine (cW _).mono ?_; rintro _ v ⟨rfl,q⟩; obtain rfl:=q.symm) | (go_at_call 143; refine (cP _).mono ?_; rintro _ v ⟨rfl,q⟩; obtain rfl:=q.symm) | (go_at_call 144; refine (cG _).mono ?_; rintro _ v ⟨rfl,q⟩; obtain rfl:=q.symm))
    exact bodyPost_ret (Rt2 (p:=4) (u:=5) (ty:=160) rfl _ _ (w§+1) 160 (tkA ⟨3,y,ty,n,a⟩) (0,0) _ rfl (HR.out.put ⟨3,y,ty,n,a⟩) Tryz.underlying160 rfl zK) rfl ⟨by rw [K.out.1,K.out.2]; rfl,QJ HB.out (by omega) _ _ _ _ _⟩
   ·have K:=pb_no HO.out
    clear HO
    go_enter Tryz.func121,Tryz.ntmps121
    go_wp2_with (first | (go_at_call 137; refine cR.mono ?_; rintro _ v ⟨rfl,q⟩; obtain rfl:=q.symm) | (go_at_call 141; refine (cT _).mono ?_; rintro _ v ⟨rfl,q⟩; obtain rfl:=q.symm) | (go_at_call 142; refine (cW _).mono ?_; rintro _ v ⟨rfl,q⟩; obtain rfl:=q.symm) | (go_at_call 143; refine (cP _).mono ?_; rintro _ v ⟨rfl,q⟩; obtain rfl:=q.symm) | (go_at_call 144; refine (cG _).mono ?_; rintro _ v ⟨rfl,q⟩; obtain rfl:=q.symm))
    exact bodyPost_ret (Rt2 (p:=4) (u:=5) (ty:=160) rfl _ _ (w§+1) 160 (tkA (tkP a)) (0,0) _ rfl (HR.out.put (tkP a)) Tryz.underlying160 rfl zK) rfl ⟨by rw [K.out.1,K.out.2]; rfl,QJ HB.out (by omega) _ _ _ _ _⟩
  ·have K:=pb_no HO.out
   clear HO
   go_enter Tryz.func121,Tryz.ntmps121
   go_wp2_with (first | (go_at_call 137; refine cR.mono ?_; rintro _ v ⟨rfl,q⟩; obtain rfl:=q.symm) | (go_at_call 141; refine (cT _).mono ?_; rintro _ v ⟨rfl,q⟩; obtain rfl:=q.symm) | (go_at_call 142; refine (cW _).mono ?_; rintro _ v ⟨rfl,q⟩; obtain rfl:=q.symm) | (go_at_call 143; refine (cP _).mono ?_; rintro _ v ⟨rfl,q⟩; obtain rfl:=q.symm) | (go_at_call 144; refine (cG _).mono ?_; rintro _ v ⟨rfl,q⟩; obtain rfl:=q.symm))
   exact bodyPost_ret (Rt2 (p:=4) (u:=5) (ty:=160) rfl _ _ (w§+1) 160 (tkA (tkP a)) (0,0) _ rfl (HR.out.put (tkP a)) Tryz.underlying160 rfl zK) rfl ⟨by rw [K.out.1,K.out.2]; rfl,QJ HB.out (by omega) _ _ _ _ _⟩
set_option maxHeartbeats 4000000
def J6 (s:ByteArray) (a:Nat):Bool:=(List.range 6).any (mkB s a)
theorem mk_two (i:Nat) (h:i < 6):(mk i).size=2:=by
 have:∀ i,i < 6→(mk i).size=2:=by decide
 exact this i h
theorem mk_one (i:Nat) (h:6≤i) (h2:i < 23):(mk i).size=1:=by
 have:∀ i,i < 23→6≤i→(mk i).size=1:=by decide
 exact this i h2 h
theorem mkB_two {s:ByteArray}{a:Nat}(h:a+2≤s.size) (i:Nat) (hi:i < 6):mkB s a i=((s.extract a (a+2)).toList == (mk i).data.toList):=by
 unfold mkB
 rw [mk_two i hi,decide_eq_true h,ByteArray.toList_eq,Bool.true_and]
theorem pairB_of {s:ByteArray}{a:Nat}(h:a+2≤s.size) {x:ByteArray}(hx:s.extract a (a+2)=x):J6 s a=((x.toList == [61,61]) || ((x.toList == [33,61]) || ((x.toList == [60,61]) || ((x.toList == [62,61]) || ((x.toList == [38,38]) || (x.toList == [124,124])))))):=by
 unfold J6
 have e:∀ i,i < 6→mkB s a i=(x.toList == (mk i).data.toList):=fun i hi=>by rw [mkB_two h i hi,hx]
 rw [show List.range 6 = [0,1,2,3,4,5] from rfl]
 simp only [List.any_cons,List.any_nil,Bool.or_false]
 rw [e 0 (by decide),e 1 (by decide),e 2 (by decide),e 3 (by decide),e 4 (by decide),e 5 (by decide)]
 rfl
theorem pairB_short {s:ByteArray}{a:Nat}(h:¬ a+2≤s.size):J6 s a=false:=by
 unfold J6
 rw [List.any_eq_false]
 intro i hi
 have hi6:i < 6:=by simpa using hi
 unfold mkB
 rw [mk_two i hi6,decide_eq_false h]
 simp
theorem isPair_any (s:ByteArray) (a:Nat) (hs:s.size≤140737488355328) (ha:a≤s.size) (w:World) :
  Calls zG 145 #[.string s,zI a] w fun e w'=>e=.returned (.bool (J6 s a))∧w'=w:=by
 by_cases h:a+2≤s.size
 ·obtain⟨d,hd⟩:∃ d,d=a+2:=⟨_,rfl⟩
  have hdI:(a:Int)+2=(d:Int):=by omega
  have hd1:a≤d:=by omega
  have hd2:d≤s.size:=by omega
  have h':¬ (s.size:Int) < (d:Int):=by omega
  obtain⟨x,ex⟩:∃ x,s.extract a d=x:=⟨_,rfl⟩
  have hP:=pairB_of h (x:=x) (by rw [← hd]; exact ex)
  obtain⟨b,eb⟩:∃ b,J6 s a=b:=⟨_,rfl⟩
  rw [eb] at hP ⊢
  have KB:=zH hP
  clear hd h hP eb
  cases q0:(x.toList == [61,61])
  ·cases q1:(x.toList == [33,61])
   ·cases q2:(x.toList == [60,61])
    ·cases q3:(x.toList == [62,61])
     ·cases q4:(x.toList == [38,38])
      ·cases q5:(x.toList == [124,124])
       ·have KB2:Hid (b=false):=by show _=_; rw [KB.out,q0,q1,q2,q3,q4,q5]; rfl
        clear KB
        go_enter Tryz.func145,Tryz.ntmps145
        go_wp2_with fail
        go_ret
        exact⟨retB (by rw [KB2.out]),rfl⟩
       ·have KB2:Hid (b=true):=by show _=_; rw [KB.out,q0,q1,q2,q3,q4,q5]; simp
        clear KB
        go_enter Tryz.func145,Tryz.ntmps145
        go_wp2_with fail
        go_ret
        exact⟨retB (by rw [KB2.out]),rfl⟩
      ·have KB2:Hid (b=true):=by show _=_; rw [KB.out,q0,q1,q2,q3,q4]; simp
       clear KB
       go_enter Tryz.func145,Tryz.ntmps145
       go_wp2_with fail
       go_ret
       exact⟨retB (by rw [KB2.out]),rfl⟩
     ·have KB2:Hid (b=true):=by show _=_; rw [KB.out,q0,q1,q2,q3]; simp
      clear KB
      go_enter Tryz.func145,Tryz.ntmps145
      go_wp2_with fail
      go_ret
      exact⟨retB (by rw [KB2.out]),rfl⟩
    ·have KB2:Hid (b=true):=by show _=_; rw [KB.out,q0,q1,q2]; simp
     clear KB
     go_enter Tryz.func145,Tryz.ntmps145
     go_wp2_with fail
     go_ret
     exact⟨retB (by rw [KB2.out]),rfl⟩
   ·have KB2:Hid (b=true):=by show _=_; rw [KB.out,q0,q1]; simp
    clear KB
    go_enter Tryz.func145,Tryz.ntmps145
    go_wp2_with fail
    go_ret
    exact⟨retB (by rw [KB2.out]),rfl⟩
  ·have KB2:Hid (b=true):=by show _=_; rw [KB.out,q0]; simp
   clear KB
   go_enter Tryz.func145,Tryz.ntmps145
   go_wp2_with fail
   go_ret
   exact⟨retB (by rw [KB2.out]),rfl⟩
 ·have h':(s.size:Int) < (a:Int)+2:=by omega
  rw [pairB_short h]
  go_enter Tryz.func145,Tryz.ntmps145
  go_wp2_with fail
  go_ret
  exact⟨rfl,rfl⟩
def JW:List UInt8:=[123,125,40,41,44,59,63,58,61,33,60,62,43,45,42,47,37]
theorem index_mem:∀ (l:List UInt8) (c:UInt8),c ∈ l→0≤Lib.indexByte l c
 | [],c,h=>by simp at h
 | b :: l,c,h=>by
  unfold Lib.indexByte
  by_cases hb:b == c
  ·rw [if_pos hb]; exact Int.le_refl _
  ·rw [if_neg hb]
   rw [List.mem_cons] at h
   rcases h with rfl | h
   ·simp at hb
   ·have:=index_mem l c h
    rw [if_neg (by simp; omega)]; omega
theorem index_no:∀ (l:List UInt8) (c:UInt8),c ∉ l→Lib.indexByte l c = -1
 | [],c,h=>rfl
 | b :: l,c,h=>by
  rw [List.mem_cons,not_or] at h
  have:=index_no l c h.2
  unfold Lib.indexByte
  rw [if_neg (by simpa using (fun e:b=c=>h.1 e.symm)),this]
  rfl
theorem mkO_at {s:ByteArray}{a i:Nat}(h:mkO s a=some i):i < 23∧mkB s a i=true∧∀ j,j < i→mkB s a j=false:=by
 unfold mkO at h
 rw [List.find?_range_eq_some] at h
 exact⟨by simpa using h.2.1,h.1,fun j hj=>by simpa using h.2.2 j hj⟩
theorem mkB_at {s:ByteArray}{a i:Nat}(h:mkB s a i=true):a+(mk i).size≤s.size∧s.extract a (a+(mk i).size)=mk i:=by
 unfold mkB at h
 rw [Bool.and_eq_true] at h
 exact⟨of_decide_eq_true h.1,Kl (by simpa using h.2)⟩
theorem mark_two {s:ByteArray}{a:Nat}(h:J6 s a=true):a+2≤s.size∧mkT s a=⟨4,s.extract a (a+2),0,0,a⟩∧mkE s a=0:=by
 unfold J6 at h
 rw [List.any_eq_true] at h
 obtain⟨j,hj,hm⟩:=h
 have hj6:j < 6:=by simpa using hj
 cases ho:mkO s a with
 | none =>
  unfold mkO at ho
  rw [List.find?_eq_none] at ho
  exact absurd hm (ho j (by simp; omega))
 | some i =>
  obtain⟨h1,h2,h3⟩:=mkO_at ho
  have hi6:i < 6:=by
   by_cases hij:i≤j
   ·omega
   ·rw [h3 j (by omega)] at hm; cases hm
  obtain⟨h4,h5⟩:=mkB_at h2
  rw [mk_two i hi6] at h4 h5
  refine⟨h4,?_,?_⟩
  ·unfold mkT; rw [ho,h5]
  ·unfold mkE; rw [ho]
theorem ext_one {s:ByteArray}{a:Nat}{c:UInt8}(ha:a < s.size) (hc:s[a]=c):s.extract a (a+1)=⟨#[c]⟩:=by
 rw [ext_eq,Jr s a ha,hc]; rfl
theorem mark_one {s:ByteArray}{a:Nat}{c:UInt8}(ha:a < s.size) (hc:s[a]=c) (h:J6 s a=false) (hm:c ∈ JW):mkT s a=⟨4,s.extract a (a+1),0,0,a⟩∧mkE s a=0:=by
 have hex:=ext_one ha hc
 have hj:∃ j,6≤j∧j < 23∧mk j=⟨#[c]⟩:=by
  have:∀ c ∈ JW,∃ j,j < 23∧(6≤j∧(mk j).data.toList = [c]):=by decide
  obtain⟨j,h1,h2,h3⟩:=this c hm
  exact⟨j,h2,h1,Kl h3⟩
 obtain⟨j,j1,j2,j3⟩:=hj
 have hB:mkB s a j=true:=by
  unfold mkB
  rw [mk_one j j1 j2,hex,j3,decide_eq_true (by omega)]; simp
 cases ho:mkO s a with
 | none =>
  unfold mkO at ho
  rw [List.find?_eq_none] at ho
  exact absurd hB (ho j (by simp; omega))
 | some i =>
  obtain⟨h1,h2,_⟩:=mkO_at ho
  have hi6:6≤i:=by
   by_cases hi:6≤i
   ·exact hi
   ·unfold J6 at h
    rw [List.any_eq_false] at h
    exact absurd h2 (h i (by simp; omega))
  obtain⟨h4,h5⟩:=mkB_at h2
  rw [mk_one i hi6 h1] at h4 h5
  refine⟨?_,?_⟩
  ·unfold mkT; rw [ho,h5]
  ·unfold mkE; rw [ho]
theorem mark_no {s:ByteArray}{a:Nat}{c:UInt8}(ha:a < s.size) (hc:s[a]=c) (h:J6 s a=false) (hm:c ∉ JW):mkE s a=111:=by
 have hex:=ext_one ha hc
 cases ho:mkO s a with
 | none=>unfold mkE; rw [ho]
 | some i =>
  exfalso
  obtain⟨h1,h2,_⟩:=mkO_at ho
  have hi6:6≤i:=by
   by_cases hi:6≤i
   ·exact hi
   ·unfold J6 at h
    rw [List.any_eq_false] at h
    exact absurd h2 (h i (by simp; omega))
  obtain⟨h4,h5⟩:=mkB_at h2
  rw [mk_one i hi6 h1,hex] at h5
  have:∀ i,i < 23→6≤i→∀ c ∈ (mk i).data.toList,c ∈ JW:=by decide
  exact hm (this i h1 hi6 c (by rw [← h5]; simp))
def pmT (s:ByteArray) (a:Nat):Tk:=if mkE s a=0 then mkT s a else tkP a
theorem box_one (w:World):∃ W,w.alloc (.cells #[zU 0,.string ⟨#[]⟩,zU 0,zI 0,zI 0] 160)=W ∧
  Hid (TkH W w§ tk0)∧Hid (Below w§ w W)∧W§=w§+1 :=
 ⟨_,rfl,Hn w _,Bn w _,by rw [Sa]⟩
theorem markp_any (s:ByteArray) (a:Nat) (hs:s.size≤140737488355328) (ha:a < s.size) (w:World) :
  Calls zG 122 #[.string s,zI a] w fun e w'=>e=.returned (.tuple #[.agg (tkA (pmT s a)),zI (mkE s a)])∧Below w§ w w':=by
 have haI:(a:Int) < (s.size:Int):=by omega
 obtain⟨c,hc⟩:∃ c,s[a]=c:=⟨_,rfl⟩
 have cI:=indexByte_any Z4 (c.toNat:Int)
 have hcc:((c.toNat:Int)).toNat.toUInt8=c:=by simp
 have cP:=isPair_any s a hs (Nat.le_of_lt ha)
 obtain⟨W,eW,HR,HB,hz⟩:=box_one w
 obtain⟨r0,r1,r2,r3,r4⟩:=HR.out.cells
 obtain⟨f0,f1,f2,f3,f4⟩:=HR.out.froz
 cases hp:J6 s a
 ·rw [hp] at cP
  by_cases hm:c ∈ JW
  ·obtain⟨m1,m2⟩:=mark_one ha hc hp hm
   have hi:0≤Lib.indexByte JW c:=index_mem _ _ hm
   obtain⟨g,hg⟩:∃ g,Lib.indexByte JW c=g:=⟨_,rfl⟩
   rw [hg] at hi
   have cI2:∀ w,Calls zG 146 #[.string Z4,zU (c.toNat:Int)] w fun e w'=>e=.returned (zI g)∧w'=w:=fun w=>by
    have:=cI w
    rw [hcc,show (ByteArray.mk #[123,125,40,41,44,59,63,58,61,33,60,62,43,45,42,47,37]).data.toList=JW from rfl,hg] at this
    exact this
   obtain⟨d,hd⟩:∃ d,d=a+1:=⟨_,rfl⟩
   have hdI:(a:Int)+1=(d:Int):=by omega
   have hd1:a≤d:=by omega
   have hd2:d≤s.size:=by omega
   obtain⟨x,ex⟩:∃ x,s.extract a d=x:=⟨_,rfl⟩
   have K:Hid (pmT s a=⟨4,x,0,0,a⟩∧mkE s a=0):=⟨by unfold pmT; rw [m2,if_pos rfl,m1,← hd,ex],m2⟩
   clear m1 m2 hd hm cI hg hcc hp
   go_enter Tryz.func122,Tryz.ntmps122
   go_wp2_with (first | (go_at_call 145; refine (cP _).mono ?_; rintro _ v ⟨rfl,q⟩; obtain rfl:=q.symm) | (go_at_call 146; refine (cI2 _).mono ?_; rintro _ v ⟨rfl,q⟩; obtain rfl:=q.symm))
   exact bodyPost_ret (Rt2 (p:=4) (u:=5) (ty:=160) rfl _ _ w§ 160 (tkA ⟨4,x,0,0,a⟩) (0,0) _ rfl (HR.out.put ⟨4,x,0,0,a⟩) Tryz.underlying160 rfl zK) rfl ⟨by rw [K.out.1,K.out.2]; rfl,QJ HB.out (Nat.le_refl _) _ _ _ _ _⟩
  ·have m2:=mark_no ha hc hp hm
   have hi:Lib.indexByte JW c = -1:=index_no _ _ hm
   have cI2:∀ w,Calls zG 146 #[.string Z4,zU (c.toNat:Int)] w fun e w'=>e=.returned (zI (-1))∧w'=w:=fun w=>by
    have:=cI w
    rw [hcc,show (ByteArray.mk #[123,125,40,41,44,59,63,58,61,33,60,62,43,45,42,47,37]).data.toList=JW from rfl,hi] at this
    exact this
   have K:Hid (pmT s a=tkP a∧mkE s a=111):=⟨by unfold pmT; rw [m2,if_neg (by decide)],m2⟩
   clear m2 hm cI hi hcc hp
   go_enter Tryz.func122,Tryz.ntmps122
   go_wp2_with (first | (go_at_call 145; refine (cP _).mono ?_; rintro _ v ⟨rfl,q⟩; obtain rfl:=q.symm) | (go_at_call 146; refine (cI2 _).mono ?_; rintro _ v ⟨rfl,q⟩; obtain rfl:=q.symm))
   exact bodyPost_ret (Rt2 (p:=4) (u:=5) (ty:=160) rfl _ _ w§ 160 (tkA (tkP a)) (0,0) _ rfl (HR.out.put (tkP a)) Tryz.underlying160 rfl zK) rfl ⟨by rw [K.out.1,K.out.2]; rfl,QJ HB.out (Nat.le_refl _) _ _ _ _ _⟩
 ·rw [hp] at cP
  obtain⟨m0,m1,m2⟩:=mark_two hp
  obtain⟨d,hd⟩:∃ d,d=a+2:=⟨_,rfl⟩
  have hdI:(a:Int)+2=(d:Int):=by omega
  have hd1:a≤d:=by omega
  have hd2:d≤s.size:=by omega
  obtain⟨x,ex⟩:∃ x,s.extract a d=x:=⟨_,rfl⟩
  have K:Hid (pmT s a=⟨4,x,0,0,a⟩∧mkE s a=0):=⟨by unfold pmT; rw [m2,if_pos rfl,m1,← hd,ex],m2⟩
  clear m0 m1 m2 hd cI hcc hp
  go_enter Tryz.func122,Tryz.ntmps122
  go_wp2_with (go_at_call 145; refine (cP _).mono ?_; rintro _ v ⟨rfl,q⟩; obtain rfl:=q.symm)
  exact bodyPost_ret (Rt2 (p:=4) (u:=5) (ty:=160) rfl _ _ w§ 160 (tkA ⟨4,x,0,0,a⟩) (0,0) _ rfl (HR.out.put ⟨4,x,0,0,a⟩) Tryz.underlying160 rfl zK) rfl ⟨by rw [K.out.1,K.out.2]; rfl,QJ HB.out (Nat.le_refl _) _ _ _ _ _⟩
set_option maxHeartbeats 8000000
theorem start_any (s:ByteArray) (a:Nat) (hs:s.size≤140737488355328) (ha:a≤s.size) (d:Nat) (hd:Hid (d=a+ov (rest s a) false)) (w:World) :
  Calls zG 117 #[.string s,zI a] w fun e w'=>e=.returned (zI d)∧w'=w:=by
 go_enter Tryz.func117,Tryz.ntmps117
 go_wp2_with fail
 go_step3
 go_wp2_with fail
 go_step3
 go_wp2_with fail
 go_loop [1,5] (fun t r=>∃ (i:Nat) (b:Bool),a≤i∧i≤s.size∧t=zI i∧r=.bool b∧Hid (d=i+ov (rest s i) b)) (fun t _=>s.size - (intOf t).toNat)
 case atStart=>exact⟨a,false,Nat.le_refl _,ha,rfl,rfl,hd⟩
 case round =>
  obtain⟨i,b,hi1,hi2,rfl,rfl,HR⟩:=hrel
  clear hd
  by_cases hlt:i < s.size
  ·have hlt':(i:Int) < (s.size:Int):=by omega
   have hr:=Jr s i hlt
   obtain⟨c,hc⟩:∃ c,s[i]=c:=⟨_,rfl⟩
   rw [hc] at hr
   have hcl:=byte_lt c
   have hq:=zH hr
   clear hr
   by_cases k10:c.toNat=10
   ·have x10:((c.toNat:Int) == 10)=true:=by rw [k10]; rfl
    have hs2:Hid (d=(i+1)+ov (rest s (i+1)) false):=by
     show _=_
     have e:remB b c=false:=by unfold remB; rw [if_neg (by omega),if_pos k10]
     have e2:JY c=true:=by unfold JY; simp [k10]
     rw [HR.out,hq.out,ov_go (by rw [e2]; simp),e]; omega
    go_wp2_with fail
    exact⟨⟨i+1,false,by omega,by omega,by go_num,rfl,hs2⟩,by simp only [intOf]; omega⟩
   ·have x10:((c.toNat:Int) == 10)=false:=beq_false_of_ne (by omega)
    by_cases kb:c.toNat=32∨c.toNat=9∨c.toNat=13
    ·have e:remB b c=b:=by unfold remB; rw [if_neg (by omega),if_neg (by omega)]
     have e2:JY c=true:=by unfold JY; simp; omega
     have hs2:Hid (d=(i+1)+ov (rest s (i+1)) b):=by
      show _=_
      rw [HR.out,hq.out,ov_go (by rw [e2]; simp),e]; omega
     clear e e2
     rcases kb with h | h | h
     ·have x32:((c.toNat:Int) == 32)=true:=by rw [h]; rfl
      go_wp2_with fail
      exact⟨⟨i+1,b,by omega,by omega,by go_num,rfl,hs2⟩,by simp only [intOf]; omega⟩
     ·have x32:((c.toNat:Int) == 32)=false:=beq_false_of_ne (by omega)
      have x9:((c.toNat:Int) == 9)=true:=by rw [h]; rfl
      go_wp2_with fail
      exact⟨⟨i+1,b,by omega,by omega,by go_num,rfl,hs2⟩,by simp only [intOf]; omega⟩
     ·have x32:((c.toNat:Int) == 32)=false:=beq_false_of_ne (by omega)
      have x9:((c.toNat:Int) == 9)=false:=beq_false_of_ne (by omega)
      have x13:((c.toNat:Int) == 13)=true:=by rw [h]; rfl
      go_wp2_with fail
      exact⟨⟨i+1,b,by omega,by omega,by go_num,rfl,hs2⟩,by simp only [intOf]; omega⟩
    ·have x32:((c.toNat:Int) == 32)=false:=beq_false_of_ne (by omega)
     have x9:((c.toNat:Int) == 9)=false:=beq_false_of_ne (by omega)
     have x13:((c.toNat:Int) == 13)=false:=beq_false_of_ne (by omega)
     have e2:JY c=false:=by unfold JY; simp; omega
     by_cases k35:c.toNat=35
     ·have x35:((c.toNat:Int) == 35)=true:=by rw [k35]; rfl
      have e:remB b c=true:=by unfold remB; rw [if_pos k35]
      have hs2:Hid (d=(i+1)+ov (rest s (i+1)) true):=by
       show _=_
       rw [HR.out,hq.out,ov_go (by rw [e]; simp),e]; omega
      clear e e2
      go_wp2_with fail
      exact⟨⟨i+1,true,by omega,by omega,by go_num,rfl,hs2⟩,by simp only [intOf]; omega⟩
     ·have x35:((c.toNat:Int) == 35)=false:=beq_false_of_ne (by omega)
      have e:remB b c=b:=by unfold remB; rw [if_neg k35,if_neg k10]
      cases b
      ·have hs2:Hid (i=d):=by show _=_; rw [HR.out,hq.out,ov_stop e e2]; omega
       clear e e2
       go_wp2_with fail
       go_ret
       exact⟨retI (by rw [hs2.out]),rfl⟩
      ·have hs2:Hid (d=(i+1)+ov (rest s (i+1)) true):=by
        show _=_
        rw [HR.out,hq.out,ov_go (by rw [e]; simp),e]; omega
       clear e e2
       go_wp2_with fail
       exact⟨⟨i+1,true,by omega,by omega,by go_num,rfl,hs2⟩,by simp only [intOf]; omega⟩
  ·have hn:¬ (i:Int) < (s.size:Int):=by omega
   have hs2:Hid (i=d):=by show _=_; rw [HR.out,Kn s i (by omega)]; rfl
   go_wp2_with fail
   go_ret
   exact⟨retI (by rw [hs2.out]),rfl⟩
def fsT (s:ByteArray) (f:Nat):Tk:=if oneE s f=0 then oneT s f else tkP (oneP s f)
def fsV (s:ByteArray) (f:Nat):Value:=.tuple #[.agg (tkA (fsT s f)),zI (oneE s f)]
theorem first_any (s:ByteArray) (f:Nat) (hs:s.size≤140737488355328) (hf:f≤s.size) (w:World) (ht:Tab w) :
  Calls zG 93 #[.string s,zI f] w fun e w'=>e=.returned (fsV s f)∧Below w§ w w':=by
 obtain⟨d,hd⟩:∃ d,oneP s f=d:=⟨_,rfl⟩
 have hdl:d≤s.size:=by rw [← hd]; exact oneP_le s f hf
 have cS:=start_any s f hs hf d hd.symm
 obtain⟨W,eW,HR,HB,hz⟩:=box_one w
 obtain⟨r0,r1,r2,r3,r4⟩:=HR.out.cells
 obtain⟨f0,f1,f2,f3,f4⟩:=HR.out.froz
 by_cases h0:d=s.size
 ·have K:Hid (fsV s f=.tuple #[.agg (tkA (tkP d)),zI 0]):=by
   show _=_
   have e0:oneE s f=0:=by unfold oneE; rw [hd,if_pos h0]
   unfold fsV fsT
   rw [e0,if_pos rfl]
   unfold oneT
   rw [hd,if_pos h0]; rfl
  have h0':((d:Int) == (s.size:Int))=true:=by rw [h0]; simp
  clear hd h0
  go_enter Tryz.func93,Tryz.ntmps93
  go_wp2_with (go_at_call 117; refine (cS _).mono ?_; rintro _ v ⟨rfl,q⟩; obtain rfl:=q.symm)
  exact bodyPost_ret (Rt2 (p:=4) (u:=5) (ty:=160) rfl _ _ w§ 160 (tkA (tkP d)) (0,0) _ rfl (HR.out.put (tkP d)) Tryz.underlying160 rfl zK) rfl ⟨by rw [K.out]; rfl,QJ HB.out (Nat.le_refl _) _ _ _ _ _⟩
 ·have h0':((d:Int) == (s.size:Int))=false:=beq_false_of_ne (by omega)
  have hlt:d < s.size:=by omega
  have hlt':(d:Int) < (s.size:Int):=by omega
  obtain⟨c,hc⟩:∃ c,s[d]=c:=⟨_,rfl⟩
  have hl:=hd_at hlt hc letB
  have hg:=hd_at hlt hc digB
  have hTW:=ht.on HB.out
  cases b1:letB c
  ·cases b2:digB c
   ·have K:Hid (fsV s f=.tuple #[.agg (tkA (pmT s d)),zI (mkE s d)]):=by
     show _=_
     have e0:oneE s f=mkE s d:=by unfold oneE; rw [hd,if_neg h0,hl,b1,if_neg (by decide),hg,b2,if_neg (by decide)]
     have e1:oneT s f=mkT s d:=by unfold oneT; rw [hd,if_neg h0,hl,b1,if_neg (by decide),hg,b2,if_neg (by decide)]
     unfold fsV fsT pmT
     rw [e0,e1,hd]
    have cM:=markp_any s d hs hlt W
    obtain⟨T,eT⟩:∃ T,pmT s d=T:=⟨_,rfl⟩
    obtain⟨E,eE⟩:∃ E,mkE s d=E:=⟨_,rfl⟩
    rw [eT,eE] at cM K
    unfold tkA at cM
    clear hd h0 hl hg eT eE r0 r1 r2 r3 r4 f0 f1 f2 f3 f4
    go_enter Tryz.func93,Tryz.ntmps93
    go_wp2_with (first | (go_at_call 117; refine (cS _).mono ?_; rintro _ v ⟨rfl,q⟩; obtain rfl:=q.symm) | (go_at_call 118; refine (QM b1 _).mono ?_; rintro _ v ⟨rfl,q⟩; obtain rfl:=q.symm) | (go_at_call 120; refine (Jv b2 _).mono ?_; rintro _ v ⟨rfl,q⟩; obtain rfl:=q.symm))
    refine cM.mono ?_
    rintro _ v ⟨rfl,bb⟩
    have HR2:=(HR.out.onto bb).hid
    have HB2:=zH (HB.out.trans (bb.mono HB.out.size))
    obtain⟨r0,r1,r2,r3,r4⟩:=HR2.out.cells
    obtain⟨f0,f1,f2,f3,f4⟩:=HR2.out.froz
    clear bb
    go_wp2_with fail
    exact bodyPost_ret (Rt2 (p:=4) (u:=5) (ty:=160) rfl _ _ w§ 160 (tkA T) (0,0) _ rfl (HR2.out.put T) Tryz.underlying160 rfl zK) rfl ⟨by rw [K.out]; rfl,QJ HB2.out (Nat.le_refl _) _ _ _ _ _⟩
   ·have K:Hid (fsV s f=.tuple #[.agg (tkA (pbT s d)),zI (nbE s d)]):=by
     show _=_
     have e0:oneE s f=nbE s d:=by unfold oneE; rw [hd,if_neg h0,hl,b1,if_neg (by decide),hg,b2,if_pos rfl]
     have e1:oneT s f=nbT s d:=by unfold oneT; rw [hd,if_neg h0,hl,b1,if_neg (by decide),hg,b2,if_pos rfl]
     unfold fsV fsT pbT
     rw [e0,e1,hd]
    have cM:=numberp_any s d hs hlt (by rw [hg,b2]) W
    obtain⟨T,eT⟩:∃ T,pbT s d=T:=⟨_,rfl⟩
    obtain⟨E,eE⟩:∃ E,nbE s d=E:=⟨_,rfl⟩
    rw [eT,eE] at cM K
    unfold tkA at cM
    clear hd h0 hl hg eT eE r0 r1 r2 r3 r4 f0 f1 f2 f3 f4
    go_enter Tryz.func93,Tryz.ntmps93
    go_wp2_with (first | (go_at_call 117; refine (cS _).mono ?_; rintro _ v ⟨rfl,q⟩; obtain rfl:=q.symm) | (go_at_call 118; refine (QM b1 _).mono ?_; rintro _ v ⟨rfl,q⟩; obtain rfl:=q.symm) | (go_at_call 120; refine (Jv b2 _).mono ?_; rintro _ v ⟨rfl,q⟩; obtain rfl:=q.symm))
    refine cM.mono ?_
    rintro _ v ⟨rfl,bb⟩
    have HR2:=(HR.out.onto bb).hid
    have HB2:=zH (HB.out.trans (bb.mono HB.out.size))
    obtain⟨r0,r1,r2,r3,r4⟩:=HR2.out.cells
    obtain⟨f0,f1,f2,f3,f4⟩:=HR2.out.froz
    clear bb
    go_wp2_with fail
    exact bodyPost_ret (Rt2 (p:=4) (u:=5) (ty:=160) rfl _ _ w§ 160 (tkA T) (0,0) _ rfl (HR2.out.put T) Tryz.underlying160 rfl zK) rfl ⟨by rw [K.out]; rfl,QJ HB2.out (Nat.le_refl _) _ _ _ _ _⟩
  ·have K:Hid (fsV s f=.tuple #[.agg (tkA (pnT s d)),zI (nmE s d)]):=by
    show _=_
    have e0:oneE s f=nmE s d:=by unfold oneE; rw [hd,if_neg h0,hl,b1,if_pos rfl]
    have e1:oneT s f=nmT s d:=by unfold oneT; rw [hd,if_neg h0,hl,b1,if_pos rfl]
    unfold fsV fsT pnT
    rw [e0,e1,hd]
   have cM:=wordp_any s d hs hdl W hTW
   obtain⟨T,eT⟩:∃ T,pnT s d=T:=⟨_,rfl⟩
   obtain⟨E,eE⟩:∃ E,nmE s d=E:=⟨_,rfl⟩
   rw [eT,eE] at cM K
   unfold tkA at cM
   clear hd h0 hl hg eT eE r0 r1 r2 r3 r4 f0 f1 f2 f3 f4
   go_enter Tryz.func93,Tryz.ntmps93
   go_wp2_with (first | (go_at_call 117; refine (cS _).mono ?_; rintro _ v ⟨rfl,q⟩; obtain rfl:=q.symm) | (go_at_call 118; refine (QM b1 _).mono ?_; rintro _ v ⟨rfl,q⟩; obtain rfl:=q.symm))
   refine cM.mono ?_
   rintro _ v ⟨rfl,bb⟩
   have HR2:=(HR.out.onto bb).hid
   have HB2:=zH (HB.out.trans (bb.mono HB.out.size))
   obtain⟨r0,r1,r2,r3,r4⟩:=HR2.out.cells
   obtain⟨f0,f1,f2,f3,f4⟩:=HR2.out.froz
   clear bb
   go_wp2_with fail
   exact bodyPost_ret (Rt2 (p:=4) (u:=5) (ty:=160) rfl _ _ w§ 160 (tkA T) (0,0) _ rfl (HR2.out.put T) Tryz.underlying160 rfl zK) rfl ⟨by rw [K.out]; rfl,QJ HB2.out (Nat.le_refl _) _ _ _ _ _⟩
def Ja (s:ByteArray):Bool:=!isW s && (decide (1≤s.size) && (decide (s.size≤16) && (hdB letB (rest s 0) && decide (lead goB (rest s 0)=s.size))))
theorem letter_ov {c:UInt8}{l:List UInt8}(h:letB c=true):ov (c :: l) false=0:=by
 unfold letB at h
 have h:=of_decide_eq_true h
 refine ov_stop ?_ ?_
 ·unfold remB; rw [if_neg (by omega),if_neg (by omega)]
 ·unfold JY; simp; omega
theorem mkk (s:ByteArray) (a:Nat):(mkT s a).k≠2:=by
 unfold mkT
 cases mkO s a with
 | none=>exact (show (0:Int)≠2 by decide)
 | some i=>simp
theorem nbk (s:ByteArray) (a:Nat):(nbT s a).k≠2:=by
 unfold nbT
 cases nbO s a with
 | none=>exact (show (0:Int)≠2 by decide)
 | some q=>obtain⟨n,e,ty⟩:=q; simp
theorem name_is (s:ByteArray):Ja s=true ↔ oneE s 0=0∧(oneT s 0).k=2∧(oneT s 0).x=s:=by
 constructor
 ·intro h
  unfold Ja at h
  simp only [Bool.and_eq_true,Bool.not_eq_true',decide_eq_true_eq] at h
  obtain⟨h1,h2,h3,h4,h5⟩:=h
  have hp:oneP s 0=0:=by
   unfold oneP
   cases hr:rest s 0 with
   | nil=>rfl
   | cons c l=>rw [hr] at h4; rw [letter_ov h4]
  have hne:¬ (0:Nat)=s.size:=by omega
  have e1:nmT s 0=⟨2,s,0,0,0⟩:=by
   unfold nmT
   rw [h5,if_neg (by omega)]
   have:s.extract 0 (0+s.size)=s:=Kl (by rw [ext_list]; unfold rest; rw [List.drop_zero,List.take_of_length_le (by rw [len_of]; omega)])
   rw [this,h1]; rfl
  refine⟨?_,?_,?_⟩
  ·unfold oneE; rw [hp,if_neg hne,if_pos h4]; unfold nmE; rw [h5,if_neg (by omega)]
  ·unfold oneT; rw [hp,if_neg hne,if_pos h4,e1]
  ·unfold oneT; rw [hp,if_neg hne,if_pos h4,e1]
 ·rintro ⟨h1,h2,h3⟩
  have hP:=oneP_le s 0 (by omega)
  unfold oneT at h2 h3
  unfold oneE at h1
  generalize oneP s 0=d at *
  by_cases h0:d=s.size
  ·rw [if_pos h0] at h2; exact absurd h2 (show ¬ (0:Int)=2 by decide)
  rw [if_neg h0] at h1 h2 h3
  by_cases hl:hdB letB (rest s d)=true
  ·rw [if_pos hl] at h1 h2 h3
   unfold nmE at h1
   unfold nmT at h2 h3
   by_cases hk:lead goB (rest s d) > 16
   ·rw [if_pos hk] at h1; exact absurd h1 (by decide)
   ·rw [if_neg hk] at h2 h3
    have hL:=lead_le goB (rest s d)
    rw [J4] at hL
    have hsz:=congrArg ByteArray.size h3
    simp only at hsz
    rw [ext_size s d _ (by omega)] at hsz
    have hd:d=0:=by omega
    subst hd
    have h3':s.extract 0 (0+lead goB (rest s 0))=s:=h3
    have hpos:=lead_pos (hd_go hl)
    have hw:isW s=false:=by
     rw [h3'] at h2
     cases hh:isW s with
     | false=>rfl
     | true=>rw [hh] at h2; exact absurd h2 (show ¬ (1:Int)=2 by decide)
    unfold Ja
    rw [hw,hl,decide_eq_true (by omega),decide_eq_true (by omega),decide_eq_true (by omega)]; rfl
  ·rw [if_neg hl] at h2
   by_cases hg:hdB digB (rest s d)=true
   ·rw [if_pos hg] at h2; exact absurd h2 (nbk s d)
   ·rw [if_neg hg] at h2; exact absurd h2 (mkk s d)
theorem namep_any (s:ByteArray) (hs:s.size≤140737488355328) (w:World) (ht:Tab w) :
  Calls zG 61 #[.string s] w fun e w'=>e=.returned (.bool (Ja s))∧Below w§ w w':=by
 have cF:=first_any s 0 hs (by omega) w ht
 unfold fsV fsT at cF
 have hN:=name_is s
 obtain⟨E,eE⟩:∃ E,oneE s 0=E:=⟨_,rfl⟩
 obtain⟨B,eB⟩:∃ B,Ja s=B:=⟨_,rfl⟩
 rw [eE] at cF hN
 rw [eB] at hN ⊢
 clear eE eB
 by_cases hE:E=0
 ·have hE':(E == 0)=true:=by simp [hE]
  rw [if_pos hE] at cF
  obtain⟨T,eT⟩:∃ T,oneT s 0=T:=⟨_,rfl⟩
  rw [eT] at cF hN
  unfold tkA at cF
  by_cases hk:T.k=2
  ·have hk':(T.k == 2)=true:=by simp [hk]
   have KB:Hid (B=(T.x.toList == s.toList)):=by
    show _=_
    by_cases hx:T.x=s
    ·have:B=true:=hN.2 ⟨hE,hk,hx⟩
     rw [this,hx]; simp
    ·rw [seq_ne hx]
     cases B with
     | false=>rfl
     | true=>exact absurd (hN.1 rfl).2.2 hx
   clear hN hE hk eT
   go_enter Tryz.func61,Tryz.ntmps61
   go_wp2_with fail
   refine cF.mono ?_
   rintro _ v ⟨rfl,bb⟩
   have HB2:=zH bb
   clear bb
   go_wp2_with fail
   go_ret
   exact⟨retB (by rw [KB.out]),HB2.out.alloc HB2.out.size _⟩
  ·have hk':(T.k == 2)=false:=by simp [hk]
   have KB:Hid (B=false):=by
    show _=_
    cases B with
    | false=>rfl
    | true=>exact absurd (hN.1 rfl).2.1 hk
   clear hN hE hk eT
   go_enter Tryz.func61,Tryz.ntmps61
   go_wp2_with fail
   refine cF.mono ?_
   rintro _ v ⟨rfl,bb⟩
   have HB2:=zH bb
   clear bb
   go_wp2_with fail
   go_ret
   exact⟨retB (by rw [KB.out]),HB2.out.alloc HB2.out.size _⟩
 ·have hE':(E == 0)=false:=by simp [hE]
  rw [if_neg hE] at cF
  unfold tkA at cF
  have KB:Hid (B=false):=by
   show _=_
   cases B with
   | false=>rfl
   | true=>exact absurd (hN.1 rfl).1 hE
  clear hN hE
  go_enter Tryz.func61,Tryz.ntmps61
  go_wp2_with fail
  refine cF.mono ?_
  rintro _ v ⟨rfl,bb⟩
  have HB2:=zH bb
  clear bb
  go_wp2_with fail
  go_ret
  exact⟨retB (by rw [KB.out]),HB2.out.alloc HB2.out.size _⟩
def Row (w:World) (e:TypeId) (s:Nat) (v:Value) (n:Nat) (f:Nat→Value):Prop:=w.ownsRow 0 e s v n ((List.range (n * s)).map f)
theorem range_map_set (m j:Nat) (f:Nat→Value) (u:Value):((List.range m).map f).set j u=(List.range m).map (fun i=>if i=j then u else f i):=by
 apply List.ext_getElem?
 intro i
 rw [List.getElem?_set,List.getElem?_map,List.getElem?_map,List.length_map,List.length_range]
 by_cases hi:i < m
 ·rw [List.getElem?_range hi]
  by_cases hj:j=i
  ·subst hj; simp [hi]
  ·rw [if_neg hj]
   show some (f i)=some (if i=j then u else f i)
   rw [if_neg (fun h=>hj h.symm)]
 ·rw [List.getElem?_eq_none (by simpa using hi)]
  by_cases hj:j=i
  ·subst hj; simp [hi]
  ·simp [hj]
variable {w : World} {e : TypeId} {s n cap : Nat} {g : Nat} {f f' : Nat → Value} {v : Value}
theorem Row.cell (h:Row w e s (.slice (some ⟨g,0,none⟩) n cap) n f) {j:Nat}(hj:j < n * s):w.cell? ⟨g,j,none⟩=some (f j):=by
 rw [World.ownsRow.cellAt h j hj,List.getElem?_map,List.getElem?_range hj]; rfl
theorem Row.frozen (h:Row w e s (.slice (some ⟨g,0,none⟩) n cap) n f) (j:Nat):w.frozen? ⟨g,j,none⟩=false:=World.ownsRow.frozenAt h j
theorem Row.set (h:Row w e s (.slice (some ⟨g,0,none⟩) n cap) n f) (j:Nat) (u:Value):Row (w.setCell ⟨g,j,none⟩ u) e s (.slice (some ⟨g,0,none⟩) n cap) n (fun i=>if i=j then u else f i):=by
 have:=(World.ownsRow.stored h j u).1
 rwa [range_map_set] at this
theorem Row.congr (h:Row w e s v n f) (he:∀ j,j < n * s→f j=f' j):Row w e s v n f':=by
 unfold Row at h ⊢
 have:(List.range (n * s)).map f=(List.range (n * s)).map f':=List.map_congr_left (fun j hj=>he j (by simpa using hj))
 rwa [this] at h
theorem Row.lt (h:Row w e s v n f):∀ k,v.ownBlock=some k→k < w§:=fun k hk=>(World.ownsRow.lt h k hk).2
theorem Row.nil (w:World) (e:TypeId) (s:Nat) (f:Nat→Value):Row w e s (.slice none 0 0) 0 f:=by
 have:=World.ownsRow_nil w 0 e s
 simpa [Row] using this
theorem Row.kind (h:Row w e s v n f):∀ k,v.ownBlock=some k→∃ c fz,w.heap[k]? = some (.cells c e fz):=by
 intro k hk
 rcases h.2 with ⟨rfl,_⟩ | ⟨g',cap',cur,rfl,_,hg,_⟩
 ·simp [Value.ownBlock] at hk
 ·simp [Value.ownBlock] at hk
  subst hk
  exact⟨_,_,hg⟩
theorem Row.of_block {w':World}(h:Row w e s v n f) (hb:∀ k,v.ownBlock=some k→w'.heap[k]? = w.heap[k]?):Row w' e s v n f:=by
 refine⟨h.1,?_⟩
 rcases h.2 with h' | ⟨g',cap',cur,rfl,h1,hg,h2⟩
 ·exact .inl h'
 ·exact .inr ⟨g',cap',cur,rfl,h1,(hb g' rfl).trans hg,h2⟩
theorem Row.alloc (h:Row w e s v n f) (o:Obj):Row (w.alloc o) e s v n f:=World.ownsRow.alloc h o
theorem Row.form (h:Row w e s v n f):∃ ao c,v=.slice ao n c∧(0 < n→∃ g,ao=some ⟨g,0,none⟩)∧((ao=none∧n=0∧c=0)∨∃ g,ao=some ⟨g,0,none⟩):=by
 rcases h.2 with ⟨rfl,rfl⟩ | ⟨g',cap',cur,rfl,_⟩
 ·exact⟨none,0,rfl,fun h=>by omega,.inl ⟨rfl,rfl,rfl⟩⟩
 ·exact⟨_,_,rfl,fun _=>⟨g',rfl⟩,.inr ⟨g',rfl⟩⟩
theorem Row.apart {e':TypeId}{s' n':Nat}{v':Value}(h:Row w e s v n f) (h':Row w e' s' v' n' f') (hne:e≠e'):∀ k,v.ownBlock=some k→v'.ownBlock≠some k:=by
 intro k hk hk'
 obtain⟨c,fz,h1⟩:=h.kind k hk
 obtain⟨c',fz',h2⟩:=h'.kind k hk'
 rw [h1] at h2
 simp at h2
 exact hne h2.2.1
theorem Row.snoc {v':Value}{news:List Value}{x:Nat→Value}(h:w.ownsRow 0 e s v' (n+1) ((List.range (n * s)).map f ++ news)) (hl:news.length=s) (hx:∀ j,j < s→news[j]? = some (x j)) :
  Row w e s v' (n+1) (fun j=>if j < n * s then f j else x (j - n * s)):=by
 unfold Row
 have:(List.range ((n+1) * s)).map (fun j=>if j < n * s then f j else x (j - n * s))=(List.range (n * s)).map f ++ news:=by
  apply List.ext_getElem?
  intro j
  have hm:(n+1) * s=n * s+s:=by rw [Nat.add_mul,Nat.one_mul]
  by_cases h1:j < n * s
  ·rw [List.getElem?_append_left (by simpa using h1),List.getElem?_map,List.getElem?_map,List.getElem?_range (by omega),List.getElem?_range h1]
   simp [h1]
  ·rw [List.getElem?_append_right (by simpa using Nat.le_of_not_lt h1),List.length_map,List.length_range]
   by_cases h2:j < (n+1) * s
   ·rw [List.getElem?_map,List.getElem?_range h2,hx _ (by omega)]
    simp [h1]
   ·rw [List.getElem?_eq_none (by simpa using Nat.le_of_not_lt h2),List.getElem?_eq_none (by omega)]
 rw [this]; exact h
structure Mv (w w':World) (F:Nat→Prop):Prop where
 os:w'.os=w.os
 tape:w'.tape=w.tape
 output:w'.output=w.output
 size:w§≤w'§
 block:∀ k,k < w§→¬ F k→w'.heap[k]? = w.heap[k]?
theorem Mv.refl (w:World) (F:Nat→Prop):Mv w w F:=⟨rfl,rfl,rfl,Nat.le_refl _,fun _ _ _=>rfl⟩
theorem Mv.drew {w w':World}{F:Nat→Prop}(h:Mv w w' F):Mv w w'.drew F:=⟨h.os,h.tape,h.output,h.size,h.block⟩
theorem Mv.trans {w w' w'':World}{F F':Nat→Prop}(h:Mv w w' F) (k:Mv w' w'' F') (hF:∀ b,F' b→F b∨w§≤b):Mv w w'' F :=
 ⟨k.os.trans h.os,k.tape.trans h.tape,k.output.trans h.output,Nat.le_trans h.size k.size,fun b hb hn =>
  (k.block b (Nat.lt_of_lt_of_le hb h.size) (fun e=>(hF b e).elim hn (fun h1=>by omega))).trans (h.block b hb hn)⟩
theorem Mv.mono {w w':World}{F F':Nat→Prop}(h:Mv w w' F) (hF:∀ b,F b→F' b):Mv w w' F':=⟨h.os,h.tape,h.output,h.size,fun b hb hn=>h.block b hb (fun e=>hn (hF b e))⟩
theorem Mv.setCell {w w':World}{F:Nat→Prop}(h:Mv w w' F) {a:Addr}(ha:F a.block∨w§≤a.block) (u:Value):Mv w (w'.setCell a u) F :=
 h.trans (F':=fun b=>b=a.block) ⟨rfl,rfl,rfl,by simp [World.setCell],fun b _ hn=>Below.heap_setCell _ _ _ _ hn⟩ (fun b e=>by cases e; exact ha)
theorem Mv.alloc {w w':World}{F:Nat→Prop}(h:Mv w w' F) (o:Obj):Mv w (w'.alloc o) F :=
 h.trans (F':=fun _=>False) ⟨rfl,rfl,rfl,by simp,fun b hb _=>Below.heap_alloc _ _ _ hb⟩ (fun b e=>e.elim)
theorem Mv.grown {w w' w'':World}{F:Nat→Prop}{row:Option Nat}(h:Mv w w' F) (hg:w'.grownBy w'' row) (hr:∀ k,row=some k→F k∨w§≤k):Mv w w'' F :=
 h.trans (F':=fun b=>some b=row) ⟨hg.os,hg.tape,hg.output,hg.size,fun b hb hn=>hg.block b hb hn⟩ (fun b e=>hr b e.symm)
theorem Mv.below {w w':World}{F:Nat→Prop}(h:Mv w w' F) {B:Nat}(hB:B≤w§) (hF:∀ b,F b→B≤b):Below B w w' :=
 ⟨h.os,h.tape,h.output,h.size,fun k hk=>h.block k (by omega) (fun e=>by have:=hF k e; omega)⟩
theorem Mv.row {w w':World}{F:Nat→Prop}(h:Mv w w' F) {e:TypeId}{s n:Nat}{v:Value}{f:Nat→Value}(hr:Row w e s v n f) (hn:∀ k,v.ownBlock=some k→¬ F k):Row w' e s v n f :=
 hr.of_block (fun k hk=>h.block k (hr.lt k hk) (hn k hk))
namespace W
def bytes (l:List UInt8):ByteArray:=⟨l.toArray⟩
theorem bytes_list (l:List UInt8):(bytes l).data.toList=l:=by simp [bytes]
theorem bytes_size (l:List UInt8):(bytes l).size=l.length:=by show l.toArray.size=_; simp
theorem ba_ext {a b:ByteArray}(h:a.data.toList=b.data.toList):a=b:=by cases a; cases b; simp_all
theorem Jm (s:ByteArray):bytes s.data.toList=s:=ba_ext (bytes_list _)
theorem bytes_app (a b:List UInt8):bytes a ++ bytes b=bytes (a ++ b):=by apply ba_ext; simp [bytes]
theorem bytes_ext (l:List UInt8) (i j:Nat):(bytes l).extract i j=bytes ((l.drop i).take (j - i)):=by
 apply ba_ext
 simp [bytes]
theorem len_of (s:ByteArray):s.data.toList.length=s.size:=by simp
theorem drop_at (s:ByteArray) (k:Nat) (h:k < s.size):s.data.toList.drop k=s[k] :: s.data.toList.drop (k+1):=by
 rw [List.drop_eq_getElem_cons (by simpa using h)]; rfl
theorem drop_end (s:ByteArray) (k:Nat) (h:s.size≤k):s.data.toList.drop k = []:=List.drop_eq_nil_of_le (by simpa using h)
theorem take_at (s:ByteArray) (k:Nat) (h:k < s.size):s.data.toList.take (k+1)=s.data.toList.take k ++ [s[k]]:=by
 rw [List.take_succ_eq_append_getElem (by simpa using h)]; rfl
def putG:Nat→Nat→List UInt8
 | 0,n=>[UInt8.ofNat n]
 | k+1,n=>if n < 128 then [UInt8.ofNat n] else UInt8.ofNat (n % 128+128) :: putG k (n / 128)
theorem putG_ir:∀ k k' n,n≤k→n≤k'→putG k n=putG k' n
 | 0,0,_,_,_=>rfl
 | 0,k'+1,n,h,_=>by rw [putG,putG,if_pos (by omega)]
 | k+1,0,n,_,h=>by rw [putG,putG,if_pos (by omega)]
 | k+1,k'+1,n,h,h'=>by
  rw [putG,putG]
  split
  ·rfl
  ·rw [putG_ir k k' (n / 128) (by omega) (by omega)]
def put1 (n:Nat):List UInt8:=putG n n
theorem JL {n:Nat}(h:n < 128):put1 n = [UInt8.ofNat n]:=by
 unfold put1
 cases n with
 | zero=>rfl
 | succ n=>rw [putG,if_pos h]
theorem put1_step {n:Nat}(h:¬ n < 128):put1 n=UInt8.ofNat (n % 128+128) :: put1 (n / 128):=by
 unfold put1
 cases n with
 | zero=>omega
 | succ n=>rw [putG,if_neg h,putG_ir n ((n+1) / 128) ((n+1) / 128) (by omega) (Nat.le_refl _)]
theorem put1_pos (n:Nat):1≤(put1 n).length:=by
 by_cases h:n < 128
 ·rw [JL h]; exact Nat.le_refl _
 ·rw [put1_step h]; simp
theorem put1_len:∀ k n,n < 128 ^ (k+1)→(put1 n).length≤k+1:=by
 intro k
 induction k with
 | zero=>intro n h; rw [JL (by simpa using h)]; exact Nat.le_refl _
 | succ k ih =>
  intro n h
  by_cases hn:n < 128
  ·rw [JL hn]; simp
  ·rw [put1_step hn,List.length_cons]
   have:=ih (n / 128) (by rw [Nat.pow_succ] at h; omega)
   omega
theorem put1_ten {n:Nat}(h:n < 18446744073709551616):(put1 n).length≤10:=put1_len 9 n (by omega)
def putL:List Nat→List UInt8
 | []=>[]
 | n :: l=>put1 n ++ putL l
theorem putL_append (a b:List Nat):putL (a ++ b)=putL a ++ putL b:=by
 induction a with
 | nil=>rfl
 | cons n a ih=>rw [List.cons_append,putL,putL,ih,List.append_assoc]
theorem putL_one (n:Nat):putL [n]=put1 n:=by rw [putL,putL,List.append_nil]
theorem putL_len (l:List Nat) (h:∀ n ∈ l,n < 18446744073709551616):(putL l).length≤10 * l.length:=by
 induction l with
 | nil=>exact Nat.le_refl _
 | cons n l ih =>
  rw [putL,List.length_append,List.length_cons]
  have h1:=put1_ten (h n (List.mem_cons_self))
  have h2:=ih (fun m hm=>h m (List.mem_cons_of_mem _ hm))
  omega
def tk:Nat→List UInt8→Nat × Nat × Nat
 | i,[]=>if i < 10 then (30,0,0) else (31,0,0)
 | i,c :: l =>
  if ¬ i < 10 then (31,0,0)
  else if c.toNat < 128 then
   if (i=9∧c.toNat≠1)∨(c.toNat=0∧0 < i) then (31,0,0) else (0,1,c.toNat)
  else ((tk (i+1) l).1,(tk (i+1) l).2.1+1,c.toNat % 128+128 * (tk (i+1) l).2.2)
theorem tk_nil {i:Nat}(h:i < 10):tk i []=(30,0,0):=by rw [tk,if_pos h]
theorem tk_ten {i:Nat}(h:¬ i < 10) (l:List UInt8):tk i l=(31,0,0):=by
 cases l with
 | nil=>rw [tk,if_neg h]
 | cons c l=>rw [tk,if_pos h]
theorem tk_more {i:Nat}{c:UInt8}(h:i < 10) (hc:¬ c.toNat < 128) (l:List UInt8) :
  tk i (c :: l)=((tk (i+1) l).1,(tk (i+1) l).2.1+1,c.toNat % 128+128 * (tk (i+1) l).2.2):=by rw [tk,if_neg (by omega),if_neg hc]
theorem tk_bad {i:Nat}{c:UInt8}(h:i < 10) (hc:c.toNat < 128) (hb:(i=9∧c.toNat≠1)∨(c.toNat=0∧0 < i)) (l:List UInt8):tk i (c :: l)=(31,0,0):=by
 rw [tk,if_neg (by omega),if_pos hc,if_pos hb]
theorem tk_end {i:Nat}{c:UInt8}(h:i < 10) (hc:c.toNat < 128) (hb:¬ ((i=9∧c.toNat≠1)∨(c.toNat=0∧0 < i))) (l:List UInt8):tk i (c :: l)=(0,1,c.toNat):=by
 rw [tk,if_neg (by omega),if_pos hc,if_neg hb]
theorem Q8 {m:Nat}(h:m < 256):(UInt8.ofNat m).toNat=m:=UInt8.toNat_ofNat_of_lt' h
theorem tk_one (l:List UInt8):∀ i,(tk i l).1=0→put1 (tk i l).2.2=l.take (tk i l).2.1∧(tk i l).2.2 * 128 ^ i < 18446744073709551616∧(0 < i→0 < (tk i l).2.2)∧1≤(tk i l).2.1∧(tk i l).2.1≤l.length:=by
 induction l with
 | nil =>
  intro i h
  by_cases hi:i < 10
  ·rw [tk_nil hi] at h; cases h
  ·rw [tk_ten hi] at h; cases h
 | cons c l ih =>
  intro i h
  have hc256:=c.toNat_lt
  by_cases hi:i < 10
  ·by_cases hc:c.toNat < 128
   ·by_cases hb:(i=9∧c.toNat≠1)∨(c.toNat=0∧0 < i)
    ·rw [tk_bad hi hc hb] at h; cases h
    ·rw [tk_end hi hc hb]
     dsimp only
     refine⟨?_,?_,?_,Nat.le_refl _,by simp⟩
     ·rw [JL hc]
      simp
     ·by_cases h9:i=9
      ·subst h9
       have:c.toNat=1:=by omega
       rw [this]
       decide
      ·have h8:128 ^ i≤128 ^ 8:=Nat.pow_le_pow_right (by omega) (by omega)
       have h7:c.toNat * 128 ^ i≤127 * 128 ^ 8:=Nat.mul_le_mul (by omega) h8
       have h6:127 * 128 ^ 8 < 18446744073709551616:=by decide
       omega
     ·intro h0; omega
   ·rw [tk_more hi hc] at h ⊢
    dsimp only at h ⊢
    obtain⟨h1,h2,h3,h4,h5⟩:=ih (i+1) h
    have h3:=h3 (by omega)
    generalize tk (i+1) l=r at h1 h2 h3 h4 h5
    obtain⟨e,len,v⟩:=r
    dsimp only at h1 h2 h3 h4 h5 ⊢
    have hm:(c.toNat % 128+128 * v) % 128=c.toNat % 128:=by omega
    have hq:(c.toNat % 128+128 * v) / 128=v:=by omega
    refine⟨?_,?_,?_,by omega,by simp; omega⟩
    ·rw [put1_step (by omega),hm,hq,h1,List.take_succ_cons]
     congr 1
     apply UInt8.toNat_inj.1
     rw [Q8 (by omega)]
     omega
    ·have hi8:i < 9:=by
      apply Classical.byContradiction
      intro hh
      have h9:128 ^ 10≤128 ^ (i+1):=Nat.pow_le_pow_right (by omega) (by omega)
      have h10:1 * 128 ^ (i+1)≤v * 128 ^ (i+1):=Nat.mul_le_mul_right _ h3
      omega
     rw [Nat.pow_succ,Nat.mul_comm (128 ^ i) 128,← Nat.mul_assoc] at h2
     obtain⟨p,hp⟩:∃ p,9=i+1+p:=⟨9 - (i+1),by omega⟩
     have key:(c.toNat % 128+128 * v) * 128 ^ i < 18446744073709551616:=by
      have e:(18446744073709551616:Nat)=(2 * 128 ^ (p+1)) * 128 ^ i:=by
       rw [Nat.mul_assoc,← Nat.pow_add,show p+1+i=9 by omega]
      rw [e] at h2 ⊢
      have hpos:0 < 128 ^ i:=Nat.pow_pos (by omega)
      have h2:=Nat.lt_of_mul_lt_mul_right h2
      apply (Nat.mul_lt_mul_right hpos).2
      have e2:2 * 128 ^ (p+1)=128 * (2 * 128 ^ p):=by rw [Nat.pow_succ]; omega
      rw [e2] at h2 ⊢
      omega
     exact key
    ·intro _; omega
  ·rw [tk_ten hi] at h; cases h
end W
namespace W
def takeE (l:List UInt8) (a:Int):Nat:=if a < 0∨(l.length:Int) < a then 1 else (tk 0 (l.drop a.toNat)).1
def takeN (l:List UInt8) (a:Int):Nat:=if takeE l a=0 then (tk 0 (l.drop a.toNat)).2.2 else 0
def takeP (l:List UInt8) (a:Int):Int:=if takeE l a=0 then a+((tk 0 (l.drop a.toNat)).2.1:Nat) else a
theorem takeE_arg {l:List UInt8}{a:Int}(h:a < 0∨(l.length:Int) < a):takeE l a=1:=by unfold takeE; rw [if_pos h]
theorem takeE_in {l:List UInt8}{a:Int}(h1:0≤a) (h2:a≤l.length):takeE l a=(tk 0 (l.drop a.toNat)).1:=by unfold takeE; rw [if_neg (by omega)]
theorem takeN_no {l:List UInt8}{a:Int}(h:takeE l a≠0):takeN l a=0:=by unfold takeN; rw [if_neg h]
theorem JJ {l:List UInt8}{a:Int}(h:takeE l a≠0):takeP l a=a:=by unfold takeP; rw [if_neg h]
theorem takeN_ok {l:List UInt8}{a:Int}(h:takeE l a=0):takeN l a=(tk 0 (l.drop a.toNat)).2.2:=by unfold takeN; rw [if_pos h]
theorem takeP_ok {l:List UInt8}{a:Int}(h:takeE l a=0):takeP l a=a+((tk 0 (l.drop a.toNat)).2.1:Nat):=by unfold takeP; rw [if_pos h]
theorem takeE_place {l:List UInt8}{a:Int}(h:takeE l a=0):0≤a∧a≤l.length:=by
 unfold takeE at h
 split at h
 ·cases h
 ·omega
theorem take_one {l:List UInt8}{a:Int}(h:takeE l a=0):0≤a∧a < takeP l a∧takeP l a≤l.length∧takeN l a < 18446744073709551616 ∧
  put1 (takeN l a)=(l.drop a.toNat).take ((takeP l a).toNat - a.toNat)∧((put1 (takeN l a)).length:Int)=takeP l a - a:=by
 obtain⟨h1,h2⟩:=takeE_place h
 have h':=h
 rw [takeE_in h1 h2] at h'
 obtain⟨g1,g2,_,g4,g5⟩:=tk_one _ 0 h'
 rw [takeN_ok h,takeP_ok h]
 rw [List.length_drop] at g5
 have e:(a+((tk 0 (l.drop a.toNat)).2.1:Nat)).toNat - a.toNat=(tk 0 (l.drop a.toNat)).2.1:=by omega
 refine⟨h1,by omega,by omega,by simpa using g2,by rw [e]; exact g1,?_⟩
 rw [g1,List.length_take,List.length_drop]
 omega
def textE (l:List UInt8) (a:Int):Nat :=
 if takeE l a≠0 then takeE l a else if 65536 < takeN l a then 31 else if (l.length:Int) < takeP l a+takeN l a then 30 else 0
def textS (l:List UInt8) (a:Int):List UInt8:=if textE l a=0 then (l.drop (takeP l a).toNat).take (takeN l a) else []
def textP (l:List UInt8) (a:Int):Int:=if textE l a=0 then takeP l a+takeN l a else a
theorem textE_take {l:List UInt8}{a:Int}(h:takeE l a≠0):textE l a=takeE l a:=by unfold textE; rw [if_pos h]
theorem textE_long {l:List UInt8}{a:Int}(h:takeE l a=0) (h1:65536 < takeN l a):textE l a=31:=by unfold textE; rw [if_neg (fun hc=>hc h),if_pos h1]
theorem textE_short {l:List UInt8}{a:Int}(h:takeE l a=0) (h1:¬ 65536 < takeN l a) (h2:(l.length:Int) < takeP l a+takeN l a):textE l a=30:=by
 unfold textE; rw [if_neg (fun hc=>hc h),if_neg h1,if_pos h2]
theorem textE_ok {l:List UInt8}{a:Int}(h:takeE l a=0) (h1:¬ 65536 < takeN l a) (h2:¬ (l.length:Int) < takeP l a+takeN l a):textE l a=0:=by
 unfold textE; rw [if_neg (fun hc=>hc h),if_neg h1,if_neg h2]
theorem Jz {l:List UInt8}{a:Int}(h:textE l a≠0):textS l a = []:=by unfold textS; rw [if_neg h]
theorem JA {l:List UInt8}{a:Int}(h:textE l a≠0):textP l a=a:=by unfold textP; rw [if_neg h]
theorem textS_ok {l:List UInt8}{a:Int}(h:textE l a=0):textS l a=(l.drop (takeP l a).toNat).take (takeN l a):=by unfold textS; rw [if_pos h]
theorem textP_ok {l:List UInt8}{a:Int}(h:textE l a=0):textP l a=takeP l a+takeN l a:=by unfold textP; rw [if_pos h]
theorem textE_parts {l:List UInt8}{a:Int}(h:textE l a=0):takeE l a=0∧takeN l a≤65536∧takeP l a+takeN l a≤l.length:=by
 unfold textE at h
 split at h
 ·contradiction
 ·rename_i h0
  split at h
  ·cases h
  ·split at h
   ·cases h
   ·exact⟨by simpa using h0,by omega,by omega⟩
def text1 (s:List UInt8):List UInt8:=put1 s.length ++ s
theorem text_one {l:List UInt8}{a:Int}(h:textE l a=0):0≤a∧a < textP l a∧textP l a≤l.length∧(textS l a).length≤65536 ∧
  text1 (textS l a)=(l.drop a.toNat).take ((textP l a).toNat - a.toNat):=by
 obtain⟨h1,h2,h3⟩:=textE_parts h
 obtain⟨g1,g2,g3,_,g5,g6⟩:=take_one h1
 rw [textP_ok h]
 have hl:(textS l a).length=takeN l a:=by rw [textS_ok h,List.length_take,List.length_drop]; omega
 refine⟨g1,by omega,by omega,by omega,?_⟩
 unfold text1
 rw [hl,g5,textS_ok h]
 have e:(takeP l a+(takeN l a:Nat)).toNat - a.toNat=((takeP l a).toNat - a.toNat)+takeN l a:=by omega
 have e2:(takeP l a).toNat=a.toNat+((takeP l a).toNat - a.toNat):=by omega
 rw [e,List.take_add,List.drop_drop,← e2]
def sumStep (c:Nat) (x:UInt8):Nat:=((c ^^^ x.toNat) * 16777619) % 4294967296
def sumL (l:List UInt8):Nat:=l.foldl sumStep 2166136261
theorem sumStep_lt (c:Nat) (x:UInt8):sumStep c x < 4294967296:=Nat.mod_lt _ (by decide)
theorem fold_lt (l:List UInt8):∀ c,c < 4294967296→l.foldl sumStep c < 4294967296:=by
 induction l with
 | nil=>intro c h; exact h
 | cons x l ih=>intro c _; exact ih _ (sumStep_lt c x)
theorem sumL_lt (l:List UInt8):sumL l < 4294967296:=fold_lt l _ (by decide)
theorem sumL_snoc (l:List UInt8) (x:UInt8):sumL (l ++ [x])=sumStep (sumL l) x:=by unfold sumL; rw [List.foldl_append,List.foldl_cons,List.foldl_nil]
theorem xor_lt {a:Nat}(ha:a < 4294967296) (x:UInt8):a ^^^ x.toNat < 4294967296:=by
 have hx:=x.toNat_lt
 exact Nat.xor_lt_two_pow (n:=32) ha (by omega)
def le4 (c:Nat):List UInt8:=[UInt8.ofNat (c % 256),UInt8.ofNat (c / 256 % 256),UInt8.ofNat (c / 65536 % 256),UInt8.ofNat (c / 16777216 % 256)]
def frameL (s:List UInt8):List UInt8:=text1 s ++ le4 (sumL s)
def unE (l:List UInt8) (a:Int):Nat :=
 if textE l a≠0 then textE l a else if (l.length:Int) - textP l a < 4 then 30 else if (l.drop (textP l a).toNat).take 4=le4 (sumL (textS l a)) then 0 else 32
def unS (l:List UInt8) (a:Int):List UInt8:=if unE l a=0 then textS l a else []
def unP (l:List UInt8) (a:Int):Int:=if unE l a=0 then textP l a+4 else a
theorem unE_text {l:List UInt8}{a:Int}(h:textE l a≠0):unE l a=textE l a:=by unfold unE; rw [if_pos h]
theorem unE_short {l:List UInt8}{a:Int}(h:textE l a=0) (h1:(l.length:Int) - textP l a < 4):unE l a=30:=by unfold unE; rw [if_neg (fun hc=>hc h),if_pos h1]
theorem unE_ok {l:List UInt8}{a:Int}(h:textE l a=0) (h1:¬ (l.length:Int) - textP l a < 4) (h2:(l.drop (textP l a).toNat).take 4=le4 (sumL (textS l a))):unE l a=0:=by
 unfold unE; rw [if_neg (fun hc=>hc h),if_neg h1,if_pos h2]
theorem unE_sum {l:List UInt8}{a:Int}(h:textE l a=0) (h1:¬ (l.length:Int) - textP l a < 4) (h2:(l.drop (textP l a).toNat).take 4≠le4 (sumL (textS l a))):unE l a=32:=by
 unfold unE; rw [if_neg (fun hc=>hc h),if_neg h1,if_neg h2]
theorem unS_no {l:List UInt8}{a:Int}(h:unE l a≠0):unS l a = []:=by unfold unS; rw [if_neg h]
theorem unP_no {l:List UInt8}{a:Int}(h:unE l a≠0):unP l a=a:=by unfold unP; rw [if_neg h]
theorem unS_ok {l:List UInt8}{a:Int}(h:unE l a=0):unS l a=textS l a:=by unfold unS; rw [if_pos h]
theorem unP_ok {l:List UInt8}{a:Int}(h:unE l a=0):unP l a=textP l a+4:=by unfold unP; rw [if_pos h]
theorem unE_parts {l:List UInt8}{a:Int}(h:unE l a=0):textE l a=0∧4≤(l.length:Int) - textP l a∧(l.drop (textP l a).toNat).take 4=le4 (sumL (textS l a)):=by
 unfold unE at h
 split at h
 ·contradiction
 ·rename_i h0
  split at h
  ·cases h
  ·split at h
   ·rename_i h2; exact⟨by simpa using h0,by omega,h2⟩
   ·cases h
theorem un_one {l:List UInt8}{a:Int}(h:unE l a=0):0≤a∧a < unP l a∧unP l a≤l.length∧(unS l a).length≤65536 ∧
  frameL (unS l a)=(l.drop a.toNat).take ((unP l a).toNat - a.toNat):=by
 obtain⟨h1,h2,h3⟩:=unE_parts h
 obtain⟨g1,g2,g3,g4,g5⟩:=text_one h1
 rw [unP_ok h,unS_ok h]
 refine⟨g1,by omega,by omega,g4,?_⟩
 unfold frameL
 rw [g5,← h3]
 have e:(textP l a+4).toNat - a.toNat=((textP l a).toNat - a.toNat)+4:=by omega
 have e2:(textP l a).toNat=a.toNat+((textP l a).toNat - a.toNat):=by omega
 rw [e,List.take_add,List.drop_drop,← e2]
end W
namespace W
theorem wr64 (n:Int) (h₀:0≤n) (h₁:n < 2 ^ 64):IntKind.u64.wrap n=n:=by rw [IntKind.wrap_u64]; omega
theorem ones64 (b:Nat) (hb:b < 2 ^ 64):(2 ^ 64 - 1) ^^^ b=2 ^ 64 - 1 - b:=by
 apply Nat.eq_of_testBit_eq
 intro i
 rw [Nat.testBit_xor,Nat.testBit_two_pow_sub_one,show 2 ^ 64 - 1 - b=2 ^ 64 - (b+1) by omega,Nat.testBit_two_pow_sub_succ hb]
 by_cases hi:i < 64
 ·simp [hi]
 ·have:b.testBit i=false:=Nat.testBit_lt_two_pow (Nat.lt_of_lt_of_le hb (Nat.pow_le_pow_right (by decide) (by omega)))
  simp [hi,this]
theorem not64 (x:Int) (h0:0≤x) (h1:x≤18446744073709551615):bits .xor .u64 IntKind.u64.max x=18446744073709551615 - x:=by
 have e2:IntKind.u64.max=((2 ^ 64 - 1:Nat):Int):=by decide
 obtain⟨a,rfl⟩:=Int.eq_ofNat_of_zero_le h0
 rw [e2,u64_xor_nat _ _ (by decide) (by omega),ones64 _ (by omega)]
 omega
theorem noti64 (x:Int) (h0:0≤x) (h1:x≤9223372036854775807):bits .xor .i64 (-1) x = -x - 1:=by
 obtain⟨a,rfl⟩:=Int.eq_ofNat_of_zero_le h0
 show IntKind.i64.wrap ((BitVec.ofInt 64 (-1) ^^^ BitVec.ofInt 64 (a:Int)).toNat:Int)=_
 have h1:(BitVec.ofInt 64 (-1)).toNat=2 ^ 64 - 1:=by decide
 have h2:(BitVec.ofInt 64 (a:Int)).toNat=a:=by
  rw [BitVec.ofInt_natCast,BitVec.toNat_ofNat]; exact Nat.mod_eq_of_lt (by omega)
 rw [BitVec.toNat_xor,h1,h2,ones64 a (by omega),IntKind.wrap_i64]
 omega
theorem and1 (x:Int) (h0:0≤x) (h1:x≤18446744073709551615):bits .and .u64 x 1=x % 2:=by
 have h:=bits_mask .u64 64 (by decide) wr64 1 (by decide) x h0 (by omega)
 simpa using h
theorem and127 (x:Int) (h0:0≤x) (h1:x≤18446744073709551615):bits .and .u64 x 127=x % 128:=by
 have h:=bits_mask .u64 64 (by decide) wr64 7 (by decide) x h0 (by omega)
 simpa using h
theorem and127b (x:Int) (h0:0≤x) (h1:x≤255):bits .and .u8 x 127=x % 128:=by
 have h:=bits_mask .u8 8 (by decide) wraps_u8 7 (by decide) x h0 (by omega)
 simpa using h
theorem or128 (x:Int) (h0:0≤x) (h1:x≤127):bits .or .u8 x 128=x+128:=by
 obtain⟨a,rfl⟩:=Int.eq_ofNat_of_zero_le h0
 have:=u8_or_nat a 128 (by omega) (by decide)
 rw [show ((128:Nat):Int)=128 from rfl] at this
 rw [this,Nat.or_comm,show (128:Nat)=2 ^ 7 * 1 by decide,← Nat.two_pow_add_eq_or_of_lt (by omega) 1]
 omega
theorem or_above (n m s:Nat) (hn:n < 2 ^ s) (hm:m * 2 ^ s < 18446744073709551616) (hn2:n < 18446744073709551616) :
  bits .or .u64 (n:Int) ((m * 2 ^ s:Nat):Int)=((n+m * 2 ^ s:Nat):Int):=by
 rw [u64_or_nat _ _ hn2 hm,Nat.or_comm,Nat.mul_comm,← Nat.two_pow_add_eq_or_of_lt hn m,Nat.add_comm]
end W
end Go.Proofs.YteedmmljahgpjaaGreatDoor
