import Derived.Test.YtoogodlnnijikaaGreatDoorA0
import Derived.Test.YtoogodlnnijikaaGreatDoorA4
import Derived.Test.YtoogodlnnijikaaGreatDoorA1
import Derived.WalkMore
import Derived.Test.YtoogodlnnijikaaGreatDoorA2
namespace Go.Proofs.YtoogodlnnijikaaGreatDoor
set_option maxHeartbeats 8000000
set_option maxRecDepth 100000
open Go.RowKit
def pbT (s:yB) (a:Nat):Tk:=if nbE s a=0 then nbT s a else tkP a
theorem pb_no {s:yB}{a:Nat}(h:nbO s a=none):Hid (pbT s a=tkP a∧nbE s a=113):=by
 obtain⟨_,h2⟩:=(Kg h).out
 exact⟨by unfold pbT; rw [h2,if_neg (by decide)],h2⟩
theorem pb_yes {s:yB}{a n e:Nat}{ty:Int}(h:nbO s a=some (n,e,ty)):Hid (pbT s a=⟨3,s.extract a e,ty,n,a⟩∧nbE s a=0):=by
 obtain⟨h1,h2⟩:=(JN h).out
 exact⟨by unfold pbT; rw [h2,if_pos rfl,h1],h2⟩
def nbM (o:Option Nat) (g bg:Bool) (e:Nat) (ty:Int):Option (Nat × Nat × Int):=match o with | none=>none | some n=>if g=true then none else if bg=true then none else some (n,e,ty)
theorem nbM_of {s:yB}{a d e:Nat}(hd:d=a+lead digB (rest s a)) (he:e=if nbTy (rest s d)=1 then d else d+1) :
  nbO s a=nbM (wv ((rest s a).take (lead digB (rest s a))) 0) (decide (d - a > 1) && hd0 (rest s a)) (badH (rest s e)) e (nbTy (rest s d)):=by
 rw [nbO_parts s a d e hd he]
 unfold nbM
 cases wv ((rest s a).take (lead digB (rest s a))) 0 with
 | none=>rfl
 | some n =>
  simp only
  by_cases h:d - a > 1∧hd0 (rest s a)=true
  ·rw [if_pos h,if_pos (by rw [decide_eq_true h.1,h.2]; rfl)]
  ·have h2:(decide (d - a > 1) && hd0 (rest s a))=false:=by
    by_cases h1:d - a > 1
    ·rw [decide_eq_true h1,Bool.true_and]
     cases hh:hd0 (rest s a)
     ·rfl
     ·exact absurd ⟨h1,hh⟩ h
    ·rw [decide_eq_false h1]; rfl
   rw [if_neg h,h2]; rfl
theorem box_two (s:yB) (w:yW):∃ W,(w.alloc (.cells #[.string s] 9)).alloc (.cells zl 148)=W ∧
  Hid (TkH W (w§+1) tk0)∧W.cell? w§¢0=some (.string s)∧Hid (yD w W)∧W§=w§+2:=by
 refine⟨_,rfl,?_,?_,Ql w _ _,by rw [Qf,Qf]⟩
 ·show TkH _ _ _
  have:=Qd (w.alloc (.cells #[.string s] 9)) (.cells (tkA tk0) 148)
  rw [Qf] at this
  exact this
 ·exact Qa (QI (Qd w (.cells #[.string s] 9)) (by rw [Qf]; omega)) 0
theorem numberp_any (s:yB) (a:Nat) (hs:s.size≤140737488355328) (ha:a < s.size) (hdg:hdB digB (rest s a)=true) (w:yW) :
  Calls zG 172 #[.string s,zI a] w fun e w'=>e=.returned (.tuple #[.agg (tkA (pbT s a)),zI (nbE s a)])∧yD w w':=by
 obtain⟨d,hd⟩:∃ d,d=a+lead digB (rest s a):=⟨_,rfl⟩
 obtain⟨e,he⟩:∃ e,e=if nbTy (rest s d)=1 then d else d+1:=⟨_,rfl⟩
 have hp0:=lead_pos hdg
 have hd1:a≤d:=by omega
 have hd2:d≤s.size:=by have:=lead_le digB (rest s a); rw [Jj] at this; omega
 have he1:a≤e:=by rw [he]; split <;> omega
 have he2:e≤s.size:=by
  rw [he]
  by_cases h:nbTy (rest s d)=1
  ·rw [if_pos h]; exact hd2
  ·rw [if_neg h]; exact nbTy_nil h
 obtain⟨x,ex⟩:∃ x,s.extract a d=x:=⟨_,rfl⟩
 have hxl:x.data.toList=(rest s a).take (lead digB (rest s a)):=by rw [← ex,hd]; exact ext_list _ _ _
 have hx0:rest x 0=(rest s a).take (lead digB (rest s a)):=by rw [← hxl]; unfold rest; simp
 have hxs:x.size=d - a:=by rw [← ex]; exact ext_size s a d hd2
 have hx00:hd0 (rest x 0)=hd0 (rest s a):=by rw [hx0]; exact hd0_take hp0 _
 have hO:=nbM_of hd he
 rw [← hx0,← hx00] at hO
 have cT:=typed_any s d hs hd2
 rw [← he] at cT
 have cW:=worth_any x (by omega) (fun c hc=>by rw [hx0] at hc; exact lead_all _ c hc)
 have cP:=isPadded_any x (by omega)
 have cG:=isGlued_any s e he2
 obtain⟨W,eW,HR,hc,HB,hz⟩:=box_two s w
 have cR:=reachN_any s a w§ hs (Nat.le_of_lt ha) W hc d hd
 obtain⟨o,ho⟩:∃ o,wv (rest x 0) 0=o:=⟨_,rfl⟩
 rw [ho] at hO cW
 obtain⟨ty,hty⟩:∃ ty,nbTy (rest s d)=ty:=⟨_,rfl⟩
 rw [hty] at hO cT
 rw [hxs] at cP
 obtain⟨bp,hbp⟩:∃ bp,(decide (d - a > 1) && hd0 (rest x 0))=bp:=⟨_,rfl⟩
 rw [hbp] at hO cP
 obtain⟨bg,hbg⟩:∃ bg,badH (rest s e)=bg:=⟨_,rfl⟩
 rw [hbg] at hO cG
 have HO:Hid (nbO s a=nbM o bp bg e ty):=hO
 obtain⟨r0,r1,r2,r3,r4⟩:=HR.out.cells
 obtain⟨f0,f1,f2,f3,f4⟩:=HR.out.froz
 clear hO hd he hp0 hxl hx0 hx00 ho hty hbp hbg hdg
 cases o with
 | none =>
  have K:=pb_no HO.out
  simp only [Option.isSome,wvN] at cW
  clear HO
  go_enter Tryz.func172,Tryz.ntmps172
  go_wp2_with (first | (go_at_call 181; refine cR.mono ?_; rintro _ v ⟨rfl,q⟩; obtain rfl:=q.symm) | (go_at_call 185; refine (cT _).mono ?_; rintro _ v ⟨rfl,q⟩; obtain rfl:=q.symm) | (go_at_call 186; refine (cW _).mono ?_; rintro _ v ⟨rfl,q⟩; obtain rfl:=q.symm) | (go_at_call 187; refine (cP _).mono ?_; rintro _ v ⟨rfl,q⟩; obtain rfl:=q.symm) | (go_at_call 188; refine (cG _).mono ?_; rintro _ v ⟨rfl,q⟩; obtain rfl:=q.symm))
  exact bodyPost_ret (Qg (p:=4) (u:=5) (ty:=148) rfl _ _ (w§+1) 148 (tkA (tkP a)) (0,0) _ rfl (HR.out.put (tkP a)) Tryz.underlying148 rfl zK) rfl ⟨by rw [K.out.1,K.out.2]; rfl,Qp HB.out (by omega) _ _ _ _ _⟩
 | some n =>
  simp only [Option.isSome,wvN] at cW
  cases bp
  ·cases bg
   ·have K:=pb_yes HO.out
    obtain⟨y,ey⟩:∃ y,s.extract a e=y:=⟨_,rfl⟩
    rw [ey] at K
    clear HO
    go_enter Tryz.func172,Tryz.ntmps172
    go_wp2_with (first | (go_at_call 181; refine cR.mono ?_; rintro _ v ⟨rfl,q⟩; obtain rfl:=q.symm) | (go_at_call 185; refine (cT _).mono ?_; rintro _ v ⟨rfl,q⟩; obtain rfl:=q.symm) | (go_at_call 186; refine (cW _).mono ?_; rintro _ v ⟨rfl,q⟩; obtain rfl:=q.symm) | (go_at_call 187; refine (cP _).mono ?_; rintro _ v ⟨rfl,q⟩; obtain rfl:=q.symm) | (go_at_call 188; refine (cG _).mono ?_; rintro _ v ⟨rfl,q⟩; obtain rfl:=q.symm))
    exact bodyPost_ret (Qg (p:=4) (u:=5) (ty:=148) rfl _ _ (w§+1) 148 (tkA ⟨3,y,ty,n,a⟩) (0,0) _ rfl (HR.out.put ⟨3,y,ty,n,a⟩) Tryz.underlying148 rfl zK) rfl ⟨by rw [K.out.1,K.out.2]; rfl,Qp HB.out (by omega) _ _ _ _ _⟩
   ·have K:=pb_no HO.out
    clear HO
    go_enter Tryz.func172,Tryz.ntmps172
    go_wp2_with (first | (go_at_call 181; refine cR.mono ?_; rintro _ v ⟨rfl,q⟩; obtain rfl:=q.symm) | (go_at_call 185; refine (cT _).mono ?_; rintro _ v ⟨rfl,q⟩; obtain rfl:=q.symm) | (go_at_call 186; refine (cW _).mono ?_; rintro _ v ⟨rfl,q⟩; obtain rfl:=q.symm) | (go_at_call 187; refine (cP _).mono ?_; rintro _ v ⟨rfl,q⟩; obtain rfl:=q.symm) | (go_at_call 188; refine (cG _).mono ?_; rintro _ v ⟨rfl,q⟩; obtain rfl:=q.symm))
    exact bodyPost_ret (Qg (p:=4) (u:=5) (ty:=148) rfl _ _ (w§+1) 148 (tkA (tkP a)) (0,0) _ rfl (HR.out.put (tkP a)) Tryz.underlying148 rfl zK) rfl ⟨by rw [K.out.1,K.out.2]; rfl,Qp HB.out (by omega) _ _ _ _ _⟩
  ·have K:=pb_no HO.out
   clear HO
   go_enter Tryz.func172,Tryz.ntmps172
   go_wp2_with (first | (go_at_call 181; refine cR.mono ?_; rintro _ v ⟨rfl,q⟩; obtain rfl:=q.symm) | (go_at_call 185; refine (cT _).mono ?_; rintro _ v ⟨rfl,q⟩; obtain rfl:=q.symm) | (go_at_call 186; refine (cW _).mono ?_; rintro _ v ⟨rfl,q⟩; obtain rfl:=q.symm) | (go_at_call 187; refine (cP _).mono ?_; rintro _ v ⟨rfl,q⟩; obtain rfl:=q.symm) | (go_at_call 188; refine (cG _).mono ?_; rintro _ v ⟨rfl,q⟩; obtain rfl:=q.symm))
   exact bodyPost_ret (Qg (p:=4) (u:=5) (ty:=148) rfl _ _ (w§+1) 148 (tkA (tkP a)) (0,0) _ rfl (HR.out.put (tkP a)) Tryz.underlying148 rfl zK) rfl ⟨by rw [K.out.1,K.out.2]; rfl,Qp HB.out (by omega) _ _ _ _ _⟩
def Ks (s:yB) (a:Nat):Bool:=(List.range 6).any (mkB s a)
theorem mk_two (i:Nat) (h:i < 6):(mk i).size=2:=by
 have:∀ i,i < 6→(mk i).size=2:=by decide
 exact this i h
theorem mk_one (i:Nat) (h:6≤i) (h2:i < 23):(mk i).size=1:=by
 have:∀ i,i < 23→6≤i→(mk i).size=1:=by decide
 exact this i h2 h
theorem mkB_two {s:yB}{a:Nat}(h:a+2≤s.size) (i:Nat) (hi:i < 6):mkB s a i=((s.extract a (a+2)).toList == (mk i).data.toList):=by
 unfold mkB
 rw [mk_two i hi,decide_eq_true h,ByteArray.toList_eq,Bool.true_and]
theorem pairB_of {s:yB}{a:Nat}(h:a+2≤s.size) {x:yB}(hx:s.extract a (a+2)=x):Ks s a=((x.toList == [61,61]) || ((x.toList == [33,61]) || ((x.toList == [60,61]) || ((x.toList == [62,61]) || ((x.toList == [38,38]) || (x.toList == [124,124])))))):=by
 unfold Ks
 have e:∀ i,i < 6→mkB s a i=(x.toList == (mk i).data.toList):=fun i hi=>by rw [mkB_two h i hi,hx]
 rw [show List.range 6 = [0,1,2,3,4,5] from rfl]
 simp only [List.any_cons,List.any_nil,Bool.or_false]
 rw [e 0 (by decide),e 1 (by decide),e 2 (by decide),e 3 (by decide),e 4 (by decide),e 5 (by decide)]
 rfl
theorem pairB_short {s:yB}{a:Nat}(h:¬ a+2≤s.size):Ks s a=false:=by
 unfold Ks
 rw [List.any_eq_false]
 intro i hi
 have hi6:i < 6:=by simpa using hi
 unfold mkB
 rw [mk_two i hi6,decide_eq_false h]
 simp
theorem isPair_any (s:yB) (a:Nat) (hs:s.size≤140737488355328) (ha:a≤s.size) (w:yW) :
  Calls zG 189 #[.string s,zI a] w fun e w'=>e=.returned (.bool (Ks s a))∧w'=w:=by
 by_cases h:a+2≤s.size
 ·obtain⟨d,hd⟩:∃ d,d=a+2:=⟨_,rfl⟩
  have hdI:(a:Int)+2=(d:Int):=by omega
  have hd1:a≤d:=by omega
  have hd2:d≤s.size:=by omega
  have h':¬ (s.size:Int) < (d:Int):=by omega
  obtain⟨x,ex⟩:∃ x,s.extract a d=x:=⟨_,rfl⟩
  have hP:=pairB_of h (x:=x) (by rw [← hd]; exact ex)
  obtain⟨b,eb⟩:∃ b,Ks s a=b:=⟨_,rfl⟩
  rw [eb] at hP ⊢
  have KB:Hid (b=((x.toList == [61,61]) || ((x.toList == [33,61]) || ((x.toList == [60,61]) || ((x.toList == [62,61]) || ((x.toList == [38,38]) || (x.toList == [124,124]))))))):=hP
  clear hd h hP eb
  cases q0:(x.toList == [61,61])
  ·cases q1:(x.toList == [33,61])
   ·cases q2:(x.toList == [60,61])
    ·cases q3:(x.toList == [62,61])
     ·cases q4:(x.toList == [38,38])
      ·cases q5:(x.toList == [124,124])
       ·have KB2:Hid (b=false):=by show _=_; rw [KB.out,q0,q1,q2,q3,q4,q5]; rfl
        clear KB
        go_enter Tryz.func189,Tryz.ntmps189
        go_wp2_with fail
        go_ret
        exact⟨retB (by rw [KB2.out]),rfl⟩
       ·have KB2:Hid (b=true):=by show _=_; rw [KB.out,q0,q1,q2,q3,q4,q5]; simp
        clear KB
        go_enter Tryz.func189,Tryz.ntmps189
        go_wp2_with fail
        go_ret
        exact⟨retB (by rw [KB2.out]),rfl⟩
      ·have KB2:Hid (b=true):=by show _=_; rw [KB.out,q0,q1,q2,q3,q4]; simp
       clear KB
       go_enter Tryz.func189,Tryz.ntmps189
       go_wp2_with fail
       go_ret
       exact⟨retB (by rw [KB2.out]),rfl⟩
     ·have KB2:Hid (b=true):=by show _=_; rw [KB.out,q0,q1,q2,q3]; simp
      clear KB
      go_enter Tryz.func189,Tryz.ntmps189
      go_wp2_with fail
      go_ret
      exact⟨retB (by rw [KB2.out]),rfl⟩
    ·have KB2:Hid (b=true):=by show _=_; rw [KB.out,q0,q1,q2]; simp
     clear KB
     go_enter Tryz.func189,Tryz.ntmps189
     go_wp2_with fail
     go_ret
     exact⟨retB (by rw [KB2.out]),rfl⟩
   ·have KB2:Hid (b=true):=by show _=_; rw [KB.out,q0,q1]; simp
    clear KB
    go_enter Tryz.func189,Tryz.ntmps189
    go_wp2_with fail
    go_ret
    exact⟨retB (by rw [KB2.out]),rfl⟩
  ·have KB2:Hid (b=true):=by show _=_; rw [KB.out,q0]; simp
   clear KB
   go_enter Tryz.func189,Tryz.ntmps189
   go_wp2_with fail
   go_ret
   exact⟨retB (by rw [KB2.out]),rfl⟩
 ·have h':(s.size:Int) < (a:Int)+2:=by omega
  rw [pairB_short h]
  go_enter Tryz.func189,Tryz.ntmps189
  go_wp2_with fail
  go_ret
  exact⟨rfl,rfl⟩
def Kl:List UInt8:=[123,125,40,41,44,59,63,58,61,33,60,62,43,45,42,47,37]
theorem index_mem:∀ (l:List UInt8) (c:UInt8),c ∈ l→0≤Lib.indexByte l c
 | [],c,h=>by simp at h
 | b :: l,c,h=>by
  unfold Lib.indexByte
  by_cases hb:b == c
  ·rw [if_pos hb]; exact Int.le_refl _
  ·rw [if_neg hb]
   rw [List.mem_cons] at h
   rcases h with rfl | h
   ·simp at hb
   ·have:=index_mem l c h
    rw [if_neg (by simp; omega)]; omega
theorem index_no:∀ (l:List UInt8) (c:UInt8),c ∉ l→Lib.indexByte l c = -1
 | [],c,h=>rfl
 | b :: l,c,h=>by
  rw [List.mem_cons,not_or] at h
  have:=index_no l c h.2
  unfold Lib.indexByte
  rw [if_neg (by simpa using (fun e:b=c=>h.1 e.symm)),this]
  rfl
theorem mkO_at {s:yB}{a i:Nat}(h:mkO s a=some i):i < 23∧mkB s a i=true∧∀ j,j < i→mkB s a j=false:=by
 unfold mkO at h
 rw [List.find?_range_eq_some] at h
 exact⟨by simpa using h.2.1,h.1,fun j hj=>by simpa using h.2.2 j hj⟩
theorem mkB_at {s:yB}{a i:Nat}(h:mkB s a i=true):a+(mk i).size≤s.size∧s.extract a (a+(mk i).size)=mk i:=by
 unfold mkB at h
 rw [Bool.and_eq_true] at h
 exact⟨of_decide_eq_true h.1,str_eq (by simpa using h.2)⟩
theorem mark_two {s:yB}{a:Nat}(h:Ks s a=true):a+2≤s.size∧mkT s a=⟨4,s.extract a (a+2),0,0,a⟩∧mkE s a=0:=by
 unfold Ks at h
 rw [List.any_eq_true] at h
 obtain⟨j,hj,hm⟩:=h
 have hj6:j < 6:=by simpa using hj
 cases ho:mkO s a with
 | none =>
  unfold mkO at ho
  rw [List.find?_eq_none] at ho
  exact absurd hm (ho j (by simp; omega))
 | some i =>
  obtain⟨h1,h2,h3⟩:=mkO_at ho
  have hi6:i < 6:=by
   by_cases hij:i≤j
   ·omega
   ·rw [h3 j (by omega)] at hm; cases hm
  obtain⟨h4,h5⟩:=mkB_at h2
  rw [mk_two i hi6] at h4 h5
  refine⟨h4,?_,?_⟩
  ·unfold mkT; rw [ho,h5]
  ·unfold mkE; rw [ho]
theorem ext_one {s:yB}{a:Nat}{c:UInt8}(ha:a < s.size) (hc:s[a]=c):s.extract a (a+1)=⟨#[c]⟩:=by
 rw [ext_eq,QQ s a ha,hc]; rfl
theorem mark_one {s:yB}{a:Nat}{c:UInt8}(ha:a < s.size) (hc:s[a]=c) (h:Ks s a=false) (hm:c ∈ Kl):mkT s a=⟨4,s.extract a (a+1),0,0,a⟩∧mkE s a=0:=by
 have hex:=ext_one ha hc
 have hj:∃ j,6≤j∧j < 23∧mk j=⟨#[c]⟩:=by
  have:∀ c ∈ Kl,∃ j,j < 23∧(6≤j∧(mk j).data.toList = [c]):=by decide
  obtain⟨j,h1,h2,h3⟩:=this c hm
  exact⟨j,h2,h1,str_eq h3⟩
 obtain⟨j,j1,j2,j3⟩:=hj
 have hB:mkB s a j=true:=by
  unfold mkB
  rw [mk_one j j1 j2,hex,j3,decide_eq_true (by omega)]; simp
 cases ho:mkO s a with
 | none =>
  unfold mkO at ho
  rw [List.find?_eq_none] at ho
  exact absurd hB (ho j (by simp; omega))
 | some i =>
  obtain⟨h1,h2,_⟩:=mkO_at ho
  have hi6:6≤i:=by
   by_cases hi:6≤i
   ·exact hi
   ·unfold Ks at h
    rw [List.any_eq_false] at h
    exact absurd h2 (h i (by simp; omega))
  obtain⟨h4,h5⟩:=mkB_at h2
  rw [mk_one i hi6 h1] at h4 h5
  refine⟨?_,?_⟩
  ·unfold mkT; rw [ho,h5]
  ·unfold mkE; rw [ho]
theorem mark_no {s:yB}{a:Nat}{c:UInt8}(ha:a < s.size) (hc:s[a]=c) (h:Ks s a=false) (hm:c ∉ Kl):mkE s a=111:=by
 have hex:=ext_one ha hc
 cases ho:mkO s a with
 | none=>unfold mkE; rw [ho]
 | some i =>
  exfalso
  obtain⟨h1,h2,_⟩:=mkO_at ho
  have hi6:6≤i:=by
   by_cases hi:6≤i
   ·exact hi
   ·unfold Ks at h
    rw [List.any_eq_false] at h
    exact absurd h2 (h i (by simp; omega))
  obtain⟨h4,h5⟩:=mkB_at h2
  rw [mk_one i hi6 h1,hex] at h5
  have:∀ i,i < 23→6≤i→∀ c ∈ (mk i).data.toList,c ∈ Kl:=by decide
  exact hm (this i h1 hi6 c (by rw [← h5]; simp))
def pmT (s:yB) (a:Nat):Tk:=if mkE s a=0 then mkT s a else tkP a
theorem box_one (w:yW):∃ W,w.alloc (.cells zl 148)=W ∧
  Hid (TkH W w§ tk0)∧Hid (yD w W)∧W§=w§+1 :=
 ⟨_,rfl,Qd w _,Qc w _,by rw [Qf]⟩
theorem markp_any (s:yB) (a:Nat) (hs:s.size≤140737488355328) (ha:a < s.size) (w:yW) :
  Calls zG 173 #[.string s,zI a] w fun e w'=>e=.returned (.tuple #[.agg (tkA (pmT s a)),zI (mkE s a)])∧yD w w':=by
 have haI:(a:Int) < (s.size:Int):=by omega
 obtain⟨c,hc⟩:∃ c,s[a]=c:=⟨_,rfl⟩
 have cI:=indexByte_any Z06 (c.toNat:Int)
 have hcc:((c.toNat:Int)).toNat.toUInt8=c:=by simp
 have cP:=isPair_any s a hs (Nat.le_of_lt ha)
 obtain⟨W,eW,HR,HB,hz⟩:=box_one w
 obtain⟨r0,r1,r2,r3,r4⟩:=HR.out.cells
 obtain⟨f0,f1,f2,f3,f4⟩:=HR.out.froz
 cases hp:Ks s a
 ·rw [hp] at cP
  by_cases hm:c ∈ Kl
  ·obtain⟨m1,m2⟩:=mark_one ha hc hp hm
   have hi:0≤Lib.indexByte Kl c:=index_mem _ _ hm
   obtain⟨g,hg⟩:∃ g,Lib.indexByte Kl c=g:=⟨_,rfl⟩
   rw [hg] at hi
   have cI2:∀ w,Calls zG 190 #[.string Z06,zU (c.toNat:Int)] w fun e w'=>e=.returned (zI g)∧w'=w:=fun w=>by
    have:=cI w
    rw [hcc,show (ByteArray.mk #[123,125,40,41,44,59,63,58,61,33,60,62,43,45,42,47,37]).data.toList=Kl from rfl,hg] at this
    exact this
   obtain⟨d,hd⟩:∃ d,d=a+1:=⟨_,rfl⟩
   have hdI:(a:Int)+1=(d:Int):=by omega
   have hd1:a≤d:=by omega
   have hd2:d≤s.size:=by omega
   obtain⟨x,ex⟩:∃ x,s.extract a d=x:=⟨_,rfl⟩
   have K:Hid (pmT s a=⟨4,x,0,0,a⟩∧mkE s a=0):=⟨by unfold pmT; rw [m2,if_pos rfl,m1,← hd,ex],m2⟩
   clear m1 m2 hd hm cI hg hcc hp
   go_enter Tryz.func173,Tryz.ntmps173
   go_wp2_with (first | (go_at_call 189; refine (cP _).mono ?_; rintro _ v ⟨rfl,q⟩; obtain rfl:=q.symm) | (go_at_call 190; refine (cI2 _).mono ?_; rintro _ v ⟨rfl,q⟩; obtain rfl:=q.symm))
   exact bodyPost_ret (Qg (p:=4) (u:=5) (ty:=148) rfl _ _ w§ 148 (tkA ⟨4,x,0,0,a⟩) (0,0) _ rfl (HR.out.put ⟨4,x,0,0,a⟩) Tryz.underlying148 rfl zK) rfl ⟨by rw [K.out.1,K.out.2]; rfl,Qp HB.out (Nat.le_refl _) _ _ _ _ _⟩
  ·have m2:=mark_no ha hc hp hm
   have hi:Lib.indexByte Kl c = -1:=index_no _ _ hm
   have cI2:∀ w,Calls zG 190 #[.string Z06,zU (c.toNat:Int)] w fun e w'=>e=.returned (zI (-1))∧w'=w:=fun w=>by
    have:=cI w
    rw [hcc,show (ByteArray.mk #[123,125,40,41,44,59,63,58,61,33,60,62,43,45,42,47,37]).data.toList=Kl from rfl,hi] at this
    exact this
   have K:Hid (pmT s a=tkP a∧mkE s a=111):=⟨by unfold pmT; rw [m2,if_neg (by decide)],m2⟩
   clear m2 hm cI hi hcc hp
   go_enter Tryz.func173,Tryz.ntmps173
   go_wp2_with (first | (go_at_call 189; refine (cP _).mono ?_; rintro _ v ⟨rfl,q⟩; obtain rfl:=q.symm) | (go_at_call 190; refine (cI2 _).mono ?_; rintro _ v ⟨rfl,q⟩; obtain rfl:=q.symm))
   exact bodyPost_ret (Qg (p:=4) (u:=5) (ty:=148) rfl _ _ w§ 148 (tkA (tkP a)) (0,0) _ rfl (HR.out.put (tkP a)) Tryz.underlying148 rfl zK) rfl ⟨by rw [K.out.1,K.out.2]; rfl,Qp HB.out (Nat.le_refl _) _ _ _ _ _⟩
 ·rw [hp] at cP
  obtain⟨m0,m1,m2⟩:=mark_two hp
  obtain⟨d,hd⟩:∃ d,d=a+2:=⟨_,rfl⟩
  have hdI:(a:Int)+2=(d:Int):=by omega
  have hd1:a≤d:=by omega
  have hd2:d≤s.size:=by omega
  obtain⟨x,ex⟩:∃ x,s.extract a d=x:=⟨_,rfl⟩
  have K:Hid (pmT s a=⟨4,x,0,0,a⟩∧mkE s a=0):=⟨by unfold pmT; rw [m2,if_pos rfl,m1,← hd,ex],m2⟩
  clear m0 m1 m2 hd cI hcc hp
  go_enter Tryz.func173,Tryz.ntmps173
  go_wp2_with (go_at_call 189; refine (cP _).mono ?_; rintro _ v ⟨rfl,q⟩; obtain rfl:=q.symm)
  exact bodyPost_ret (Qg (p:=4) (u:=5) (ty:=148) rfl _ _ w§ 148 (tkA ⟨4,x,0,0,a⟩) (0,0) _ rfl (HR.out.put ⟨4,x,0,0,a⟩) Tryz.underlying148 rfl zK) rfl ⟨by rw [K.out.1,K.out.2]; rfl,Qp HB.out (Nat.le_refl _) _ _ _ _ _⟩
theorem start_any (s:yB) (a:Nat) (hs:s.size≤140737488355328) (ha:a≤s.size) (d:Nat) (hd:Hid (d=a+ov (rest s a) false)) (w:yW) :
  Calls zG 168 #[.string s,zI a] w fun e w'=>e=.returned (zI d)∧w'=w:=by
 go_enter Tryz.func168,Tryz.ntmps168
 go_wp2_with fail
 go_step3
 go_wp2_with fail
 go_step3
 go_wp2_with fail
 go_loop [1,5] (fun t r=>∃ (i:Nat) (b:Bool),a≤i∧i≤s.size∧t=zI i∧r=.bool b∧Hid (d=i+ov (rest s i) b)) (fun t _=>s.size - (intOf t).toNat)
 case atStart=>exact⟨a,false,Nat.le_refl _,ha,rfl,rfl,hd⟩
 case round =>
  obtain⟨i,b,hi1,hi2,rfl,rfl,HR⟩:=hrel
  clear hd
  by_cases hlt:i < s.size
  ·have hlt':(i:Int) < (s.size:Int):=by omega
   have hr:=QQ s i hlt
   obtain⟨c,hc⟩:∃ c,s[i]=c:=⟨_,rfl⟩
   rw [hc] at hr
   have hcl:=byte_lt c
   have hq:Hid (rest s i=c :: rest s (i+1)):=hr
   clear hr
   by_cases k10:c.toNat=10
   ·have x10:((c.toNat:Int) == 10)=true:=by rw [k10]; rfl
    have hs2:Hid (d=(i+1)+ov (rest s (i+1)) false):=by
     show _=_
     have e:remB b c=false:=by unfold remB; rw [if_neg (by omega),if_pos k10]
     have e2:Ji c=true:=by unfold Ji; simp [k10]
     rw [HR.out,hq.out,ov_go (by rw [e2]; simp),e]; omega
    go_wp2_with fail
    exact⟨⟨i+1,false,by omega,by omega,by go_num,rfl,hs2⟩,by simp only [intOf]; omega⟩
   ·have x10:((c.toNat:Int) == 10)=false:=beq_false_of_ne (by omega)
    by_cases kb:c.toNat=32∨c.toNat=9∨c.toNat=13
    ·have e:remB b c=b:=by unfold remB; rw [if_neg (by omega),if_neg (by omega)]
     have e2:Ji c=true:=by unfold Ji; simp; omega
     have hs2:Hid (d=(i+1)+ov (rest s (i+1)) b):=by
      show _=_
      rw [HR.out,hq.out,ov_go (by rw [e2]; simp),e]; omega
     clear e e2
     rcases kb with h | h | h
     ·have x32:((c.toNat:Int) == 32)=true:=by rw [h]; rfl
      go_wp2_with fail
      exact⟨⟨i+1,b,by omega,by omega,by go_num,rfl,hs2⟩,by simp only [intOf]; omega⟩
     ·have x32:((c.toNat:Int) == 32)=false:=beq_false_of_ne (by omega)
      have x9:((c.toNat:Int) == 9)=true:=by rw [h]; rfl
      go_wp2_with fail
      exact⟨⟨i+1,b,by omega,by omega,by go_num,rfl,hs2⟩,by simp only [intOf]; omega⟩
     ·have x32:((c.toNat:Int) == 32)=false:=beq_false_of_ne (by omega)
      have x9:((c.toNat:Int) == 9)=false:=beq_false_of_ne (by omega)
      have x13:((c.toNat:Int) == 13)=true:=by rw [h]; rfl
      go_wp2_with fail
      exact⟨⟨i+1,b,by omega,by omega,by go_num,rfl,hs2⟩,by simp only [intOf]; omega⟩
    ·have x32:((c.toNat:Int) == 32)=false:=beq_false_of_ne (by omega)
     have x9:((c.toNat:Int) == 9)=false:=beq_false_of_ne (by omega)
     have x13:((c.toNat:Int) == 13)=false:=beq_false_of_ne (by omega)
     have e2:Ji c=false:=by unfold Ji; simp; omega
     by_cases k35:c.toNat=35
     ·have x35:((c.toNat:Int) == 35)=true:=by rw [k35]; rfl
      have e:remB b c=true:=by unfold remB; rw [if_pos k35]
      have hs2:Hid (d=(i+1)+ov (rest s (i+1)) true):=by
       show _=_
       rw [HR.out,hq.out,ov_go (by rw [e]; simp),e]; omega
      clear e e2
      go_wp2_with fail
      exact⟨⟨i+1,true,by omega,by omega,by go_num,rfl,hs2⟩,by simp only [intOf]; omega⟩
     ·have x35:((c.toNat:Int) == 35)=false:=beq_false_of_ne (by omega)
      have e:remB b c=b:=by unfold remB; rw [if_neg k35,if_neg k10]
      cases b
      ·have hs2:Hid (i=d):=by show _=_; rw [HR.out,hq.out,ov_stop e e2]; omega
       clear e e2
       go_wp2_with fail
       go_ret
       exact⟨retI (by rw [hs2.out]),rfl⟩
      ·have hs2:Hid (d=(i+1)+ov (rest s (i+1)) true):=by
        show _=_
        rw [HR.out,hq.out,ov_go (by rw [e]; simp),e]; omega
       clear e e2
       go_wp2_with fail
       exact⟨⟨i+1,true,by omega,by omega,by go_num,rfl,hs2⟩,by simp only [intOf]; omega⟩
  ·have hn:¬ (i:Int) < (s.size:Int):=by omega
   have hs2:Hid (i=d):=by show _=_; rw [HR.out,Jl s i (by omega)]; rfl
   go_wp2_with fail
   go_ret
   exact⟨retI (by rw [hs2.out]),rfl⟩
def fsT (s:yB) (f:Nat):Tk:=if oneE s f=0 then oneT s f else tkP (oneP s f)
def fsV (s:yB) (f:Nat):Value:=.tuple #[.agg (tkA (fsT s f)),zI (oneE s f)]
theorem first_any (s:yB) (f:Nat) (hs:s.size≤140737488355328) (hf:f≤s.size) (w:yW) (ht:Tab w) :
  Calls zG 158 #[.string s,zI f] w fun e w'=>e=.returned (fsV s f)∧yD w w':=by
 obtain⟨d,hd⟩:∃ d,oneP s f=d:=⟨_,rfl⟩
 have hdl:d≤s.size:=by rw [← hd]; exact oneP_le s f hf
 have cS:=start_any s f hs hf d hd.symm
 obtain⟨W,eW,HR,HB,hz⟩:=box_one w
 obtain⟨r0,r1,r2,r3,r4⟩:=HR.out.cells
 obtain⟨f0,f1,f2,f3,f4⟩:=HR.out.froz
 by_cases h0:d=s.size
 ·have K:Hid (fsV s f=.tuple #[.agg (tkA (tkP d)),zI 0]):=by
   show _=_
   have e0:oneE s f=0:=by unfold oneE; rw [hd,if_pos h0]
   unfold fsV fsT
   rw [e0,if_pos rfl]
   unfold oneT
   rw [hd,if_pos h0]; rfl
  have h0':((d:Int) == (s.size:Int))=true:=by rw [h0]; simp
  clear hd h0
  go_enter Tryz.func158,Tryz.ntmps158
  go_wp2_with (go_at_call 168; refine (cS _).mono ?_; rintro _ v ⟨rfl,q⟩; obtain rfl:=q.symm)
  exact bodyPost_ret (Qg (p:=4) (u:=5) (ty:=148) rfl _ _ w§ 148 (tkA (tkP d)) (0,0) _ rfl (HR.out.put (tkP d)) Tryz.underlying148 rfl zK) rfl ⟨by rw [K.out]; rfl,Qp HB.out (Nat.le_refl _) _ _ _ _ _⟩
 ·have h0':((d:Int) == (s.size:Int))=false:=beq_false_of_ne (by omega)
  have hlt:d < s.size:=by omega
  have hlt':(d:Int) < (s.size:Int):=by omega
  obtain⟨c,hc⟩:∃ c,s[d]=c:=⟨_,rfl⟩
  have hl:=hd_at hlt hc letB
  have hg:=hd_at hlt hc digB
  have hTW:=ht.on HB.out
  cases b1:letB c
  ·cases b2:digB c
   ·have K:Hid (fsV s f=.tuple #[.agg (tkA (pmT s d)),zI (mkE s d)]):=by
     show _=_
     have e0:oneE s f=mkE s d:=by unfold oneE; rw [hd,if_neg h0,hl,b1,if_neg (by decide),hg,b2,if_neg (by decide)]
     have e1:oneT s f=mkT s d:=by unfold oneT; rw [hd,if_neg h0,hl,b1,if_neg (by decide),hg,b2,if_neg (by decide)]
     unfold fsV fsT pmT
     rw [e0,e1,hd]
    have cM:=markp_any s d hs hlt W
    obtain⟨T,eT⟩:∃ T,pmT s d=T:=⟨_,rfl⟩
    obtain⟨E,eE⟩:∃ E,mkE s d=E:=⟨_,rfl⟩
    rw [eT,eE] at cM K
    unfold tkA at cM
    clear hd h0 hl hg eT eE r0 r1 r2 r3 r4 f0 f1 f2 f3 f4
    go_enter Tryz.func158,Tryz.ntmps158
    go_wp2_with (first | (go_at_call 168; refine (cS _).mono ?_; rintro _ v ⟨rfl,q⟩; obtain rfl:=q.symm) | (go_at_call 169; refine (Q4 b1 _).mono ?_; rintro _ v ⟨rfl,q⟩; obtain rfl:=q.symm) | (go_at_call 171; refine (JP b2 _).mono ?_; rintro _ v ⟨rfl,q⟩; obtain rfl:=q.symm))
    refine cM.mono ?_
    rintro _ v ⟨rfl,bb⟩
    have HR2:=(HR.out.onto bb).hid
    have HB2:Hid (yD w v):=HB.out.trans (bb.mono HB.out.size)
    obtain⟨r0,r1,r2,r3,r4⟩:=HR2.out.cells
    obtain⟨f0,f1,f2,f3,f4⟩:=HR2.out.froz
    clear bb
    go_wp2_with fail
    exact bodyPost_ret (Qg (p:=4) (u:=5) (ty:=148) rfl _ _ w§ 148 (tkA T) (0,0) _ rfl (HR2.out.put T) Tryz.underlying148 rfl zK) rfl ⟨by rw [K.out]; rfl,Qp HB2.out (Nat.le_refl _) _ _ _ _ _⟩
   ·have K:Hid (fsV s f=.tuple #[.agg (tkA (pbT s d)),zI (nbE s d)]):=by
     show _=_
     have e0:oneE s f=nbE s d:=by unfold oneE; rw [hd,if_neg h0,hl,b1,if_neg (by decide),hg,b2,if_pos rfl]
     have e1:oneT s f=nbT s d:=by unfold oneT; rw [hd,if_neg h0,hl,b1,if_neg (by decide),hg,b2,if_pos rfl]
     unfold fsV fsT pbT
     rw [e0,e1,hd]
    have cM:=numberp_any s d hs hlt (by rw [hg,b2]) W
    obtain⟨T,eT⟩:∃ T,pbT s d=T:=⟨_,rfl⟩
    obtain⟨E,eE⟩:∃ E,nbE s d=E:=⟨_,rfl⟩
    rw [eT,eE] at cM K
    unfold tkA at cM
    clear hd h0 hl hg eT eE r0 r1 r2 r3 r4 f0 f1 f2 f3 f4
    go_enter Tryz.func158,Tryz.ntmps158
    go_wp2_with (first | (go_at_call 168; refine (cS _).mono ?_; rintro _ v ⟨rfl,q⟩; obtain rfl:=q.symm) | (go_at_call 169; refine (Q4 b1 _).mono ?_; rintro _ v ⟨rfl,q⟩; obtain rfl:=q.symm) | (go_at_call 171; refine (JP b2 _).mono ?_; rintro _ v ⟨rfl,q⟩; obtain rfl:=q.symm))
    refine cM.mono ?_
    rintro _ v ⟨rfl,bb⟩
    have HR2:=(HR.out.onto bb).hid
    have HB2:Hid (yD w v):=HB.out.trans (bb.mono HB.out.size)
    obtain⟨r0,r1,r2,r3,r4⟩:=HR2.out.cells
    obtain⟨f0,f1,f2,f3,f4⟩:=HR2.out.froz
    clear bb
    go_wp2_with fail
    exact bodyPost_ret (Qg (p:=4) (u:=5) (ty:=148) rfl _ _ w§ 148 (tkA T) (0,0) _ rfl (HR2.out.put T) Tryz.underlying148 rfl zK) rfl ⟨by rw [K.out]; rfl,Qp HB2.out (Nat.le_refl _) _ _ _ _ _⟩
  ·have K:Hid (fsV s f=.tuple #[.agg (tkA (pnT s d)),zI (nmE s d)]):=by
    show _=_
    have e0:oneE s f=nmE s d:=by unfold oneE; rw [hd,if_neg h0,hl,b1,if_pos rfl]
    have e1:oneT s f=nmT s d:=by unfold oneT; rw [hd,if_neg h0,hl,b1,if_pos rfl]
    unfold fsV fsT pnT
    rw [e0,e1,hd]
   have cM:=wordp_any s d hs hdl W hTW
   obtain⟨T,eT⟩:∃ T,pnT s d=T:=⟨_,rfl⟩
   obtain⟨E,eE⟩:∃ E,nmE s d=E:=⟨_,rfl⟩
   rw [eT,eE] at cM K
   unfold tkA at cM
   clear hd h0 hl hg eT eE r0 r1 r2 r3 r4 f0 f1 f2 f3 f4
   go_enter Tryz.func158,Tryz.ntmps158
   go_wp2_with (first | (go_at_call 168; refine (cS _).mono ?_; rintro _ v ⟨rfl,q⟩; obtain rfl:=q.symm) | (go_at_call 169; refine (Q4 b1 _).mono ?_; rintro _ v ⟨rfl,q⟩; obtain rfl:=q.symm))
   refine cM.mono ?_
   rintro _ v ⟨rfl,bb⟩
   have HR2:=(HR.out.onto bb).hid
   have HB2:Hid (yD w v):=HB.out.trans (bb.mono HB.out.size)
   obtain⟨r0,r1,r2,r3,r4⟩:=HR2.out.cells
   obtain⟨f0,f1,f2,f3,f4⟩:=HR2.out.froz
   clear bb
   go_wp2_with fail
   exact bodyPost_ret (Qg (p:=4) (u:=5) (ty:=148) rfl _ _ w§ 148 (tkA T) (0,0) _ rfl (HR2.out.put T) Tryz.underlying148 rfl zK) rfl ⟨by rw [K.out]; rfl,Qp HB2.out (Nat.le_refl _) _ _ _ _ _⟩
theorem letter_ov {c:UInt8}{l:List UInt8}(h:letB c=true):ov (c :: l) false=0:=by
 unfold letB at h
 have h:=of_decide_eq_true h
 refine ov_stop ?_ ?_
 ·unfold remB; rw [if_neg (by omega),if_neg (by omega)]
 ·unfold Ji; simp; omega
theorem mkk (s:yB) (a:Nat):(mkT s a).k≠2:=by
 unfold mkT
 cases mkO s a with
 | none=>exact (show (0:Int)≠2 by decide)
 | some i=>simp
theorem nbk (s:yB) (a:Nat):(nbT s a).k≠2:=by
 unfold nbT
 cases nbO s a with
 | none=>exact (show (0:Int)≠2 by decide)
 | some q=>obtain⟨n,e,ty⟩:=q; simp
theorem name_is (s:yB):QV s=true ↔ oneE s 0=0∧(oneT s 0).k=2∧(oneT s 0).x=s:=by
 constructor
 ·intro h
  unfold QV at h
  simp only [Bool.and_eq_true,Bool.not_eq_true',decide_eq_true_eq] at h
  obtain⟨h1,h2,h3,h4,h5⟩:=h
  have hp:oneP s 0=0:=by
   unfold oneP
   cases hr:rest s 0 with
   | nil=>rfl
   | cons c l=>rw [hr] at h4; rw [letter_ov h4]
  have hne:¬ (0:Nat)=s.size:=by omega
  have e1:nmT s 0=⟨2,s,0,0,0⟩:=by
   unfold nmT
   rw [h5,if_neg (by omega)]
   have:s.extract 0 (0+s.size)=s:=str_eq (by rw [ext_list]; unfold rest; rw [List.drop_zero,List.take_of_length_le (by rw [len_of]; omega)])
   rw [this,h1]; rfl
  refine⟨?_,?_,?_⟩
  ·unfold oneE; rw [hp,if_neg hne,if_pos h4]; unfold nmE; rw [h5,if_neg (by omega)]
  ·unfold oneT; rw [hp,if_neg hne,if_pos h4,e1]
  ·unfold oneT; rw [hp,if_neg hne,if_pos h4,e1]
 ·rintro ⟨h1,h2,h3⟩
  have hP:=oneP_le s 0 (by omega)
  unfold oneT at h2 h3
  unfold oneE at h1
  generalize oneP s 0=d at *
  by_cases h0:d=s.size
  ·rw [if_pos h0] at h2; exact absurd h2 (show ¬ (0:Int)=2 by decide)
  rw [if_neg h0] at h1 h2 h3
  by_cases hl:hdB letB (rest s d)=true
  ·rw [if_pos hl] at h1 h2 h3
   unfold nmE at h1
   unfold nmT at h2 h3
   by_cases hk:lead goB (rest s d) > 16
   ·rw [if_pos hk] at h1; exact absurd h1 (by decide)
   ·rw [if_neg hk] at h2 h3
    have hL:=lead_le goB (rest s d)
    rw [Jj] at hL
    have hsz:=congrArg ByteArray.size h3
    simp only at hsz
    rw [ext_size s d _ (by omega)] at hsz
    have hd:d=0:=by omega
    subst hd
    have h3':s.extract 0 (0+lead goB (rest s 0))=s:=h3
    have hpos:=lead_pos (hd_go hl)
    have hw:isW s=false:=by
     rw [h3'] at h2
     cases hh:isW s with
     | false=>rfl
     | true=>rw [hh] at h2; exact absurd h2 (show ¬ (1:Int)=2 by decide)
    unfold QV
    rw [hw,hl,decide_eq_true (by omega),decide_eq_true (by omega),decide_eq_true (by omega)]; rfl
  ·rw [if_neg hl] at h2
   by_cases hg:hdB digB (rest s d)=true
   ·rw [if_pos hg] at h2; exact absurd h2 (nbk s d)
   ·rw [if_neg hg] at h2; exact absurd h2 (mkk s d)
theorem namep_any (s:yB) (hs:s.size≤140737488355328) (w:yW) (ht:Tab w) :
  Calls zG 136 #[.string s] w fun e w'=>e=.returned (.bool (QV s))∧yD w w':=by
 have cF:=first_any s 0 hs (by omega) w ht
 unfold fsV fsT at cF
 have hN:=name_is s
 obtain⟨E,eE⟩:∃ E,oneE s 0=E:=⟨_,rfl⟩
 obtain⟨B,eB⟩:∃ B,QV s=B:=⟨_,rfl⟩
 rw [eE] at cF hN
 rw [eB] at hN ⊢
 clear eE eB
 by_cases hE:E=0
 ·have hE':(E == 0)=true:=by simp [hE]
  rw [if_pos hE] at cF
  obtain⟨T,eT⟩:∃ T,oneT s 0=T:=⟨_,rfl⟩
  rw [eT] at cF hN
  unfold tkA at cF
  by_cases hk:T.k=2
  ·have hk':(T.k == 2)=true:=by simp [hk]
   have KB:Hid (B=(T.x.toList == s.toList)):=by
    show _=_
    by_cases hx:T.x=s
    ·have:B=true:=hN.2 ⟨hE,hk,hx⟩
     rw [this,hx]; simp
    ·rw [seq_ne hx]
     cases B with
     | false=>rfl
     | true=>exact absurd (hN.1 rfl).2.2 hx
   clear hN hE hk eT
   go_enter Tryz.func136,Tryz.ntmps136
   go_wp2_with fail
   refine cF.mono ?_
   rintro _ v ⟨rfl,bb⟩
   have HB2:Hid (yD w v):=bb
   clear bb
   go_wp2_with fail
   go_ret
   exact⟨retB (by rw [KB.out]),HB2.out.alloc HB2.out.size _⟩
  ·have hk':(T.k == 2)=false:=by simp [hk]
   have KB:Hid (B=false):=by
    show _=_
    cases B with
    | false=>rfl
    | true=>exact absurd (hN.1 rfl).2.1 hk
   clear hN hE hk eT
   go_enter Tryz.func136,Tryz.ntmps136
   go_wp2_with fail
   refine cF.mono ?_
   rintro _ v ⟨rfl,bb⟩
   have HB2:Hid (yD w v):=bb
   clear bb
   go_wp2_with fail
   go_ret
   exact⟨retB (by rw [KB.out]),HB2.out.alloc HB2.out.size _⟩
 ·have hE':(E == 0)=false:=by simp [hE]
  rw [if_neg hE] at cF
  unfold tkA at cF
  have KB:Hid (B=false):=by
   show _=_
   cases B with
   | false=>rfl
   | true=>exact absurd (hN.1 rfl).1 hE
  clear hN hE
  go_enter Tryz.func136,Tryz.ntmps136
  go_wp2_with fail
  refine cF.mono ?_
  rintro _ v ⟨rfl,bb⟩
  have HB2:Hid (yD w v):=bb
  clear bb
  go_wp2_with fail
  go_ret
  exact⟨retB (by rw [KB.out]),HB2.out.alloc HB2.out.size _⟩
theorem JL (F:Nat) (x a b:Int) (w:yW) (hF:F=137∨F=164∨F=165∨F=174∨F=176):Calls zG F #[zU x,zU a,zU b] w fun e w'=>e=.returned (.bool (decide (a≤x∧x≤b)))∧w'=w:=by
 rcases hF with rfl | rfl | rfl | rfl | rfl
 ·go_enter Tryz.func137,Tryz.ntmps137
  go_wp2
  all_goals go_ret
  all_goals exact⟨retB (by simp_all; try omega),rfl⟩
 ·go_enter Tryz.func164,Tryz.ntmps164
  go_wp2
  all_goals go_ret
  all_goals exact⟨retB (by simp_all; try omega),rfl⟩
 ·go_enter Tryz.func165,Tryz.ntmps165
  go_wp2
  all_goals go_ret
  all_goals exact⟨retB (by simp_all; try omega),rfl⟩
 ·go_enter Tryz.func174,Tryz.ntmps174
  go_wp2
  all_goals go_ret
  all_goals exact⟨retB (by simp_all; try omega),rfl⟩
 ·go_enter Tryz.func176,Tryz.ntmps176
  go_wp2
  all_goals go_ret
  all_goals exact⟨retB (by simp_all; try omega),rfl⟩
theorem wI_any (x a b:Int) (w:yW):Calls zG 179 #[zI x,zI a,zI b] w fun e w'=>e=.returned (.bool (decide (a≤x∧x≤b)))∧w'=w:=by
 go_enter Tryz.func179,Tryz.ntmps179
 go_wp2
 all_goals go_ret
 all_goals exact⟨retB (by simp_all; try omega),rfl⟩
theorem isNumber_any (t:Int) (w:yW):Calls zG 159 #[zU t] w fun e w'=>e=.returned (.bool (numB t))∧w'=w:=by
 go_enter Tryz.func159,Tryz.ntmps159
 go_wp2_with (go_at_call 137; refine (JL 137 _ _ _ _ (by simp)).mono ?_; rintro e w' ⟨rfl,rfl⟩)
 go_ret
 exact⟨retB (by simp [numB]),rfl⟩
theorem isLiteral_any (t n:Int) (w:yW):Calls zG 163 #[zU t,zI n] w fun e w'=>e=.returned (.bool (litB t n))∧w'=w:=by
 unfold litB
 by_cases h5:t=5
 ·subst h5
  rw [if_pos rfl]
  go_enter Tryz.func163,Tryz.ntmps163
  go_wp2_with (go_at_call 179; refine (wI_any _ _ _ _).mono ?_; rintro e w' ⟨rfl,rfl⟩)
  go_ret
  exact⟨retB (by simp),rfl⟩
 by_cases h6:t=6
 ·subst h6
  rw [if_neg (by decide),if_pos rfl]
  go_enter Tryz.func163,Tryz.ntmps163
  go_wp2_with (go_at_call 179; refine (wI_any _ _ _ _).mono ?_; rintro e w' ⟨rfl,rfl⟩)
  go_ret
  exact⟨retB (by simp),rfl⟩
 rw [if_neg h5,if_neg h6]
 have e5:(t == 5)=false:=by simp [h5]
 have e6:(t == 6)=false:=by simp [h6]
 have cN:=isNumber_any t
 obtain⟨B,eB⟩:∃ B,numB t=B:=⟨_,rfl⟩
 rw [eB]
 simp only [eB] at cN
 clear eB h5 h6
 cases B with
 | true =>
  go_enter Tryz.func163,Tryz.ntmps163
  go_wp2_with (go_at_call 159; refine (cN _).mono ?_; rintro e w' ⟨rfl,rfl⟩)
  go_ret
  exact⟨retB (by simp),rfl⟩
 | false =>
  go_enter Tryz.func163,Tryz.ntmps163
  go_wp2_with (go_at_call 159; refine (cN _).mono ?_; rintro e w' ⟨rfl,rfl⟩)
  go_ret
  exact⟨retB (by simp),rfl⟩
end Go.Proofs.YtoogodlnnijikaaGreatDoor
