import Derived.Test.YtoogodlnnijikaaGreatDoorA0
import Derived.Test.YtoogodlnnijikaaGreatDoorA2
import Derived.Test.YtoogodlnnijikaaGreatDoorA1
import Derived.Lib.Bytealg
import Derived.LaidLaws
namespace Go.Proofs.YtoogodlnnijikaaGreatDoor
set_option maxHeartbeats 2000000
set_option maxRecDepth 100000
open Go.RowKit
def SfH (w:yW) (b:Nat) (h:Hd):Prop:=w.heap[b]? = (zC (J6 h) 215)
theorem SfH.lt {w:yW}{b:Nat}{h:Hd}(k:SfH w b h):b < w§:=(zJ k).1
theorem SfH.on {w w':yW}{b:Nat}{h:Hd}(k:SfH w b h) (j:yD w w'):SfH w' b h:=(j.block b k.lt).trans k
theorem SfH.hid {w:yW}{b:Nat}{h:Hd}(k:SfH w b h):Hid (SfH w b h):=k
theorem SfH.cells {w:yW}{b:Nat}{h:Hd}(k:SfH w b h):w.cell? b¢0=some (zU h.k)∧w.cell? b¢1=some (zU h.o)∧w.cell? b¢2=some (zU h.t)∧w.cell? b¢3=some (zI h.n)∧w.cell? b¢4=some (zU h.f)∧w.cell? b¢5=some (.string h.x) :=
 ⟨Qa k 0,Qa k 1,Qa k 2,Qa k 3,Qa k 4,Qa k 5⟩
theorem SfH.froz {w:yW}{b:Nat}{h:Hd}(k:SfH w b h):w.frozen? b¢0=false∧w.frozen? b¢1=false∧w.frozen? b¢2=false∧w.frozen? b¢3=false∧w.frozen? b¢4=false∧w.frozen? b¢5=false :=
 ⟨Qb k 0,Qb k 1,Qb k 2,Qb k 3,Qb k 4,Qb k 5⟩
theorem put6 {w:yW}{b:Nat}{cs:Array Value}(h:w.heap[b]? = (zC cs 215)) (hs:cs.size=6) (v0 v1 v2 v3 v4 v5:Value) :
  ((((((w.setCell b¢0 v0).setCell b¢1 v1).setCell b¢2 v2).setCell b¢3 v3).setCell b¢4 v4).setCell b¢5 v5).heap[b]? = (zC #[v0,v1,v2,v3,v4,v5] 215):=by
 obtain⟨a0,a1,a2,a3,a4,a5,e⟩:∃ a0 a1 a2 a3 a4 a5,cs=#[a0,a1,a2,a3,a4,a5]:=⟨cs[0],cs[1],cs[2],cs[3],cs[4],cs[5],by
  apply Array.ext
  ·simpa using hs
  ·intro i h1 h2
   have:i < 6:=by omega
   match i,this with
   | 0,_=>rfl
   | 1,_=>rfl
   | 2,_=>rfl
   | 3,_=>rfl
   | 4,_=>rfl
   | 5,_=>rfl⟩
 subst e
 exact Qi _ (Qi _ (Qi _ (Qi _ (Qi _ (Qi _ h)))))
theorem belowput6 {B:Nat}{w v:yW}{b:Nat}(h:Below B w v) (hb:B≤b) (v0 v1 v2 v3 v4 v5:Value):Below B w ((((((v.setCell b¢0 v0).setCell b¢1 v1).setCell b¢2 v2).setCell b¢3 v3).setCell b¢4 v4).setCell b¢5 v5) :=
 (((((h.setCell (p:=b¢0) hb v0).setCell (p:=b¢1) hb v1).setCell (p:=b¢2) hb v2).setCell (p:=b¢3) hb v3).setCell (p:=b¢4) hb v4).setCell (p:=b¢5) hb v5
def hdN:Hd:=⟨0,0,0,0,0,⟨#[]⟩,0⟩
theorem selfOf_any (h:Hd) (a:Option Addr) (l c:Nat) (w:yW):Calls zG 142 #[.agg (hdA h a l c)] w fun e w'=>e=.returned (.agg (J6 h))∧yD w w':=by
 obtain⟨W,eW⟩:∃ W,(w.alloc (.cells (hdA h a l c) 48)).alloc (.cells #[zU 0,zU 0,zU 0,zI 0,zU 0,yQ] 215)=W:=⟨_,rfl⟩
 have HB:Hid (yD w W):=by rw [← eW]; exact Ql _ _ _
 have HN:Hid (W.heap[w§]? = (zC (hdA h a l c) 48)):=by show _=_; rw [← eW]; exact QI (Qd _ _) (by rw [Qf]; omega)
 have HS:Hid (SfH W (w§+1) hdN):=by show SfH _ _ _; rw [← eW,← Qf w (.cells (hdA h a l c) 48)]; exact Qd _ _
 obtain⟨y0,y1,y2,y3,y4,y5⟩:W.cell? w§¢0=some (zU h.k)∧W.cell? w§¢1=some (zU h.o)∧W.cell? w§¢2=some (zU h.t)∧W.cell? w§¢3=some (zI h.n)∧W.cell? w§¢4=some (zU h.f)∧W.cell? w§¢5=some (.string h.x) :=
  ⟨Qa HN.out 0,Qa HN.out 1,Qa HN.out 2,Qa HN.out 3,Qa HN.out 4,Qa HN.out 5⟩
 obtain⟨z0,z1,z2,z3,z4,z5⟩:=HS.out.cells
 obtain⟨f0,f1,f2,f3,f4,f5⟩:=HS.out.froz
 unfold hdA at eW ⊢
 go_enter Tryz.func142,Tryz.ntmps142
 go_wp2
 exact bodyPost_ret (results_cell_row rfl _ _ (w§+1) 215 (J6 h) (0,0) _ rfl (put6 HS.out rfl _ _ _ _ _ _) Tryz.underlying215 rfl zK) rfl ⟨rfl,belowput6 HB.out (by omega) _ _ _ _ _ _⟩
theorem mid3 (w:yW) (A B C:Obj):(((w.alloc A).alloc B).alloc C).heap[w§+1]? = some B:=by
 refine QI ?_ (by rw [Qf,Qf]; omega)
 rw [← Qf w A]; exact Qd _ _
theorem below3 (w:yW) (A B C:Obj):yD w (((w.alloc A).alloc B).alloc C):=(Ql _ _ _).alloc (by rw [Qf,Qf]; omega) _
theorem nm_1 (o t n f:Int) (x:yB) (w:yW):Calls zG 143 #[.agg #[zU 1,zU o,zU t,zI n,zU f,.string x]] w fun e w'=>e=.returned (.agg #[zU 1,zU 0,zU t,zI n,zU 0,yQ])∧yD w w':=by
 go_enter Tryz.func143,Tryz.ntmps143
 go_wp2_with fail
 exact bodyPost_ret (results_cell_row rfl _ _ (w§+1) 215 #[zU 1,zU 0,zU t,zI n,zU 0,yQ] (0,0) _ rfl (mid3 _ _ _ _) Tryz.underlying215 rfl zK) rfl ⟨rfl,below3 _ _ _ _⟩
theorem nm_9 (o t n f:Int) (x:yB) (w:yW):Calls zG 143 #[.agg #[zU 9,zU o,zU t,zI n,zU f,.string x]] w fun e w'=>e=.returned (.agg #[zU 9,zU 0,zU t,zI 0,zU 0,yQ])∧yD w w':=by
 go_enter Tryz.func143,Tryz.ntmps143
 go_wp2_with fail
 exact bodyPost_ret (results_cell_row rfl _ _ (w§+1) 215 #[zU 9,zU 0,zU t,zI 0,zU 0,yQ] (0,0) _ rfl (mid3 _ _ _ _) Tryz.underlying215 rfl zK) rfl ⟨rfl,below3 _ _ _ _⟩
theorem nm_2 (o t n f:Int) (x:yB) (w:yW):Calls zG 143 #[.agg #[zU 2,zU o,zU t,zI n,zU f,.string x]] w fun e w'=>e=.returned (.agg #[zU 2,zU 0,zU 0,zI 0,zU 0,.string x])∧yD w w':=by
 go_enter Tryz.func143,Tryz.ntmps143
 go_wp2_with fail
 exact bodyPost_ret (results_cell_row rfl _ _ (w§+1) 215 #[zU 2,zU 0,zU 0,zI 0,zU 0,.string x] (0,0) _ rfl (mid3 _ _ _ _) Tryz.underlying215 rfl zK) rfl ⟨rfl,below3 _ _ _ _⟩
theorem nm_3 (o t n f:Int) (x:yB) (w:yW):Calls zG 143 #[.agg #[zU 3,zU o,zU t,zI n,zU f,.string x]] w fun e w'=>e=.returned (.agg #[zU 3,zU 0,zU 0,zI 0,zU f,yQ])∧yD w w':=by
 go_enter Tryz.func143,Tryz.ntmps143
 go_wp2_with fail
 exact bodyPost_ret (results_cell_row rfl _ _ (w§+1) 215 #[zU 3,zU 0,zU 0,zI 0,zU f,yQ] (0,0) _ rfl (mid3 _ _ _ _) Tryz.underlying215 rfl zK) rfl ⟨rfl,below3 _ _ _ _⟩
theorem nm_4 (o t n f:Int) (x:yB) (w:yW):Calls zG 143 #[.agg #[zU 4,zU o,zU t,zI n,zU f,.string x]] w fun e w'=>e=.returned (.agg #[zU 4,zU 0,zU 0,zI 0,zU f,yQ])∧yD w w':=by
 go_enter Tryz.func143,Tryz.ntmps143
 go_wp2_with fail
 exact bodyPost_ret (results_cell_row rfl _ _ (w§+1) 215 #[zU 4,zU 0,zU 0,zI 0,zU f,yQ] (0,0) _ rfl (mid3 _ _ _ _) Tryz.underlying215 rfl zK) rfl ⟨rfl,below3 _ _ _ _⟩
theorem nm_5 (o t n f:Int) (x:yB) (w:yW):Calls zG 143 #[.agg #[zU 5,zU o,zU t,zI n,zU f,.string x]] w fun e w'=>e=.returned (.agg #[zU 5,zU o,zU 0,zI 0,zU 0,yQ])∧yD w w':=by
 go_enter Tryz.func143,Tryz.ntmps143
 go_wp2_with fail
 exact bodyPost_ret (results_cell_row rfl _ _ (w§+1) 215 #[zU 5,zU o,zU 0,zI 0,zU 0,yQ] (0,0) _ rfl (mid3 _ _ _ _) Tryz.underlying215 rfl zK) rfl ⟨rfl,below3 _ _ _ _⟩
theorem nm_6 (o t n f:Int) (x:yB) (w:yW):Calls zG 143 #[.agg #[zU 6,zU o,zU t,zI n,zU f,.string x]] w fun e w'=>e=.returned (.agg #[zU 6,zU o,zU 0,zI 0,zU 0,yQ])∧yD w w':=by
 go_enter Tryz.func143,Tryz.ntmps143
 go_wp2_with fail
 exact bodyPost_ret (results_cell_row rfl _ _ (w§+1) 215 #[zU 6,zU o,zU 0,zI 0,zU 0,yQ] (0,0) _ rfl (mid3 _ _ _ _) Tryz.underlying215 rfl zK) rfl ⟨rfl,below3 _ _ _ _⟩
theorem nm_8 (o t n f:Int) (x:yB) (w:yW):Calls zG 143 #[.agg #[zU 8,zU o,zU t,zI n,zU f,.string x]] w fun e w'=>e=.returned (.agg #[zU 8,zU o,zU 0,zI 0,zU 0,yQ])∧yD w w':=by
 go_enter Tryz.func143,Tryz.ntmps143
 go_wp2_with fail
 exact bodyPost_ret (results_cell_row rfl _ _ (w§+1) 215 #[zU 8,zU o,zU 0,zI 0,zU 0,yQ] (0,0) _ rfl (mid3 _ _ _ _) Tryz.underlying215 rfl zK) rfl ⟨rfl,below3 _ _ _ _⟩
theorem nm_z (k:Int) (e1:(k == 1)=false) (e2:(k == 2)=false) (e3:(k == 3)=false) (e4:(k == 4)=false) (e5:(k == 5)=false) (e6:(k == 6)=false) (e8:(k == 8)=false) (e9:(k == 9)=false) (o t n f:Int) (x:yB) (w:yW):Calls zG 143 #[.agg #[zU k,zU o,zU t,zI n,zU f,.string x]] w fun e w'=>e=.returned (.agg #[zU k,zU 0,zU 0,zI 0,zU 0,yQ])∧yD w w':=by
 go_enter Tryz.func143,Tryz.ntmps143
 go_wp2_with fail
 exact bodyPost_ret (results_cell_row rfl _ _ (w§+1) 215 #[zU k,zU 0,zU 0,zI 0,zU 0,yQ] (0,0) _ rfl (mid3 _ _ _ _) Tryz.underlying215 rfl zK) rfl ⟨rfl,below3 _ _ _ _⟩
theorem named_any (h:Hd) (w:yW):Calls zG 143 #[.agg (J6 h)] w fun e w'=>e=.returned (.agg (J6 (nm h)))∧yD w w':=by
 obtain⟨k,o,t,n,f,x,p⟩:=h
 unfold J6 nm
 simp only
 by_cases e1:k=1
 ·subst e1; exact nm_1 o t n f x w
 by_cases e9:k=9
 ·subst e9; exact nm_9 o t n f x w
 by_cases e2:k=2
 ·subst e2; exact nm_2 o t n f x w
 by_cases e3:k=3
 ·subst e3; exact nm_3 o t n f x w
 by_cases e4:k=4
 ·subst e4; exact nm_4 o t n f x w
 by_cases e5:k=5
 ·subst e5; exact nm_5 o t n f x w
 by_cases e6:k=6
 ·subst e6; exact nm_6 o t n f x w
 by_cases e8:k=8
 ·subst e8; exact nm_8 o t n f x w
 rw [if_neg e1,if_neg e9,if_neg e2,if_neg (by omega),if_neg (by omega)]
 exact nm_z k (by simp [e1]) (by simp [e2]) (by simp [e3]) (by simp [e4]) (by simp [e5]) (by simp [e6]) (by simp [e8]) (by simp [e9]) o t n f x w
def Tab (w : yW) : Prop := w.var? Tryz.prog "tripwire/lex.words" = some wordsV
theorem words_global : Tryz.prog.globalNamed "tripwire/lex.words" = some 2 := by kernel_rfl
theorem Tab.on {w w':yW}(h:Tab w) (hb:yD w w'):Tab w':=by
 unfold Tab World.var? at *
 rw [words_global] at h ⊢
 simp only [Option.bind_some] at h ⊢
 have hlt:2 < w§:=by
  rcases Nat.lt_or_ge 2 w§ with h' | h'
  ·exact h'
  ·rw [Array.getElem?_eq_none h'] at h; simp at h
 rw [hb.block 2 hlt]
 exact h
theorem Tab.cell {w:yW}(h:Tab w) (i:Nat) (hi:i < 41):w.cell? 2¢i=some (.string (wd i)):=by
 have:=World.var?_cell words_global h i
 rw [this]
 unfold wordsV wd
 have hl:i < Ki.length:=hi
 simp [List.getElem?_map,List.getElem?_eq_getElem hl,List.getD]
theorem Tab.hid {w:yW}(h:Tab w):Hid (Tab w):=h
theorem isLetter_any (c:UInt8) (w:yW):Calls zG 169 #[zU (c.toNat:Int)] w fun e w'=>e=.returned (.bool (letB c))∧w'=w:=by
 go_enter Tryz.func169,Tryz.ntmps169
 go_wp2
 all_goals go_ret
 all_goals refine⟨retB ?_,rfl⟩
 all_goals unfold letB
 ·have h:97≤c.toNat:=by omega
  by_cases h2:c.toNat≤122
  ·rw [decide_eq_true (show (c.toNat:Int)≤122 by omega),decide_eq_true ⟨h,h2⟩]
  ·rw [decide_eq_false (show ¬ (c.toNat:Int)≤122 by omega),decide_eq_false (fun k=>h2 k.2)]
 ·rw [decide_eq_false (by omega)]
theorem isDigit_any (c:UInt8) (w:yW):Calls zG 171 #[zU (c.toNat:Int)] w fun e w'=>e=.returned (.bool (digB c))∧w'=w:=by
 go_enter Tryz.func171,Tryz.ntmps171
 go_wp2
 all_goals go_ret
 all_goals refine⟨retB ?_,rfl⟩
 all_goals unfold digB
 ·have h:48≤c.toNat:=by omega
  by_cases h2:c.toNat≤57
  ·rw [decide_eq_true (show (c.toNat:Int)≤57 by omega),decide_eq_true ⟨h,h2⟩]
  ·rw [decide_eq_false (show ¬ (c.toNat:Int)≤57 by omega),decide_eq_false (fun k=>h2 k.2)]
 ·rw [decide_eq_false (by omega)]
theorem Q4 {c:UInt8}{b:Bool}(h:letB c=b) (w:yW):Calls zG 169 #[zU (c.toNat:Int)] w fun e w'=>e=.returned (.bool b)∧w'=w:=h ▸ isLetter_any c w
theorem JP {c:UInt8}{b:Bool}(h:digB c=b) (w:yW):Calls zG 171 #[zU (c.toNat:Int)] w fun e w'=>e=.returned (.bool b)∧w'=w:=h ▸ isDigit_any c w
theorem slite_any (s:yB) (c:Int) (w:yW):Calls zG 193 #[.string s,zU c] w fun e w'=>e=.returned (zI (Lib.indexByte s.data.toList c.toNat.toUInt8))∧w'=w:=by
 go_enter Tryz.func193,Tryz.ntmps193
 go_wp2
 rw [run_callFunc_extern Tryz.func196 zK zK zK (e:=Extern.BytealgIndexByte.indexByte) zK,Lib.run_indexByteString]
 simp only [Result.andThen]
 rw [Oper.upon_value]
 go_wp2
 go_ret
 exact⟨rfl,rfl⟩
theorem indexByte_any (s:yB) (c:Int) (w:yW):Calls zG 190 #[.string s,zU c] w fun e w'=>e=.returned (zI (Lib.indexByte s.data.toList c.toNat.toUInt8))∧w'=w:=by
 go_enter Tryz.func190,Tryz.ntmps190
 go_wp2_with (go_at_call 193; refine (slite_any _ _ _).mono ?_; rintro e w' ⟨rfl,rfl⟩)
 go_ret
 exact⟨rfl,rfl⟩
theorem wordP_any (s:yB) (w:yW) (ht:Tab w):Calls zG 183 #[.string s] w fun e w'=>e=.returned (.bool (isW s))∧w'=w:=by
 have HC:Hid (∀ j,j < 41→w.cell? 2¢j=some (.string (wd j))):=ht.cell
 clear ht
 go_enter Tryz.func183,Tryz.ntmps183
 go_wp2_with fail
 go_loop [4] (fun t=>∃ i:Nat,i≤41∧t=zI i∧Hid (∀ j,j < i→¬ wd j=s)) (fun t=>41 - (intOf t).toNat)
 case atStart=>exact⟨0,by omega,rfl,fun j hj=>by omega⟩
 case round =>
  obtain⟨i,hi,rfl,HR⟩:=hrel
  by_cases hlt:i < 41
  ·have hlt':(i:Int) < 41:=by omega
   have hcell:=HC.out i hlt
   obtain⟨x,ex⟩:∃ x,wd i=x:=⟨_,rfl⟩
   rw [ex] at hcell
   by_cases he:x=s
   ·have hw:=isW_yes hlt (ex.trans he)
    subst he
    go_wp2
    go_ret
    exact⟨by first | rfl | exact retB hw.symm,rfl⟩
   ·have hne:=seq_ne he
    have hn:Hid (∀ j,j < i+1→¬ wd j=s):=fun j hj=>by
     by_cases e:j=i
     ·subst e; rw [ex]; exact he
     ·exact HR.out j (by omega)
    clear he ex
    go_wp2
    exact⟨⟨i+1,by omega,by go_num,hn⟩,by simp only [intOf]; omega⟩
  ·obtain rfl:i=41:=by omega
   have hw:=isW_no HR.out
   go_wp2
   go_ret
   exact⟨by first | rfl | exact retB hw.symm,rfl⟩
theorem hd_at {s:yB}{i:Nat}(h:i < s.size) {c:UInt8}(hc:s[i]=c) (p:UInt8→Bool):hdB p (rest s i)=p c:=by rw [QQ s i h,hc]; rfl
theorem hd_out {s:yB}{i:Nat}(h:s.size≤i) (p:UInt8→Bool):hdB p (rest s i)=false:=by rw [Jl s i h]; rfl
theorem wordC_any (s:yB) (i B:Nat) (w:yW) (hB:w.cell? B¢0=some (.string s)) (hi:i≤s.size) :
  Calls zG 182 #[zI i,zP B] w fun e w'=>e=.returned (.bool (hdB goB (rest s i)))∧w'=w:=by
 by_cases hlt:i < s.size
 ·have hlt':(i:Int) < (s.size:Int):=by omega
  obtain⟨c,hc⟩:∃ c,s[i]=c:=⟨_,rfl⟩
  rw [hd_at hlt hc]
  cases b1:letB c
  ·cases b2:digB c
   ·have hg:Hid (goB c=((c.toNat:Int) == 95)):=by
     show _=_
     unfold goB
     rw [b1,b2]
     by_cases h:c.toNat=95
     ·rw [h]; rfl
     ·have h':((c.toNat:Int) == 95)=false:=beq_false_of_ne (by omega)
      rw [h']; simp [h]
    go_enter Tryz.func182,Tryz.ntmps182
    go_wp2_with (first | (go_at_call 169; refine (Q4 b1 _).mono ?_; rintro _ v ⟨rfl,e⟩; obtain rfl:=e.symm) | (go_at_call 171; refine (JP b2 _).mono ?_; rintro _ v ⟨rfl,e⟩; obtain rfl:=e.symm))
    all_goals go_ret
    all_goals exact⟨by rw [hg.out]; rfl,rfl⟩
   ·have hg:goB c=true:=by unfold goB; rw [b1,b2]; rfl
    rw [hg]
    go_enter Tryz.func182,Tryz.ntmps182
    go_wp2_with (first | (go_at_call 169; refine (Q4 b1 _).mono ?_; rintro _ v ⟨rfl,e⟩; obtain rfl:=e.symm) | (go_at_call 171; refine (JP b2 _).mono ?_; rintro _ v ⟨rfl,e⟩; obtain rfl:=e.symm))
    all_goals go_ret
    all_goals exact⟨rfl,rfl⟩
  ·have hg:goB c=true:=by unfold goB; rw [b1]; rfl
   rw [hg]
   go_enter Tryz.func182,Tryz.ntmps182
   go_wp2_with (go_at_call 169; refine (Q4 b1 _).mono ?_; rintro _ v ⟨rfl,e⟩; obtain rfl:=e.symm)
   all_goals go_ret
   all_goals exact⟨rfl,rfl⟩
 ·rw [hd_out (by omega)]
  have hn:¬ (i:Int) < (s.size:Int):=by omega
  go_enter Tryz.func182,Tryz.ntmps182
  go_wp2_with fail
  go_ret
  exact⟨rfl,rfl⟩
theorem numC_any (s:yB) (i B:Nat) (w:yW) (hB:w.cell? B¢0=some (.string s)) (hi:i≤s.size) :
  Calls zG 184 #[zI i,zP B] w fun e w'=>e=.returned (.bool (hdB digB (rest s i)))∧w'=w:=by
 by_cases hlt:i < s.size
 ·have hlt':(i:Int) < (s.size:Int):=by omega
  obtain⟨c,hc⟩:∃ c,s[i]=c:=⟨_,rfl⟩
  rw [hd_at hlt hc]
  go_enter Tryz.func184,Tryz.ntmps184
  go_wp2_with (go_at_call 171; refine (isDigit_any _ _).mono ?_; rintro _ v ⟨rfl,e⟩; obtain rfl:=e.symm)
  all_goals go_ret
  all_goals exact⟨rfl,rfl⟩
 ·rw [hd_out (by omega)]
  have hn:¬ (i:Int) < (s.size:Int):=by omega
  go_enter Tryz.func184,Tryz.ntmps184
  go_wp2_with fail
  go_ret
  exact⟨rfl,rfl⟩
theorem reachW_any (s:yB) (a B:Nat) (hs:s.size≤140737488355328) (ha:a≤s.size) (w:yW) (hB:w.cell? B¢0=some (.string s)) (d:Nat) (hd:Hid (d=a+lead goB (rest s a))) :
  Calls zG 181 #[zI a,.func (.func 182) #[] #[zP B]] w fun e w'=>e=.returned (zI d)∧w'=w:=by
 go_enter Tryz.func181,Tryz.ntmps181
 go_wp2_with fail
 go_loop [0] (fun t=>∃ i:Nat,a≤i∧i≤s.size∧t=zI i∧Hid (d=i+lead goB (rest s i))) (fun t=>s.size - (intOf t).toNat)
 case atStart=>exact⟨a,Nat.le_refl _,ha,rfl,hd⟩
 case round =>
  obtain⟨i,hi1,hi2,rfl,HR⟩:=hrel
  clear hd
  have cF:=wordC_any s i B w hB hi2
  cases hb:hdB goB (rest s i)
  ·rw [hb] at cF
   have hs2:Hid (i=d):=by
    show _=_
    rw [HR.out]
    cases hr:rest s i with
    | nil=>rfl
    | cons c l=>rw [hr] at hb; rw [lead,if_neg (by rw [show goB c=false from hb]; decide)]; rfl
   clear hb
   go_wp2_with fail
   refine cF.mono ?_
   rintro _ v ⟨rfl,e⟩
   obtain rfl:=e.symm
   go_wp2_with fail
   go_ret
   exact⟨retI (by rw [hs2.out]),rfl⟩
  ·rw [hb] at cF
   have hlt:i < s.size:=by
    by_cases h:i < s.size
    ·exact h
    ·rw [hd_out (by omega)] at hb; cases hb
   have hs2:Hid (d=(i+1)+lead goB (rest s (i+1))):=by
    show _=_
    rw [HR.out]
    have hr:=QQ s i hlt
    rw [hr] at hb
    unfold hdB at hb
    rw [hr,lead,if_pos hb]; omega
   clear hb HR
   go_wp2_with fail
   refine cF.mono ?_
   rintro _ v ⟨rfl,e⟩
   obtain rfl:=e.symm
   go_wp2_with fail
   exact⟨⟨i+1,by omega,by omega,by go_num,hs2⟩,by simp only [intOf]; omega⟩
theorem reachN_any (s:yB) (a B:Nat) (hs:s.size≤140737488355328) (ha:a≤s.size) (w:yW) (hB:w.cell? B¢0=some (.string s)) (d:Nat) (hd:Hid (d=a+lead digB (rest s a))) :
  Calls zG 181 #[zI a,.func (.func 184) #[] #[zP B]] w fun e w'=>e=.returned (zI d)∧w'=w:=by
 go_enter Tryz.func181,Tryz.ntmps181
 go_wp2_with fail
 go_loop [0] (fun t=>∃ i:Nat,a≤i∧i≤s.size∧t=zI i∧Hid (d=i+lead digB (rest s i))) (fun t=>s.size - (intOf t).toNat)
 case atStart=>exact⟨a,Nat.le_refl _,ha,rfl,hd⟩
 case round =>
  obtain⟨i,hi1,hi2,rfl,HR⟩:=hrel
  clear hd
  have cF:=numC_any s i B w hB hi2
  cases hb:hdB digB (rest s i)
  ·rw [hb] at cF
   have hs2:Hid (i=d):=by
    show _=_
    rw [HR.out]
    cases hr:rest s i with
    | nil=>rfl
    | cons c l=>rw [hr] at hb; rw [lead,if_neg (by rw [show digB c=false from hb]; decide)]; rfl
   clear hb
   go_wp2_with fail
   refine cF.mono ?_
   rintro _ v ⟨rfl,e⟩
   obtain rfl:=e.symm
   go_wp2_with fail
   go_ret
   exact⟨retI (by rw [hs2.out]),rfl⟩
  ·rw [hb] at cF
   have hlt:i < s.size:=by
    by_cases h:i < s.size
    ·exact h
    ·rw [hd_out (by omega)] at hb; cases hb
   have hs2:Hid (d=(i+1)+lead digB (rest s (i+1))):=by
    show _=_
    rw [HR.out]
    have hr:=QQ s i hlt
    rw [hr] at hb
    unfold hdB at hb
    rw [hr,lead,if_pos hb]; omega
   clear hb HR
   go_wp2_with fail
   refine cF.mono ?_
   rintro _ v ⟨rfl,e⟩
   obtain rfl:=e.symm
   go_wp2_with fail
   exact⟨⟨i+1,by omega,by omega,by go_num,hs2⟩,by simp only [intOf]; omega⟩
def wv:List UInt8→Nat→Option Nat
 | [],n=>some n
 | c :: l,n=>if 10 * n+(c.toNat - 48) > 9223372036854775807 then none else wv l (10 * n+(c.toNat - 48))
theorem nmS_mono:∀ (l:List UInt8) (n k n' k':Nat),nmS l n k=some (n',k')→n≤n'∧k'=k+lead digB l
 | [],n,k,n',k',h=>by
  simp only [nmS,Option.some.injEq,Prod.mk.injEq] at h
  obtain⟨rfl,rfl⟩:=h
  exact⟨Nat.le_refl _,rfl⟩
 | c :: l,n,k,n',k',h=>by
  unfold nmS at h
  unfold lead
  by_cases hg:digB c=true
  ·rw [if_pos hg] at h ⊢
   by_cases hn:n > 922337203685477580
   ·rw [if_pos hn] at h; exact absurd h (by simp)
   ·rw [if_neg hn] at h
    have:=nmS_mono l _ _ _ _ h
    exact⟨by omega,by omega⟩
  ·rw [if_neg hg] at h ⊢
   simp only [Option.some.injEq,Prod.mk.injEq] at h
   obtain⟨rfl,rfl⟩:=h
   exact⟨Nat.le_refl _,rfl⟩
theorem wv_nmS:∀ (l:List UInt8) (n k:Nat),n≤9223372036854775807 →
  wv (l.take (lead digB l)) n=(match nmS l n k with | none=>none | some (n',_)=>if n' > 9223372036854775807 then none else some n')
 | [],n,k,h=>by simp only [nmS,lead,List.take_zero,wv]; rw [if_neg (by omega)]
 | c :: l,n,k,h=>by
  unfold lead nmS
  by_cases hg:digB c=true
  ·rw [if_pos hg,if_pos hg,List.take_succ_cons]
   have hdc:48≤c.toNat∧c.toNat≤57:=by unfold digB at hg; exact of_decide_eq_true hg
   unfold wv
   by_cases ho:10 * n+(c.toNat - 48) > 9223372036854775807
   ·rw [if_pos ho]
    by_cases hn:n > 922337203685477580
    ·rw [if_pos hn]
    ·rw [if_neg hn]
     cases hm:nmS l (10 * n+(c.toNat - 48)) (k+1) with
     | none=>rfl
     | some q =>
      obtain⟨n',k'⟩:=q
      have:=(nmS_mono _ _ _ _ _ hm).1
      simp only
      rw [if_pos (by omega)]
   ·rw [if_neg ho,if_neg (by omega)]
    exact wv_nmS l _ _ (by omega)
  ·rw [if_neg hg,if_neg hg]
   simp only [List.take_zero,wv]
   rw [if_neg (by omega)]
theorem lead_all {p:UInt8→Bool}:∀ (l:List UInt8) (c:UInt8),c ∈ l.take (lead p l)→p c=true
 | [],c,h=>by simp at h
 | x :: l,c,h=>by
  unfold lead at h
  by_cases hx:p x=true
  ·rw [if_pos hx,List.take_succ_cons,List.mem_cons] at h
   rcases h with rfl | h
   ·exact hx
   ·exact lead_all l c h
  ·rw [if_neg hx] at h; simp at h
theorem nbO_parts (s:yB) (a d e:Nat) (hd:d=a+lead digB (rest s a)) (he:e=if nbTy (rest s d)=1 then d else d+1) :
  nbO s a=(match wv ((rest s a).take (lead digB (rest s a))) 0 with | none=>none | some n=>if (d - a > 1∧hd0 (rest s a)=true) then none else if badH (rest s e)=true then none else some (n,e,nbTy (rest s d))):=by
 rw [wv_nmS (rest s a) 0 0 (by omega)]
 cases hm:nmS (rest s a) 0 0 with
 | none=>unfold nbO; rw [hm]
 | some q =>
  obtain⟨n,k⟩:=q
  obtain⟨_,hk⟩:=nmS_mono _ _ _ _ _ hm
  have hk2:d - a=k:=by omega
  rw [QZ (i:=d) (by rw [hm,hk2]) (by omega),← he]
  simp only
  by_cases hb:n > 9223372036854775807
  ·simp [hb]
  ·simp only [hb,false_or,if_false]
theorem typed_any (s:yB) (a:Nat) (hs:s.size≤140737488355328) (ha:a≤s.size) (w:yW) :
  Calls zG 185 #[.string s,zI a] w fun e w'=>e=.returned (.tuple #[zU (nbTy (rest s a)),zI ((if nbTy (rest s a)=1 then a else a+1:Nat):Int)])∧w'=w:=by
 by_cases hlt:a < s.size
 ·have hne:((a:Int) == (s.size:Int))=false:=beq_false_of_ne (by omega)
  have hlt':(a:Int) < (s.size:Int):=by omega
  have hr:=QQ s a hlt
  obtain⟨c,hc⟩:∃ c,s[a]=c:=⟨_,rfl⟩
  rw [hc] at hr
  rw [hr]
  have K:nbTy (c :: rest s (a+1))=if c.toNat=113 then 2 else if c.toNat=112 then 3 else if c.toNat=116 then 4 else 1:=rfl
  rw [K]
  clear K hr
  by_cases kt:c.toNat=116
  ·have xt:((c.toNat:Int) == 116)=true:=by rw [kt]; rfl
   rw [if_neg (by omega),if_neg (by omega),if_pos kt,if_neg (by decide)]
   go_enter Tryz.func185,Tryz.ntmps185
   go_wp2_with fail
   exact bodyPost_ret (by simp [results]) rfl ⟨rfl,rfl⟩
  ·have xt:((c.toNat:Int) == 116)=false:=beq_false_of_ne (by omega)
   by_cases kp:c.toNat=112
   ·have xp:((c.toNat:Int) == 112)=true:=by rw [kp]; rfl
    rw [if_neg (by omega),if_pos kp,if_neg (by decide)]
    go_enter Tryz.func185,Tryz.ntmps185
    go_wp2_with fail
    exact bodyPost_ret (by simp [results]) rfl ⟨rfl,rfl⟩
   ·have xp:((c.toNat:Int) == 112)=false:=beq_false_of_ne (by omega)
    by_cases kq:c.toNat=113
    ·have xq:((c.toNat:Int) == 113)=true:=by rw [kq]; rfl
     rw [if_pos kq,if_neg (by decide)]
     go_enter Tryz.func185,Tryz.ntmps185
     go_wp2_with fail
     exact bodyPost_ret (by simp [results]) rfl ⟨rfl,rfl⟩
    ·have xq:((c.toNat:Int) == 113)=false:=beq_false_of_ne (by omega)
     rw [if_neg kq,if_neg kp,if_neg kt,if_pos rfl]
     go_enter Tryz.func185,Tryz.ntmps185
     go_wp2_with fail
     exact bodyPost_ret (by simp [results]) rfl ⟨rfl,rfl⟩
 ·obtain rfl:a=s.size:=by omega
  rw [Jl s s.size (Nat.le_refl _)]
  show Calls zG 185 #[.string s,zI s.size] w fun e w'=>e=.returned (.tuple #[zU 1,zI (s.size:Int)])∧w'=w
  go_enter Tryz.func185,Tryz.ntmps185
  go_wp2_with fail
  exact bodyPost_ret (by simp [results]) rfl ⟨rfl,rfl⟩
theorem KV {P:Program}{fn:Func}{p u:Tmp}(h:fn.results=#[.tmp p,.tmp u]) (tmps:Array Value) (w:yW):(results fn tmps).run P w=.ok (.tuple #[tmps.getD p undef,tmps.getD u undef]) w:=by
 simp [results,h]
def wvN (o:Option Nat):Int:=match o with | none=>0 | some n=>n
theorem isPadded_any (x:yB) (hx:x.size≤140737488355328) (w:yW):Calls zG 187 #[.string x] w fun e w'=>e=.returned (.bool (decide (x.size > 1) && hd0 (rest x 0)))∧w'=w:=by
 by_cases h:x.size > 1
 ·have h':(1:Int) < (x.size:Int):=by omega
  have h0:0 < x.size:=by omega
  have h0':(0:Int) < (x.size:Int):=by omega
  have hr:=QQ x 0 h0
  obtain⟨c,hc⟩:∃ c,x[0]=c:=⟨_,rfl⟩
  rw [hc] at hr
  have K:Hid ((decide (x.size > 1) && hd0 (rest x 0))=((c.toNat:Int) == 48)):=by
   show _=_
   rw [decide_eq_true h,hr]
   show decide (c.toNat=48)=_
   by_cases hk:c.toNat=48
   ·rw [hk]; rfl
   ·rw [decide_eq_false hk,beq_false_of_ne (by omega)]
  clear hr
  go_enter Tryz.func187,Tryz.ntmps187
  go_wp2_with fail
  go_ret
  exact⟨retB (by rw [K.out]),rfl⟩
 ·have h':¬ (1:Int) < (x.size:Int):=by omega
  rw [decide_eq_false h]
  go_enter Tryz.func187,Tryz.ntmps187
  go_wp2_with fail
  go_ret
  exact⟨rfl,rfl⟩
theorem isGlued_any (s:yB) (a:Nat) (ha:a≤s.size) (w:yW):Calls zG 188 #[.string s,zI a] w fun e w'=>e=.returned (.bool (badH (rest s a)))∧w'=w:=by
 by_cases hlt:a < s.size
 ·have hne:((a:Int) == (s.size:Int))=false:=beq_false_of_ne (by omega)
  have hlt':(a:Int) < (s.size:Int):=by omega
  have hr:=QQ s a hlt
  obtain⟨c,hc⟩:∃ c,s[a]=c:=⟨_,rfl⟩
  rw [hc] at hr
  rw [hr]
  obtain⟨R,eR⟩:∃ R,badH (c :: rest s (a+1))=R:=⟨_,rfl⟩
  have K:Hid (R=(goB c || upB c)):=eR.symm
  rw [eR]
  clear hr eR
  cases b1:letB c
  ·by_cases u1:65≤c.toNat
   ·by_cases u2:c.toNat≤90
    ·have hu:upB c=true:=by unfold upB; exact decide_eq_true ⟨u1,u2⟩
     have KR:Hid (R=true):=by show _=_; rw [K.out,hu,Bool.or_true]
     have u1':(65:Int)≤(c.toNat:Int):=by omega
     have u2':(c.toNat:Int)≤90:=by omega
     clear K
     go_enter Tryz.func188,Tryz.ntmps188
     go_wp2_with (first | (go_at_call 169; refine (Q4 b1 _).mono ?_; rintro _ v ⟨rfl,e⟩; obtain rfl:=e.symm) | (go_at_call 171; refine (isDigit_any _ _).mono ?_; rintro _ v ⟨rfl,e⟩; obtain rfl:=e.symm))
     all_goals go_ret
     all_goals exact⟨retB (by rw [KR.out]),rfl⟩
    ·have hu:upB c=false:=by unfold upB; exact decide_eq_false (by omega)
     have b2:digB c=false:=by unfold digB; exact decide_eq_false (by omega)
     have KR:Hid (R=((c.toNat:Int) == 95)):=by
      show _=_
      rw [K.out,hu]
      unfold goB
      rw [b1,b2]
      by_cases h:c.toNat=95
      ·rw [h]; rfl
      ·rw [show ((c.toNat:Int) == 95)=false from beq_false_of_ne (by omega),decide_eq_false h]; rfl
     have u1':(65:Int)≤(c.toNat:Int):=by omega
     have u2':¬ (c.toNat:Int)≤90:=by omega
     clear K
     go_enter Tryz.func188,Tryz.ntmps188
     go_wp2_with (first | (go_at_call 169; refine (Q4 b1 _).mono ?_; rintro _ v ⟨rfl,e⟩; obtain rfl:=e.symm) | (go_at_call 171; refine (JP b2 _).mono ?_; rintro _ v ⟨rfl,e⟩; obtain rfl:=e.symm))
     all_goals go_ret
     all_goals exact⟨retB (by rw [KR.out,decide_eq_false (by omega)]; rfl),rfl⟩
   ·have hu:upB c=false:=by unfold upB; exact decide_eq_false (by omega)
    have u1':¬ (65:Int)≤(c.toNat:Int):=by omega
    cases b2:digB c
    ·have KR:Hid (R=false):=by
      show _=_
      rw [K.out,hu]
      unfold goB
      rw [b1,b2,decide_eq_false (by omega)]; rfl
     have x95:((c.toNat:Int) == 95)=false:=beq_false_of_ne (by omega)
     clear K
     go_enter Tryz.func188,Tryz.ntmps188
     go_wp2_with (first | (go_at_call 169; refine (Q4 b1 _).mono ?_; rintro _ v ⟨rfl,e⟩; obtain rfl:=e.symm) | (go_at_call 171; refine (JP b2 _).mono ?_; rintro _ v ⟨rfl,e⟩; obtain rfl:=e.symm))
     all_goals go_ret
     all_goals exact⟨retB (by rw [KR.out]),rfl⟩
    ·have KR:Hid (R=true):=by
      show _=_
      rw [K.out]
      unfold goB
      rw [b2]; simp
     clear K
     go_enter Tryz.func188,Tryz.ntmps188
     go_wp2_with (first | (go_at_call 169; refine (Q4 b1 _).mono ?_; rintro _ v ⟨rfl,e⟩; obtain rfl:=e.symm) | (go_at_call 171; refine (JP b2 _).mono ?_; rintro _ v ⟨rfl,e⟩; obtain rfl:=e.symm))
     all_goals go_ret
     all_goals exact⟨retB (by rw [KR.out]),rfl⟩
  ·have KR:Hid (R=true):=by
    show _=_
    rw [K.out]
    unfold goB
    rw [b1]; simp
   clear K
   go_enter Tryz.func188,Tryz.ntmps188
   go_wp2_with (go_at_call 169; refine (Q4 b1 _).mono ?_; rintro _ v ⟨rfl,e⟩; obtain rfl:=e.symm)
   all_goals go_ret
   all_goals exact⟨retB (by rw [KR.out]),rfl⟩
 ·obtain rfl:a=s.size:=by omega
  rw [Jl s s.size (Nat.le_refl _)]
  go_enter Tryz.func188,Tryz.ntmps188
  go_wp2_with fail
  go_ret
  exact⟨rfl,rfl⟩
theorem worth_any (x:yB) (hx:x.size≤140737488355328) (hd:∀ c ∈ rest x 0,digB c=true) (w:yW) :
  Calls zG 186 #[.string x] w fun e w'=>e=.returned (.tuple #[zI (wvN (wv (rest x 0) 0)),.bool (wv (rest x 0) 0).isSome])∧w'=w:=by
 obtain⟨o,ho⟩:∃ o,wv (rest x 0) 0=o:=⟨_,rfl⟩
 have HO:Hid (wv (rest x 0) 0=o):=ho
 have HD:Hid (∀ c ∈ rest x 0,digB c=true):=hd
 rw [ho]
 clear ho hd
 go_enter Tryz.func186,Tryz.ntmps186
 go_wp2_with fail
 go_loop [4,9] (fun t u=>∃ i n:Nat,i≤x.size∧u=zI i∧t=zI n∧n≤9223372036854775807∧Hid (wv (rest x i) n=o)) (fun _ u=>x.size - (intOf u).toNat)
 case atStart=>exact⟨0,0,by omega,rfl,rfl,by omega,HO⟩
 case round =>
  obtain⟨i,n,hi,rfl,rfl,hn,HR⟩:=hrel
  clear HO
  by_cases hlt:i < x.size
  ·have hlt':(i:Int) < (x.size:Int):=by omega
   have hr:=QQ x i hlt
   obtain⟨c,hc⟩:∃ c,x[i]=c:=⟨_,rfl⟩
   rw [hc] at hr
   have hdc:digB c=true:=by
    refine HD.out c ?_
    have:rest x i=(rest x 0).drop i:=by unfold rest; simp
    exact List.mem_of_mem_drop (i:=i) (by rw [← this,hr]; simp)
   obtain⟨k1,k2⟩:48≤c.toNat∧c.toNat≤57:=by unfold digB at hdc; exact of_decide_eq_true hdc
   obtain⟨g,hg⟩:∃ g:Nat,c.toNat=g+48:=⟨c.toNat - 48,by omega⟩
   have hgI:(c.toNat:Int) - 48=(g:Int):=by omega
   have K:Hid (wv (rest x i) n=if 10 * n+g > 9223372036854775807 then none else wv (rest x (i+1)) (10 * n+g)):=by
    show _=_
    rw [hr,wv,show c.toNat - 48=g by omega]
   have k1':(48:Int)≤(c.toNat:Int):=by omega
   have hg9:g≤9:=by omega
   clear hr hdc
   by_cases hb:10 * n+g > 9223372036854775807
   ·have hb':(9223372036854775807 - (g:Int)) / 10 < (n:Int):=by omega
    have KO:Hid (o=none):=by show _=_; rw [← HR.out,K.out,if_pos hb]
    clear K HR
    go_wp2_with fail
    exact bodyPost_ret (KV (p:=2) (u:=3) rfl _ _) rfl ⟨by rw [KO.out]; rfl,rfl⟩
   ·have hb':¬ (9223372036854775807 - (g:Int)) / 10 < (n:Int):=by omega
    have KO:Hid (wv (rest x (i+1)) (10 * n+g)=o):=by show _=_; rw [← HR.out,K.out,if_neg hb]
    clear K HR
    go_wp2_with fail
    exact⟨⟨i+1,10 * n+g,by omega,by go_num,by rw [show (n:Int) * 10+(g:Int)=((10 * n+g:Nat):Int) by omega],by omega,KO⟩,by simp only [intOf]; omega⟩
  ·obtain rfl:i=x.size:=by omega
   have hn':¬ (x.size:Int) < (x.size:Int):=by omega
   have KO:Hid (o=some n):=by show _=_; rw [← HR.out,Jl x x.size (Nat.le_refl _)]; rfl
   clear HR
   go_wp2_with fail
   exact bodyPost_ret (KV (p:=2) (u:=3) rfl _ _) rfl ⟨by rw [KO.out]; rfl,rfl⟩
def tkP (a:Nat):Tk:=⟨0,⟨#[]⟩,0,0,a⟩
def pnT (s:yB) (a:Nat):Tk:=if nmE s a=0 then nmT s a else tkP a
theorem wordp_any (s:yB) (a:Nat) (hs:s.size≤140737488355328) (ha:a≤s.size) (w:yW) (ht:Tab w) :
  Calls zG 170 #[.string s,zI a] w fun e w'=>e=.returned (.tuple #[.agg (tkA (pnT s a)),zI (nmE s a)])∧yD w w':=by
 obtain⟨d,hd⟩:∃ d,a+lead goB (rest s a)=d:=⟨_,rfl⟩
 have hd1:a≤d:=by omega
 have hd2:d≤s.size:=by have:=lead_le goB (rest s a); rw [Jj] at this; omega
 have HT:Hid (nmT s a=if d - a > 16 then tk0 else ⟨if isW (s.extract a d)=true then 1 else 2,s.extract a d,0,0,a⟩):=by show _=_; unfold nmT; rw [hd,show lead goB (rest s a)=d - a by omega]
 have HE:Hid (nmE s a=if d - a > 16 then 112 else 0):=by show _=_; unfold nmE; rw [show lead goB (rest s a)=d - a by omega]
 have HD:Hid (d=a+lead goB (rest s a)):=hd.symm
 have hS0:(w.alloc (.cells #[.string s] 9)).heap[w§]? = (zC #[.string s] 9):=Qd w _
 have hB0:=Ql w (.cells #[.string s] 9) (.cells (tkA tk0) 148)
 have hR0:TkH ((w.alloc (.cells #[.string s] 9)).alloc (.cells (tkA tk0) 148)) (w§+1) tk0:=by rw [← Qf w (.cells #[.string s] 9)]; exact Qd _ _
 have hS1:((w.alloc (.cells #[.string s] 9)).alloc (.cells (tkA tk0) 148)).heap[w§]? = (zC #[.string s] 9):=QI hS0 (by rw [Qf]; omega)
 have hz0:((w.alloc (.cells #[.string s] 9)).alloc (.cells (tkA tk0) 148))§=w§+2:=by rw [Qf,Qf]
 have hT0:=ht.on hB0
 obtain⟨W,eW⟩:∃ W,(w.alloc (.cells #[.string s] 9)).alloc (.cells (tkA tk0) 148)=W:=⟨_,rfl⟩
 rw [eW] at hB0 hR0 hS1 hz0 hT0
 have hc:=Qa hS1 0
 have HRR:=hR0.hid
 have HTab:=hT0.hid
 have HB:Hid (yD w W):=hB0
 have cR:=reachW_any s a w§ hs ha W hc d HD
 unfold tkA tk0 at eW
 dsimp only at eW
 clear hd ht hS0 hS1 hT0 hR0 hB0 HD
 go_enter Tryz.func170,Tryz.ntmps170
 go_wp2_with fail
 clear eW
 refine cR.mono ?_
 rintro _ v ⟨rfl,e⟩
 obtain rfl:=e.symm
 clear cR
 by_cases h16:d - a > 16
 ·have h16':(16:Int) < (d:Int) - (a:Int):=by omega
  have KE:Hid (nmE s a=112):=by show _=_; rw [HE.out,if_pos h16]
  have KT:Hid (pnT s a=tkP a):=by show _=_; unfold pnT; rw [KE.out,if_neg (by decide)]
  obtain⟨r0,r1,r2,r3,r4⟩:=HRR.out.cells
  obtain⟨f0,f1,f2,f3,f4⟩:=HRR.out.froz
  clear HT HE
  go_wp2_with fail
  exact bodyPost_ret (Qg (p:=4) (u:=5) (ty:=148) rfl _ _ (w§+1) 148 (tkA (tkP a)) (0,0) _ rfl (HRR.out.put (tkP a)) Tryz.underlying148 rfl zK) rfl ⟨by rw [KT.out,KE.out]; rfl,Qp HB.out (by omega) _ _ _ _ _⟩
 ·have h16':¬ (16:Int) < (d:Int) - (a:Int):=by omega
  have KE:Hid (nmE s a=0):=by show _=_; rw [HE.out,if_neg h16]
  obtain⟨x,ex⟩:∃ x,s.extract a d=x:=⟨_,rfl⟩
  have KT:Hid (pnT s a=⟨if isW x=true then 1 else 2,x,0,0,a⟩):=by show _=_; unfold pnT; rw [KE.out,if_pos rfl,HT.out,if_neg h16,ex]
  have hY:TkH (W.alloc (.cells (tkA ⟨2,x,0,0,a⟩) 148)) W§ ⟨2,x,0,0,a⟩:=Qd W _
  rw [hz0] at hY
  have hR:TkH (W.alloc (.cells (tkA ⟨2,x,0,0,a⟩) 148)) (w§+1) tk0:=QI HRR.out HRR.out.lt
  have hB2:=HB.out.alloc HB.out.size (.cells (tkA ⟨2,x,0,0,a⟩) 148)
  have hT2:=HTab.out.on (Qc W (.cells (tkA ⟨2,x,0,0,a⟩) 148))
  obtain⟨V,eV⟩:∃ V,W.alloc (.cells (tkA ⟨2,x,0,0,a⟩) 148)=V:=⟨_,rfl⟩
  rw [eV] at hY hR hB2 hT2
  have HY:=hY.hid
  have HR2:=hR.hid
  have HB2:Hid (yD w V):=hB2
  have cW:=wordP_any x V hT2
  unfold tkA at eV
  dsimp only at eV
  clear HT HE hY hR hB2 hT2
  obtain⟨z0,z1,z2,z3,z4⟩:=HY.out.cells
  go_wp2_with fail
  clear eV
  refine cW.mono ?_
  rintro _ v ⟨rfl,e⟩
  obtain rfl:=e.symm
  clear cW
  cases hw:isW x
  ·have KT2:Hid (pnT s a=⟨2,x,0,0,a⟩):=by show _=_; rw [KT.out,hw]; rfl
   obtain⟨r0,r1,r2,r3,r4⟩:=HR2.out.cells
   obtain⟨f0,f1,f2,f3,f4⟩:=HR2.out.froz
   clear KT
   go_wp2_with fail
   exact bodyPost_ret (Qg (p:=4) (u:=5) (ty:=148) rfl _ _ (w§+1) 148 (tkA ⟨2,x,0,0,a⟩) (0,0) _ rfl (HR2.out.put ⟨2,x,0,0,a⟩) Tryz.underlying148 rfl zK) rfl ⟨by rw [KT2.out,KE.out]; rfl,Qp HB2.out (by omega) _ _ _ _ _⟩
  ·have KT2:Hid (pnT s a=⟨1,x,0,0,a⟩):=by show _=_; rw [KT.out,hw]; rfl
   obtain⟨U,eU⟩:∃ U,V.setCell ⟨w§+2,0,none⟩ (zU 1)=U:=⟨_,rfl⟩
   have HY3:Hid (TkH U (w§+2) ⟨1,x,0,0,a⟩):=by show TkH U _ _; rw [← eU]; exact Qi _ HY.out
   have HR3:Hid (TkH U (w§+1) tk0):=by show TkH U _ _; rw [← eU]; exact (Below.heap_setCell _ _ _ _ (by simp)).trans HR2.out
   have hB4:yD w U:=by rw [← eU]; exact HB2.out.setCell (p:=⟨w§+2,0,none⟩) (by simp) _
   obtain⟨g0,g1,g2,g3,g4⟩:=HY.out.froz
   obtain⟨y0,y1,y2,y3,y4⟩:=HY3.out.cells
   obtain⟨r0,r1,r2,r3,r4⟩:=HR3.out.cells
   obtain⟨f0,f1,f2,f3,f4⟩:=HR3.out.froz
   clear KT
   go_wp2_with fail
   exact bodyPost_ret (Qg (p:=4) (u:=5) (ty:=148) rfl _ _ (w§+1) 148 (tkA ⟨1,x,0,0,a⟩) (0,0) _ rfl (HR3.out.put ⟨1,x,0,0,a⟩) Tryz.underlying148 rfl zK) rfl ⟨by rw [KT2.out,KE.out]; rfl,Qp hB4 (by omega) _ _ _ _ _⟩
end Go.Proofs.YtoogodlnnijikaaGreatDoor
