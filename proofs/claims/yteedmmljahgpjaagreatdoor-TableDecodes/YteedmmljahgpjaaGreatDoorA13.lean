import Derived.Test.YteedmmljahgpjaaGreatDoorA0
import Derived.Test.YteedmmljahgpjaaGreatDoorA12
import Derived.Defers
import Derived.Recover
import Derived.Laws.Pointers
namespace Go.Proofs.YteedmmljahgpjaaGreatDoor
set_option maxRecDepth 100000
set_option maxHeartbeats 4000000
open Go.RowKit
set_option linter.unusedVariables false
set_option linter.unusedSimpArgs false
def unR (b:ByteArray):Option TbP :=
 if W.unE b.data.toList 0=0 then (if W.unP b.data.toList 0 == (b.size:Int) then (Jo (W.unS b.data.toList 0) 0).bind fun r=>if r.2 == ((W.unS b.data.toList 0).length:Int) then some r.1 else none else none) else none
def Bxs (w w':World) (t:TbM) (nb:List Bx):Prop:=Keep nb (fun V=>TbL V t)∧∀ b ∈ nb,w'.heap[b.1]? = some (.cells b.2.2 b.2.1 (0,0))∧w§≤b.1
def OutB (w:World) (r:Option TbP) (e:Ending) (w':World):Prop :=
 match r with
 | some T=>∃ t nb,e=.returned (.agg t.vals)∧Is T t∧Bxs w w' t nb∧Below w§ w w'
 | none=>e=pan pf∧Below w§ w w'
theorem unS_le (b:ByteArray):(W.unS b.data.toList 0).length≤b.size:=by
 unfold W.unS W.textS
 rw [← W.len_of]
 repeat' split
 all_goals simp
 all_goals omega
theorem J8 (b:ByteArray) (w:World) (hs:b.size≤1099511627776):Calls zG 41 #[.string b] w fun e w'=>OutB w (unR b) e w':=by
 have cN:=Kd
 have cO:=Kc
 have hb0:=Bn w (.cells zA3 26)
 have hn0:=Hn w (.cells zA3 26)
 obtain⟨W1,e1⟩:∃ W,w.alloc (.cells zA3 26)=W:=⟨_,rfl⟩
 have E1:=zH e1
 rw [e1] at hb0 hn0
 have HB1:=zH hb0
 have HN1:=zH hn0
 obtain⟨RR,eRR⟩:∃ r,unR b=r:=⟨_,rfl⟩
 have H0:Hid (RR=unR b):=eRR.symm
 rw [eRR]
 have cU:=W.unframe_any b 0 hs W1
 have hbl:(b.size:Int)≤1099511627776:=by omega
 clear eRR hb0 hn0 e1
 go_enter Tryz.func41,Tryz.ntmps41
 go_upto_region 1 with fail
 rw [E1.out]
 clear E1
 go_wp2_with fail
 refine cU.mono ?_
 rintro e w2 ⟨rfl,hb2⟩
 have HB2:=zH (Qa HB1.out hb2)
 have HN2:Hid (w2.heap[w§]? = some (.cells zA3 26 (0,0))):=(hb2.block _ (Array.getElem?_eq_some_iff.1 HN1.out).1).trans HN1.out
 clear cU hb2 HB1 HN1
 obtain⟨L,eL⟩:∃ L,W.unS b.data.toList 0=L:=⟨_,rfl⟩
 obtain⟨P,eP⟩:∃ P,W.unP b.data.toList 0=P:=⟨_,rfl⟩
 obtain⟨E,eE⟩:∃ E:Int,((W.unE b.data.toList 0:Nat):Int)=E:=⟨_,rfl⟩
 have HLs:Hid (L.length≤1099511627776):=by show _≤_; rw [← eL]; exact Nat.le_trans (unS_le b) hs
 have H1:Hid (RR=if E == 0 then (if P == (b.size:Int) then (Jo L 0).bind fun r=>if r.2 == (L.length:Int) then some r.1 else none else none) else none):=by
  show _=_
  rw [H0.out]
  unfold unR
  rw [eL,eP,← eE]
  by_cases h:W.unE b.data.toList 0=0
  ·have h':((W.unE b.data.toList 0:Nat):Int)=0:=by omega
   rw [if_pos h,h']; rfl
  ·rw [if_neg h,if_neg (by simp; omega)]
 rw [eL,eP,eE]
 clear eL eP eE H0
 cases hE:(E == 0) with
 | false =>
  have HN:Hid (RR=none):=by show _=_; rw [H1.out,if_neg (by simp [hE])]
  go_wp2_with fail
  refine (cN _).mono ?_
  rintro e w3 ⟨rfl,rfl⟩
  exact⟨rfl,by rw [HN.out]; exact⟨rfl,HB2.out⟩⟩
 | true =>
  cases hP:(P == (b.size:Int)) with
  | false =>
   have HN:Hid (RR=none):=by show _=_; rw [H1.out,if_pos hE,if_neg (by simp [hP])]
   go_wp2_with fail
   refine (cN _).mono ?_
   rintro e w3 ⟨rfl,rfl⟩
   exact⟨rfl,by rw [HN.out]; exact⟨rfl,HB2.out⟩⟩
  | true =>
   have H2:Hid (RR=(Jo L 0).bind fun r=>if r.2 == (L.length:Int) then some r.1 else none):=by show _=_; rw [H1.out,if_pos hE,if_pos hP]
   clear H1
   go_wp2_with fail
   refine (cO _).mono ?_
   rintro e w3 ⟨rfl,rfl⟩
   have HB3:=Bn w3 (.cells (rdA q00 (W.bytes L) 0) 148)
   have HRD:Hid (Rd w w3§ (w3.alloc (.cells (rdA q00 (W.bytes L) 0) 148)) w3§ [(w§,26,zA3)] q00 (W.bytes L) 0):=⟨Hn _ _,Qa HB2.out HB3,HB2.out.size,fun b hb=>by
    rw [List.mem_singleton.1 hb]
    have:=(Array.getElem?_eq_some_iff.1 HN2.out).1
    exact⟨(HB3.block _ this).trans HN2.out,Nat.ne_of_lt this⟩,fun b hb=>by rw [List.mem_singleton.1 hb]; exact Nat.le_refl _,by rw [Sa]; omega⟩
   have hLL:(W.bytes L).data.toList=L:=by simp [W.bytes]
   have hLZ:(W.bytes L).size=L.length:=by rw [← W.len_of,hLL]
   have cR:=read_any w3§ [(w§,26,zA3)] (W.bytes L) 0 (w3.alloc (.cells (rdA q00 (W.bytes L) 0) 148)) w HRD.out (by rw [hLZ]; exact HLs.out)
   rw [hLL] at cR
   clear HB3 HRD hLL
   go_wp2_with fail
   refine cR.mono ?_
   intro e w4 ho
   clear cR
   cases hr:Jo L 0 with
   | none =>
    rw [hr] at ho
    have HN:Hid (RR=none):=by show _=_; rw [H2.out,hr]; rfl
    obtain⟨rfl,hb⟩:=ho
    exact⟨rfl,by rw [HN.out]; exact⟨rfl,hb⟩⟩
   | some Tp =>
    obtain⟨T,p4⟩:=Tp
    rw [hr] at ho
    obtain⟨t,q,nb,rfl,hIs,hIT,hKp,hF4,hR4⟩:=ho
    have HF4:=zH hF4
    have x8:w4.cell? ⟨w3§,8,none⟩=some (zI p4):=Co hR4.H 8
    have HIT:Hid (IsT q t∧Is T t∧Keep nb (fun V=>TbL V t)):=⟨hIT,hIs,hKp⟩
    have HR4:=zH hR4
    clear hIs hIT hKp hR4 hF4
    cases hp:(p4 == (L.length:Int)) with
    | false =>
     have HN:Hid (RR=none):=by show _=_; rw [H2.out,hr]; show (if p4 == (L.length:Int) then _ else _)=_; rw [if_neg (by simp [hp])]
     have HB4:=zH HR4.out.B
     go_wp2_with fail
     refine (cN _).mono ?_
     rintro e w5 ⟨rfl,rfl⟩
     exact⟨rfl,by rw [HN.out]; exact⟨rfl,HB4.out⟩⟩
    | true =>
     have HN:Hid (RR=some T):=by show _=_; rw [H2.out,hr]; show (if p4 == (L.length:Int) then _ else _)=_; rw [if_pos hp]
     obtain⟨y0,y1,y2,y3,y4,y5⟩:=HIT.out.1
     have z0:w4.cell? ⟨w3§,0,none⟩=some (.string t.x):=(Co HR4.out.H 0).trans (congrArg some y0)
     have z1:w4.cell? ⟨w3§,1,none⟩=some (.slice t.ra t.rs.length t.rc):=(Co HR4.out.H 1).trans (congrArg some y1)
     have z2:w4.cell? ⟨w3§,2,none⟩=some (zI t.sl):=(Co HR4.out.H 2).trans (congrArg some y2)
     have z3:w4.cell? ⟨w3§,3,none⟩=some (.slice t.ca t.cs.length t.cc):=(Co HR4.out.H 3).trans (congrArg some y3)
     have z4:w4.cell? ⟨w3§,4,none⟩=some (.slice t.da t.ds.length t.dc):=(Co HR4.out.H 4).trans (congrArg some y4)
     have z5:w4.cell? ⟨w3§,5,none⟩=some (.slice t.ta t.ts.length t.tc):=(Co HR4.out.H 5).trans (congrArg some y5)
     have HN4:=zH ((HR4.out.K (w§,26,zA3) (by simp)).1)
     have HTL:Hid (Bxs w (w4.setRow w§ t.vals) t nb):=⟨HIT.out.2.2,fun bx hbx=>by
      have h1:=HF4.out bx hbx
      have h2:=(Array.getElem?_eq_some_iff.1 HN2.out).1
      exact⟨(setRow_other _ _ _ _ (by omega)).trans (HR4.out.K bx (by simp [hbx])).1,by omega⟩⟩
     have HBS:Hid (Below w§ w (w4.setRow w§ t.vals)):=Qc HR4.out.B (Nat.le_refl _) _
     have HNS:Hid ((w4.setRow w§ t.vals).heap[w§]? = some (.cells t.vals 26 (0,0))):=setRow_heap _ _ _ _ _ _ HN4.out
     clear y0 y1 y2 y3 y4 y5
     go_wp2_with fail
     refine (cO _).mono ?_
     rintro e w5 ⟨rfl,rfl⟩
     go_wp2_with (refine wpList_store_row rfl 26 (.tmp 2) (.tmp 39) rfl w§ t.vals rfl rfl 26 zA3 HN4.out Qe rfl (JN _) ?_)
     refine bodyPost_ret (results_cell_row rfl _ _ w§ 26 t.vals (0,0) _ rfl HNS.out Tryz.underlying26 rfl Qe) rfl ?_
     rw [HN.out]
     exact⟨t,nb,rfl,HIT.out.2.1,HTL.out,HBS.out⟩
def tb0:Array Value:=#[.string ⟨#[]⟩,.slice none 0 0,zI 0,.slice none 0 0,.slice none 0 0,.slice none 0 0]
theorem Q6:tb0.all (·.oneCell')=true:=by simp [tb0,Value.oneCell']
theorem assert_hit (v:Value) (w:World):(Instr.typeAssert (.iface 94 v) 20 94 true).run Tryz.prog w=.ok (.tuple #[v,.bool true]) w:=by
 simp [Instr.typeAssert,run_underlying Tryz.underlying94,go_sem,Result.andThen]
theorem assert_nil (w:World):(Instr.typeAssert .nilIface 20 94 true).run Tryz.prog w=.ok (.tuple #[.agg #[],.bool false]) w:=by
 simp [Instr.typeAssert,run_underlying Tryz.underlying94,go_sem,Result.andThen]
theorem catch40_i (p q:Addr) (w:World) :
  CallsD Tryz.prog 40 #[.pointer (some p),.pointer (some q)] .returning w fun e u' w'=>e=.returned (.tuple #[])∧u'=.returning∧w'=w.alloc (.cells #[] 94):=by
 refine callsD_of_wpS Tryz.func40 rfl fun c₀ cs hu=>?_
 apply wpS_seq
 apply wpS_region
 simp [wpOpsS,go_sem,recoverD,hu,Tryz.ntmps40,assert_nil,Result.andThen,Exit.thenS]
 simp only [Array.replicate_succ,Array.replicate_zero,List.push_toArray,List.append_toArray,List.nil_append,List.cons_append,List.setIfInBounds_toArray,List.set_cons_zero,List.set_cons_succ]
 refine wpS_of_wp ?_
 go_wp2_with fail
 cases c₀
 simp_all [bodyPostS,results,Tryz.results40]
theorem catch40_p (g1 g2:Nat) (cs1:Array Value) (y:Value) (older:List PanicEntry) (w:World) (hp:w.heap[g1]? = some (.cells cs1 26 (0,0))) (hc:cs1.size=6) (hq:w.heap[g2]? = some (.cells #[y] 30 (0,0))) (hne:g1≠g2) :
  CallsD Tryz.prog 40 #[zP g1,zP g2] (.panicking ({ v:=pf,recovered:=false } :: older)) w fun e u' w' =>
   e=.returned (.tuple #[])∧u'=.panicking ({ v:=pf,recovered:=true } :: older)∧w'=((w.alloc (.cells #[] 94)).setRow g1 tb0).setCell ⟨g2,0,none⟩ (zI 194):=by
 have lp:=(Array.getElem?_eq_some_iff.1 hp).1
 have lq:=(Array.getElem?_eq_some_iff.1 hq).1
 have b1:=Bn w (.cells #[] 94)
 have HP1:Hid ((w.alloc (.cells #[] 94)).heap[g1]? = some (.cells cs1 26 (0,0))):=(b1.block _ lp).trans hp
 have hq1:((w.alloc (.cells #[] 94)).setRow g1 tb0).heap[g2]? = some (.cells #[y] 30 (0,0)):=(setRow_other _ _ _ _ (Ne.symm hne)).trans ((b1.block _ lq).trans hq)
 have c1:((w.alloc (.cells #[] 94)).setRow g1 tb0).cell? ⟨g2,0,none⟩=some y:=Co hq1 0
 have f1:=Fo hq1 0
 clear hq1 b1 lp lq hp hq
 refine callsD_of_wpS Tryz.func40 rfl fun c₀ cs hu=>?_
 apply wpS_seq
 apply wpS_region
 unfold pf at hu ⊢
 simp [wpOpsS,go_sem,recoverD,hu,Tryz.ntmps40,assert_hit,Result.andThen,Exit.thenS]
 simp only [Array.replicate_succ,Array.replicate_zero,List.push_toArray,List.append_toArray,List.nil_append,List.cons_append,List.setIfInBounds_toArray,List.set_cons_zero,List.set_cons_succ]
 refine wpS_of_wp ?_
 go_wp2_with (refine wpList_store_row rfl 26 (.tmp 0) (.tmp 10) rfl g1 tb0 rfl rfl 26 cs1 HP1.out Qe (by rw [hc]; rfl) Q6 ?_)
 cases c₀
 simp_all [bodyPostS,results,Tryz.results40]
def OutD (w:World) (r:Option TbP) (e:Ending) (w':World):Prop :=
 match r with
 | some T=>∃ t nb,Is T t∧(if Qp t == 0 then e=.returned (.tuple #[.agg t.vals,zI 0])∧Bxs w w' t nb else e=.returned (.tuple #[.agg tb0,zI 194]))∧Below w§ w w'
 | none=>e=.returned (.tuple #[.agg tb0,zI 194])∧Below w§ w w'
theorem res18 {Z:World}{g1 g2:Nat}{v0 v1 v2 v3 v4 v5:Value}{n:Int}{tmps:Array Value}(h1:Z.heap[g1]? = some (.cells #[v0,v1,v2,v3,v4,v5] 26 (0,0))) (h2:Z.heap[g2]? = some (.cells #[zI n] 30 (0,0))) (ht2:tmps[2]?.getD undef=zP g1) (ht3:tmps[3]?.getD undef=zP g2) :
  (results Tryz.f18 tmps).run Tryz.prog Z=.ok (.tuple #[.agg #[v0,v1,v2,v3,v4,v5],zI n]) Z:=by
 have z0:Z.cell? ⟨g2,0,none⟩=some (zI n):=Co h2 0
 obtain⟨c0,c1,c2,c3,c4,c5⟩:=cl6 h1
 clear h1 h2
 simp [results,Tryz.results18,go_sem,ht2,ht3,z0,c0,c1,c2,c3,c4,c5]
theorem caught18 {w V':World}{cs:Array Value}{y:Value}(hB:Below w§ w V') (g1:V'.heap[w§]? = some (.cells cs 26 (0,0))) (hc:cs.size=6) (g2:V'.heap[w§+1]? = some (.cells #[y] 30 (0,0))) (Y:World)
  (eY:Y=((V'.alloc (.cells #[] 94)).setRow w§ tb0).setCell ⟨w§+1,0,none⟩ (zI 194)) :
  (∀ tmps:Array Value,tmps[2]?.getD undef=zP w§→tmps[3]?.getD undef=.pointer (some ⟨w§+1,0,none⟩)→(results Tryz.f18 tmps).run Tryz.prog Y=.ok (.tuple #[.agg tb0,zI 194]) Y)∧Below w§ w Y:=by
 have b1:=Bn V' (.cells #[] 94)
 have l1:=(Array.getElem?_eq_some_iff.1 g1).1
 have l2:=(Array.getElem?_eq_some_iff.1 g2).1
 have y1:Y.heap[w§]? = some (.cells tb0 26 (0,0)):=by
  rw [eY]
  exact (heap_setCell_other _ _ _ _ (by show w§≠w§+1; omega)).trans (setRow_heap _ _ _ _ _ _ ((b1.block _ l1).trans g1))
 have y2:Y.heap[w§+1]? = some (.cells #[zI 194] 30 (0,0)):=by
  rw [eY]
  exact Hs0 (j:=0) _ ((setRow_other _ _ _ _ (by omega)).trans ((b1.block _ l2).trans g2))
 refine⟨fun tmps ht2 ht3=>res18 y1 y2 ht2 ht3,?_⟩
 rw [eY]
 exact (Qc (Qa hB b1) (Nat.le_refl _) _).setCell (by show w§≤w§+1; omega) _
theorem Kh (b:ByteArray) (w:World) (hs:b.size≤1099511627776) (htb:Tab w):Calls zG 18 #[.string b] w fun e w'=>OutD w (unR b) e w':=by
 have hmf:∀ (fn:Fn) (first cap:Array Value) (w:World),(Instr.makeFunc fn first cap).run Tryz.prog w=.ok (.func fn first cap) w:=fun _ _ _ _=>rfl
 have cN:=Kd
 have cO:=Kc
 obtain⟨W2,eW2⟩:∃ W,(w.alloc (.cells zA3 26)).alloc (.cells #[zI 0] 30)=W:=⟨_,rfl⟩
 have HW2:=zH eW2
 have b0:=Bn w (.cells zA3 26)
 have b1:=Bn (w.alloc (.cells zA3 26)) (.cells #[zI 0] 30)
 have n0:=Hn w (.cells zA3 26)
 have n1:=Hn (w.alloc (.cells zA3 26)) (.cells #[zI 0] 30)
 have s0:=Sa w (.cells zA3 26)
 rw [eW2] at b1 n1
 rw [s0] at n1
 have HB2:=zH (Qa b0 b1)
 have H1:Hid (W2.heap[w§]? = some (.cells tb0 26 (0,0))):=(b1.block _ (by omega)).trans n0
 have H2:=zH n1
 have cU:=J8 b W2 hs
 obtain⟨RR,eRR⟩:∃ r,unR b=r:=⟨_,rfl⟩
 rw [eRR] at cU ⊢
 have HTB:Hid (Tab w):=htb
 clear eW2 b0 b1 n0 n1 s0 eRR htb
 cases RR with
 | none =>
  replace cU:Calls zG 41 #[.string b] W2 (fun e w'=>e=pan pf∧Below W2§ W2 w'):=cU
  go_enter_defers Tryz.func18,Tryz.ntmps18
  go_wp2_with fail
  try rw [HW2.out]
  refine cU.mono ?_
  rintro e w3 ⟨rfl,hb3⟩
  have g1:=(hb3.block _ (Array.getElem?_eq_some_iff.1 H1.out).1).trans H1.out
  have g2:=(hb3.block _ (Array.getElem?_eq_some_iff.1 H2.out).1).trans H2.out
  refine leaves_cons (f:=40) (args:=#[zP w§,.pointer (some ⟨w§+1,0,none⟩)]) (by simp) (by simp [go_sem]) ?_
  refine (catch40_p _ _ tb0 _ [] w3 g1 rfl g2 (by omega)).mono ?_
  rintro e u' Z ⟨rfl,rfl,eZ⟩
  obtain⟨q1,q2⟩:=caught18 (Qa HB2.out hb3) g1 rfl g2 Z eZ
  exact⟨_,q1 _ rfl rfl,rfl,q2⟩
 | some T =>
  go_enter_defers Tryz.func18,Tryz.ntmps18
  go_wp2_with fail
  try rw [HW2.out]
  refine cU.mono ?_
  rintro e w3 ⟨t,nb,rfl,hIs,hTL,hb3⟩
  have g1:=(hb3.block _ (Array.getElem?_eq_some_iff.1 H1.out).1).trans H1.out
  have g2:=(hb3.block _ (Array.getElem?_eq_some_iff.1 H2.out).1).trans H2.out
  have HN3:=zH g1
  have HB3:=zH (Qa HB2.out hb3)
  have HNS:Hid ((w3.setRow w§ t.vals).heap[w§]? = some (.cells t.vals 26 (0,0))):=setRow_heap _ _ _ _ _ _ HN3.out
  have HGS:Hid ((w3.setRow w§ t.vals).heap[w§+1]? = some (.cells #[zI 0] 30 (0,0))):=(setRow_other _ _ _ _ (by omega)).trans g2
  have HBS:Hid (Below w§ w (w3.setRow w§ t.vals)):=Qc HB3.out (Nat.le_refl _) _
  have hW2:w§+2≤W2§:=(Array.getElem?_eq_some_iff.1 H2.out).1
  have HBX:Hid (Keep nb (fun V=>TbL V t)∧∀ b ∈ nb,(w3.setRow w§ t.vals).heap[b.1]? = some (.cells b.2.2 b.2.1 (0,0))∧w§+2≤b.1):=⟨hTL.1,fun b hb=>⟨(setRow_other _ _ _ _ (by have:=(hTL.2 b hb).2; omega)).trans (hTL.2 b hb).1,by have:=(hTL.2 b hb).2; omega⟩⟩
  have HTS:Hid (TbL (w3.setRow w§ t.vals) t):=hTL.1 _ fun b hb=>(HBX.out.2 b hb).1
  have HIS:Hid (Is T t):=hIs
  clear cU hb3 g1 g2 hIs hTL hW2
  go_upto_region 3 with (refine wpList_store_row rfl 26 (.tmp 2) (.tmp 6) rfl w§ t.vals rfl rfl 26 tb0 HN3.out Qe rfl (JN _) ?_)
  generalize w3.setRow w§ t.vals=W4 at HNS HGS HBS HTS HBX ⊢
  clear HN3 HB3
  have cC:=Q5 t W4 HTS.out (HTB.out.on HBS.out)
  go_wp2_with (refine wpList_load_row rfl 26 (.tmp 2) rfl w§ rfl 26 t.vals (0,0) _ HNS.out Tryz.underlying26 rfl Qe ?_)
  refine cC.mono ?_
  rintro e w5 ⟨rfl,hb5⟩
  have HN5:Hid (w5.heap[w§]? = some (.cells t.vals 26 (0,0))):=(hb5.block _ (Array.getElem?_eq_some_iff.1 HNS.out).1).trans HNS.out
  have HG5:Hid (w5.heap[w§+1]? = some (.cells #[zI 0] 30 (0,0))):=(hb5.block _ (Array.getElem?_eq_some_iff.1 HGS.out).1).trans HGS.out
  have HB5:=zH (Qa HBS.out hb5)
  have HB6:Hid (Keep nb (fun V=>TbL V t)∧∀ b ∈ nb,w5.heap[b.1]? = some (.cells b.2.2 b.2.1 (0,0))∧w§+2≤b.1):=⟨HBX.out.1,fun b hb=>⟨(hb5.block _ (Array.getElem?_eq_some_iff.1 (HBX.out.2 b hb).1).1).trans (HBX.out.2 b hb).1,(HBX.out.2 b hb).2⟩⟩
  clear cC hb5 HNS HGS HBS HTS HBX
  obtain⟨CE,eCE⟩:∃ q,Qp t=q:=⟨_,rfl⟩
  have HCE:Hid (Qp t=CE):=eCE
  rw [eCE]
  clear eCE
  cases hz:(CE == 0) with
  | false =>
   go_wp2_with fail
   refine (cN _).mono ?_
   rintro e w6 ⟨rfl,rfl⟩
   refine leaves_cons (f:=40) (args:=#[zP w§,.pointer (some ⟨w§+1,0,none⟩)]) (by simp) (by simp [go_sem]) ?_
   refine (catch40_p _ _ t.vals _ [] w6 HN5.out rfl HG5.out (by omega)).mono ?_
   rintro e u' Z ⟨rfl,rfl,eZ⟩
   obtain⟨q1,q2⟩:=caught18 HB5.out HN5.out rfl HG5.out Z eZ
   exact⟨_,q1 _ rfl rfl,t,nb,HIS.out,by rw [HCE.out,if_neg (by simp [hz])],q2⟩
  | true =>
   go_wp2_with fail
   refine (cO _).mono ?_
   rintro e w6 ⟨rfl,rfl⟩
   have hg6:(w6.setRow w§ t.vals).heap[w§+1]? = some (.cells #[zI 0] 30 (0,0)):=(setRow_other _ _ _ _ (by omega)).trans HG5.out
   have z0:(w6.setRow w§ t.vals).cell? ⟨w§+1,0,none⟩=some (zI 0):=Co hg6 0
   have f0:=Fo hg6 0
   have HG6:=zH hg6
   clear hg6
   go_wp2_with (first | (refine wpList_load_row rfl 26 (.tmp 2) rfl w§ rfl 26 t.vals (0,0) _ HN5.out Tryz.underlying26 rfl Qe ?_) | (refine wpList_store_row rfl 26 (.tmp 2) (.tmp 11) rfl w§ t.vals rfl rfl 26 t.vals HN5.out Qe rfl (JN _) ?_))
   refine leaves_cons (f:=40) (args:=#[zP w§,.pointer (some ⟨w§+1,0,none⟩)]) (by simp) (by simp [go_sem]) ?_
   refine (catch40_i ⟨w§,0,none⟩ ⟨w§+1,0,none⟩ _).mono ?_
   rintro e u' Z ⟨rfl,rfl,eZ⟩
   have hn6:(w6.setRow w§ t.vals).heap[w§]? = some (.cells t.vals 26 (0,0)):=setRow_heap _ _ _ _ _ _ HN5.out
   have hn7:((w6.setRow w§ t.vals).setCell ⟨w§+1,0,none⟩ (zI 0)).heap[w§]? = some (.cells t.vals 26 (0,0)):=(heap_setCell_other _ _ _ _ (by show w§≠w§+1; omega)).trans hn6
   have hg7:((w6.setRow w§ t.vals).setCell ⟨w§+1,0,none⟩ (zI 0)).heap[w§+1]? = some (.cells #[zI 0] 30 (0,0)):=Hs0 (j:=0) _ HG6.out
   have hb7:Below w§ w ((w6.setRow w§ t.vals).setCell ⟨w§+1,0,none⟩ (zI 0)):=(Qc HB5.out (Nat.le_refl _) _).setCell (by show w§≤w§+1; omega) _
   have b9:=Bn ((w6.setRow w§ t.vals).setCell ⟨w§+1,0,none⟩ (zI 0)) (.cells #[] 94)
   rw [← eZ] at b9
   have z1:=(b9.block _ (Array.getElem?_eq_some_iff.1 hn7).1).trans hn7
   have z2:=(b9.block _ (Array.getElem?_eq_some_iff.1 hg7).1).trans hg7
   refine⟨_,res18 (v0:=.string t.x) z1 z2 rfl rfl,t,nb,HIS.out,?_,Qa hb7 b9⟩
   rw [HCE.out,if_pos hz]
   refine⟨rfl,HB6.out.1,fun bx hbx=>?_⟩
   obtain⟨h1,h2⟩:=HB6.out.2 bx hbx
   have h3:((w6.setRow w§ t.vals).setCell ⟨w§+1,0,none⟩ (zI 0)).heap[bx.1]? = some (.cells bx.2.2 bx.2.1 (0,0)):=(heap_setCell_other _ _ _ _ (by show bx.1≠w§+1; omega)).trans ((setRow_other _ _ _ _ (by omega)).trans h1)
   exact⟨(b9.block _ (Array.getElem?_eq_some_iff.1 h3).1).trans h3,by omega⟩
end Go.Proofs.YteedmmljahgpjaaGreatDoor
