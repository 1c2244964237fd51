import Derived.Test.YteedmmljahgpjaaGreatDoorA0
import Derived.Test.YteedmmljahgpjaaGreatDoorA13
namespace Go.Proofs.YteedmmljahgpjaaGreatDoor
namespace O
set_option maxRecDepth 100000
set_option maxHeartbeats 4000000
open Go.RowKit
set_option linter.unusedVariables false
set_option linter.unusedSimpArgs false
def OwR (V:World) (e sz:Nat) (a:Option Addr) (n:Nat) (xs:List (Array Value)):Prop :=
 (a=none∧n=0)∨∃ g cur,a=some ⟨g,0,none⟩∧V.heap[g]? = some (.cells cur e (0,0))∧n≤maxLen∧n * sz≤cur.size∧cur.toList.take (n * sz)=(xs.map Array.toList).flatten
def Hd (a:Option Addr) (nb:List Bx):Prop:=∀ g,a=some ⟨g,0,none⟩→∃ b ∈ nb,b.1=g
inductive Rels {α:Type}(Rel:α→Array Value→List Bx→Prop):List α→List (Array Value)→List Bx→Prop
 | nil:Rels Rel [] [] []
 | snoc {al:List α}{xs:List (Array Value)}{nbs:List Bx}{a:α}{x:Array Value}{nb:List Bx}:Rels Rel al xs nbs→Rel a x nb→(∀ b ∈ nb,∀ b' ∈ nbs,b'.1 < b.1)→Rels Rel (al ++ [a]) (xs ++ [x]) (nb ++ nbs)
theorem Rels.len {α:Type}{Rel:α→Array Value→List Bx→Prop}{al:List α}{xs:List (Array Value)}{nbs:List Bx}(h:Rels Rel al xs nbs):al.length=xs.length:=by
 induction h with
 | nil=>rfl
 | snoc _ _ _ ih=>simp [ih]
def OutL {α:Type}(w0:World) (mz:Nat) (R:Nat) (bs:List Bx) (s:ByteArray) (Rel:α→Array Value→List Bx→Prop) (ty sz n B:Nat) (r:Option (List α × RS × Int)) (e:Ending) (w':World):Prop :=
 match r with
 | some (al,q,p)=>∃ a xs nb nbs,e=.returned (.slice a n n)∧Rels Rel al xs nbs∧xs.length=n∧Keep nb (fun V=>SlAt V sz a n xs)∧Rd w0 mz w' R (nb ++ (nbs ++ bs)) q s p∧(∀ b ∈ nb ++ nbs,B≤b.1)∧B≤w'§∧Keep nb (fun V=>OwR V ty sz a n xs)∧Hd a nb
 | none=>e=pan pf∧Below w0§ w0 w'
theorem Kt {mz:Nat}{α:Type}(st:RS→Int→Option (α × RS × Int)) (Rel:α→Array Value→List Bx→Prop) (mk:Array Value→Value) (Iq:Nat→RS→Prop) (R n:Nat) (bs:List Bx) (q:RS) (s:ByteArray) (p:Int) (w:World) (w0:World) (h:Rd w0 mz w R bs q s p) (hn:n≤100000) (hq0:Iq 0 q) (hmk:∀ a x nb,Rel a x nb→(mk x).cells=x) (hrel:∀ a x nb,Rel a x nb→x.size=1∧x.all (·.oneCell')=true) (hiq:∀ i q p a q' p',i < n→Iq i q→st q p=some (a,q',p')→Iq (i+1) q') (hst:∀ i V bs1 q p,i < n→Iq i q→(∀ b ∈ bs,b ∈ bs1)→Rd w0 V§ V R bs1 q s p→Calls zG 112 #[zP R] V (OutS w0 V§ R bs1 s Rel mk V§ (st q p))):Calls zG 110 #[zI n,.func (.func 112) #[zP R] #[]] w fun e w'=>OutL w0 mz R bs s Rel 2 1 n w§ (Qd st n q p) e w':=by
 have HMK:Hid (∀ a x nb,Rel a x nb→(mk x).cells=x):=hmk
 have HRL:Hid (∀ a x nb,Rel a x nb→x.size=1∧x.all (·.oneCell')=true):=hrel
 have HIQ:Hid (∀ i q p a q' p',i < n→Iq i q→st q p=some (a,q',p')→Iq (i+1) q'):=hiq
 have HST:Hid (∀ i V bs1 q p,i < n→Iq i q→(∀ b ∈ bs,b ∈ bs1)→Rd w0 V§ V R bs1 q s p→Calls zG 112 #[zP R] V (OutS w0 V§ R bs1 s Rel mk V§ (st q p))):=hst
 obtain⟨T,eT⟩:∃ T,Qd st n q p=T:=⟨_,rfl⟩
 rw [eT]
 have HT0:Hid (T=(Qd st (n - 0) q p).map fun r=>(([]:List α) ++ r.1,r.2)):=by
  show _=_
  rw [← eT,Nat.sub_zero]
  cases Qd st n q p with
  | none=>rfl
  | some r=>rfl
 have HW:Hid (w0§≤w§):=h.B.size
 have HMZ:Hid (mz≤w§):=h.M
 have HO0 : Hid (OwnK w0 w ((R, 148, rdA q s p) :: ([] ++ bs)) 2 1 (.slice none 0 0) []) := h.own ⟨by simp, .inl ⟨rfl, rfl⟩⟩ (by simp) (by simp [Value.ownBlock]) (by simp [Value.ownBlock])
 have HNR:Hid (∀ b ∈ bs,b.1≠R):=fun b hb=>(h.K b hb).2
 have hnm:(n:Int)≤9223372036854775807:=by omega
 have HI0:Hid (Iq 0 q):=hq0
 clear eT h hq0 hst hiq hrel hmk
 go_enter Tryz.func110,Tryz.ntmps110
 go_wp2_with fail
 go_loopw [5,7] (fun fv t wr=>∃ (i:Nat) (v:Value) (q:RS) (p:Int) (al:List α) (xs:List (Array Value)) (nbs:List Bx),i≤n∧fv=v∧t=zI i∧xs.length=i∧Hid (OwnK w0 wr ((R,148,rdA q s p) :: (nbs ++ bs)) 2 1 v xs)∧Hid (∀ b ∈ nbs ++ bs,b.1≠R)∧Hid (Rels Rel al xs nbs)∧Hid (Iq i q)∧Hid (T=(Qd st (n - i) q p).map fun r=>(al ++ r.1,r.2))∧Hid ((i=0→v=.slice none 0 0)∧(∀ b ∈ nbs,w§≤b.1)∧(∀ g,v.ownBlock=some g→w§≤g)∧w§≤wr§)) (fun _ t _=>n - (intOf t).toNat)
 case atStart=>exact⟨0,_,q,p,[],[],[],by omega,rfl,rfl,rfl,HO0,HNR,Rels.nil,HI0,HT0,fun _=>rfl,by simp,by simp [Value.ownBlock],Nat.le_refl _⟩
 case round =>
  obtain⟨i,v,q,p,al,xs,nbs,hi,rfl,rfl,hxl,HOR,HNN,HRS,HIR,HTR,HVR⟩:=hrel
  by_cases hlt:i < n
  ·have hlt':(i:Int) < (n:Int):=by omega
   have hmx:(i:Int)+1≤9223372036854775807:=by omega
   have HRD:=QW (mz:=wr§) HOR.out HNN.out (Nat.le_refl _)
   have cS:=HST.out i wr _ q p hlt HIR.out (fun b hb=>by simp [hb]) HRD
   have hni:n - i=(n - (i+1))+1:=by omega
   cases hS:st q p with
   | none =>
    rw [hS] at cS
    replace cS:Calls zG 112 #[zP R] wr (fun e w'=>e=pan pf∧Below w0§ w0 w'):=cS
    have HT2:Hid (T=none):=by show _=_; rw [HTR.out,hni]; show Option.map _ ((st q p).bind _)=_; rw [hS]; rfl
    clear HRD
    go_wp2_with fail
    refine cS.mono ?_
    rintro e w5 ⟨rfl,hb5⟩
    exact⟨rfl,by rw [HT2.out]; exact⟨rfl,hb5⟩⟩
   | some aq =>
    obtain⟨a,q2,p2⟩:=aq
    rw [hS] at cS
    replace cS:Calls zG 112 #[zP R] wr (fun e w'=>∃ x nb,e=.returned (mk x)∧Rel a x nb∧Rd w0 wr§ w' R (nb ++ (obx wr _ ++ (nbs ++ bs))) q2 s p2∧(∀ b ∈ nb,wr§≤b.1)∧wr§≤w'§):=cS
    have HT2:Hid (T=(Qd st (n - (i+1)) q2 p2).map fun r=>((al ++ [a]) ++ r.1,r.2)):=by
     show _=_
     rw [HTR.out,hni]
     show Option.map _ ((st q p).bind _)=_
     rw [hS,Option.bind_some,Option.map_map]
     congr 1
     funext r
     simp
    have HI2:Hid (Iq (i+1) q2):=HIQ.out i q p a q2 p2 hlt HIR.out hS
    clear HRD
    go_wp2_with fail
    refine cS.mono ?_
    rintro e w5 ⟨x,nb,rfl,hx,hr5,hf5,h55⟩
    have HO5:Hid (OwnK w0 w5 ((R,148,rdA q2 s p2) :: (nb ++ (nbs ++ bs))) 2 1 _ xs):=Jx HOR.out hr5 hf5
    have HN5:Hid (∀ b ∈ nb ++ (nbs ++ bs),b.1≠R):=fun b hb=>(hr5.K b (by rcases List.mem_append.1 hb with hb | hb <;> simp [hb])).2
    obtain⟨hxz,hxa⟩:=HRL.out a x nb hx
    have HXC:Hid ((mk x).cells=x):=HMK.out a x nb hx
    have HRS2:Hid (Rels Rel (al ++ [a]) (xs ++ [x]) (nb ++ nbs)):=Rels.snoc HRS.out hx (fun b hb b' hb'=>by
     have h1:=(Array.getElem?_eq_some_iff.1 (HOR.out.K b' (List.mem_cons_of_mem _ (List.mem_append_left _ hb'))).1).1
     have h2:=hf5 b hb
     omega)
    have hv1:=HVR.out.2.1
    have hv2:=HVR.out.2.2.1
    have hv3:=HVR.out.2.2.2
    have HV2:Hid ((∀ b ∈ nb ++ nbs,w§≤b.1)∧w§≤w5§):=⟨fun b hb=>by rcases List.mem_append.1 hb with hb | hb; exact Nat.le_trans hv3 (hf5 b hb); exact hv1 b hb,by omega⟩
    clear cS hr5 hf5 HOR HNN HRS HIR HTR hx
    go_wp2_with (first | (refine QA rfl 22 2 (.tmp 11) rfl x mk rfl HXC.out 1 _ Tryz.underlying22 8 inf2 rfl hxz (by decide) (by decide) ?_) | (refine Jj HO5.out 22 x hxz hxa _ 8 Tryz.underlying22 inf2 rfl (by decide) (by omega) (by decide) rfl (.tmp 9) (.tmp 12) rfl rfl rfl ?_; intro g cap w8 HO8 hg8 hs8))
    have hgg:w§≤g:=by
     rcases hg8 with hg8 | hg8
     ·exact hv2 g hg8
     ·have:=HV2.out.2; omega
    refine⟨⟨i+1,.slice (some ⟨g,0,none⟩) (i+1) cap,q2,p2,al ++ [a],xs ++ [x],nb ++ nbs,hlt,rfl,rfl,by rw [List.length_append,hxl]; rfl,?_,?_,HRS2,HI2,HT2,⟨fun e=>by omega,HV2.out.1,fun g' hg'=>?_,by have:=HV2.out.2; omega⟩⟩,by simp only [intOf]; omega⟩
    ·rw [List.append_assoc,← hxl]; exact HO8
    ·rw [List.append_assoc]; exact HN5
    ·have:g=g':=by simpa [Value.ownBlock] using hg'
     omega
  ·obtain rfl:i=n:=by omega
   have hnot:¬ (i:Int) < (i:Int):=by omega
   have HT2:Hid (T=some (al,q,p)):=by show _=_; rw [HTR.out,Nat.sub_self]; show some (al ++ [],q,p)=_; rw [List.append_nil]
   rcases HOR.out.R.2 with ⟨e1,e2⟩ | ⟨g,cap,cur,e1,e2,e3,e4,e5,e6,e7⟩
   ·subst e1
    have hi0:i=0:=by omega
    subst hi0
    have HRD:Hid (Rd w0 mz wr R ([] ++ (nbs ++ bs)) q s p):=HOR.out.rd HNN.out (by have:=HVR.out.2.2.2; have:=HMZ.out; omega)
    go_wp2_with fail
    go_ret
    rw [HT2.out]
    exact ⟨none, xs, [], nbs, rfl, HRS.out, hxl, fun V _ => ⟨by omega, by omega, fun j hj => by omega⟩, HRD.out, fun b hb => HVR.out.2.1 b (by simpa using hb), HVR.out.2.2.2, fun V _ => .inl ⟨rfl, rfl⟩, fun g hg => by cases hg⟩
   ·subst e1
    have hci:i≤cap:=by omega
    have hcm:(i:Int)≤(cap:Int):=by omega
    have hc9:cap≤9223372036854775807:=by unfold maxLen at e5; omega
    have HRD:Hid (Rd w0 mz wr R ([(g,2,cur)] ++ (nbs ++ bs)) q s p):=by
     have hh:=QW (mz:=mz) HOR.out HNN.out (by have:=HVR.out.2.2.2; have:=HMZ.out; omega)
     have ho:obx wr (.slice (some ⟨g,0,none⟩) xs.length cap) = [(g,2,cur)]:=by
      show (match wr.heap[g]? with | some (.cells cur e _)=>[(g,e,cur)] | _=>[])=_
      rw [e3]
     rw [ho] at hh
     exact hh
    have HKP:Hid (Keep [(g,2,cur)] (fun V=>SlAt V 1 (some ⟨g,0,none⟩) i xs)):=fun V hV=>by
     have h3:=hV (g,2,cur) (List.mem_singleton.2 rfl)
     refine⟨by omega,by omega,fun j hj=>⟨g,0,rfl,fun k hk=>?_⟩⟩
     rw [Co h3,Nat.zero_add]
     have hlt:j * 1+k < xs.length * 1:=by
      have:=Nat.mul_le_mul_right 1 hj
      rw [Nat.succ_mul] at this
      omega
     have h8:(cur.toList.take (xs.length * 1))[j * 1+k]? = cur[j * 1+k]?:=by rw [List.getElem?_take_of_lt hlt]; simp
     rw [← h8,e7,QR xs HOR.out.Z j hj k hk]
    have HOW:Hid (Keep [(g,2,cur)] (fun V=>OwR V 2 1 (some ⟨g,0,none⟩) i xs)):=fun V hV=>.inr ⟨g,cur,rfl,hV (g,2,cur) (List.mem_singleton.2 rfl),Nat.le_trans hci e5,by rw [e6]; exact Nat.mul_le_mul_right _ hci,by rw [hxl] at e7; exact e7⟩
    have HVB:Hid ((∀ b ∈ [(g,2,cur)] ++ nbs,w§≤b.1)∧w§≤wr§):=⟨fun b hb=>by
     rcases List.mem_append.1 hb with hb | hb
     ·rw [List.mem_singleton.1 hb]; exact HVR.out.2.2.1 g rfl
     ·exact HVR.out.2.1 b hb,HVR.out.2.2.2⟩
    have HRS2:Hid (Rels Rel al xs nbs∧xs.length=i):=⟨HRS.out,hxl⟩
    rw [hxl]
    clear hxl HOR HNN HRS HVR e2 e3 e4 e5 e6 e7
    go_wp2_with fail
    go_ret
    rw [HT2.out]
    exact⟨some ⟨g,0,none⟩,xs,[(g,2,cur)],nbs,rfl,HRS2.out.1,HRS2.out.2,HKP.out,HRD.out,HVB.out.1,HVB.out.2,HOW.out,fun g2 hg2=>⟨_,List.mem_singleton.2 rfl,by cases hg2; rfl⟩⟩
theorem Ks {mz:Nat}{α:Type}(st:RS→Int→Option (α × RS × Int)) (Rel:α→Array Value→List Bx→Prop) (mk:Array Value→Value) (Iq:Nat→RS→Prop) (R n:Nat) (bs:List Bx) (q:RS) (s:ByteArray) (p:Int) (w:World) (w0:World) (h:Rd w0 mz w R bs q s p) (hn:n≤100000) (hq0:Iq 0 q) (hmk:∀ a x nb,Rel a x nb→(mk x).cells=x) (hrel:∀ a x nb,Rel a x nb→x.size=2∧x.all (·.oneCell')=true) (hiq:∀ i q p a q' p',i < n→Iq i q→st q p=some (a,q',p')→Iq (i+1) q') (hst:∀ i V bs1 q p,i < n→Iq i q→(∀ b ∈ bs,b ∈ bs1)→Rd w0 V§ V R bs1 q s p→Calls zG 114 #[zP R] V (OutS w0 V§ R bs1 s Rel mk V§ (st q p))):Calls zG 113 #[zI n,.func (.func 114) #[zP R] #[]] w fun e w'=>OutL w0 mz R bs s Rel 61 2 n w§ (Qd st n q p) e w':=by
 have HMK:Hid (∀ a x nb,Rel a x nb→(mk x).cells=x):=hmk
 have HRL:Hid (∀ a x nb,Rel a x nb→x.size=2∧x.all (·.oneCell')=true):=hrel
 have HIQ:Hid (∀ i q p a q' p',i < n→Iq i q→st q p=some (a,q',p')→Iq (i+1) q'):=hiq
 have HST:Hid (∀ i V bs1 q p,i < n→Iq i q→(∀ b ∈ bs,b ∈ bs1)→Rd w0 V§ V R bs1 q s p→Calls zG 114 #[zP R] V (OutS w0 V§ R bs1 s Rel mk V§ (st q p))):=hst
 obtain⟨T,eT⟩:∃ T,Qd st n q p=T:=⟨_,rfl⟩
 rw [eT]
 have HT0:Hid (T=(Qd st (n - 0) q p).map fun r=>(([]:List α) ++ r.1,r.2)):=by
  show _=_
  rw [← eT,Nat.sub_zero]
  cases Qd st n q p with
  | none=>rfl
  | some r=>rfl
 have HW:Hid (w0§≤w§):=h.B.size
 have HMZ:Hid (mz≤w§):=h.M
 have HO0 : Hid (OwnK w0 w ((R, 148, rdA q s p) :: ([] ++ bs)) 61 2 (.slice none 0 0) []) := h.own ⟨by simp, .inl ⟨rfl, rfl⟩⟩ (by simp) (by simp [Value.ownBlock]) (by simp [Value.ownBlock])
 have HNR:Hid (∀ b ∈ bs,b.1≠R):=fun b hb=>(h.K b hb).2
 have hnm:(n:Int)≤9223372036854775807:=by omega
 have HI0:Hid (Iq 0 q):=hq0
 clear eT h hq0 hst hiq hrel hmk
 go_enter Tryz.func113,Tryz.ntmps113
 go_wp2_with fail
 go_loopw [5,7] (fun fv t wr=>∃ (i:Nat) (v:Value) (q:RS) (p:Int) (al:List α) (xs:List (Array Value)) (nbs:List Bx),i≤n∧fv=v∧t=zI i∧xs.length=i∧Hid (OwnK w0 wr ((R,148,rdA q s p) :: (nbs ++ bs)) 61 2 v xs)∧Hid (∀ b ∈ nbs ++ bs,b.1≠R)∧Hid (Rels Rel al xs nbs)∧Hid (Iq i q)∧Hid (T=(Qd st (n - i) q p).map fun r=>(al ++ r.1,r.2))∧Hid ((i=0→v=.slice none 0 0)∧(∀ b ∈ nbs,w§≤b.1)∧(∀ g,v.ownBlock=some g→w§≤g)∧w§≤wr§)) (fun _ t _=>n - (intOf t).toNat)
 case atStart=>exact⟨0,_,q,p,[],[],[],by omega,rfl,rfl,rfl,HO0,HNR,Rels.nil,HI0,HT0,fun _=>rfl,by simp,by simp [Value.ownBlock],Nat.le_refl _⟩
 case round =>
  obtain⟨i,v,q,p,al,xs,nbs,hi,rfl,rfl,hxl,HOR,HNN,HRS,HIR,HTR,HVR⟩:=hrel
  by_cases hlt:i < n
  ·have hlt':(i:Int) < (n:Int):=by omega
   have hmx:(i:Int)+1≤9223372036854775807:=by omega
   have HRD:=QW (mz:=wr§) HOR.out HNN.out (Nat.le_refl _)
   have cS:=HST.out i wr _ q p hlt HIR.out (fun b hb=>by simp [hb]) HRD
   have hni:n - i=(n - (i+1))+1:=by omega
   cases hS:st q p with
   | none =>
    rw [hS] at cS
    replace cS:Calls zG 114 #[zP R] wr (fun e w'=>e=pan pf∧Below w0§ w0 w'):=cS
    have HT2:Hid (T=none):=by show _=_; rw [HTR.out,hni]; show Option.map _ ((st q p).bind _)=_; rw [hS]; rfl
    clear HRD
    go_wp2_with fail
    refine cS.mono ?_
    rintro e w5 ⟨rfl,hb5⟩
    exact⟨rfl,by rw [HT2.out]; exact⟨rfl,hb5⟩⟩
   | some aq =>
    obtain⟨a,q2,p2⟩:=aq
    rw [hS] at cS
    replace cS:Calls zG 114 #[zP R] wr (fun e w'=>∃ x nb,e=.returned (mk x)∧Rel a x nb∧Rd w0 wr§ w' R (nb ++ (obx wr _ ++ (nbs ++ bs))) q2 s p2∧(∀ b ∈ nb,wr§≤b.1)∧wr§≤w'§):=cS
    have HT2:Hid (T=(Qd st (n - (i+1)) q2 p2).map fun r=>((al ++ [a]) ++ r.1,r.2)):=by
     show _=_
     rw [HTR.out,hni]
     show Option.map _ ((st q p).bind _)=_
     rw [hS,Option.bind_some,Option.map_map]
     congr 1
     funext r
     simp
    have HI2:Hid (Iq (i+1) q2):=HIQ.out i q p a q2 p2 hlt HIR.out hS
    clear HRD
    go_wp2_with fail
    refine cS.mono ?_
    rintro e w5 ⟨x,nb,rfl,hx,hr5,hf5,h55⟩
    have HO5:Hid (OwnK w0 w5 ((R,148,rdA q2 s p2) :: (nb ++ (nbs ++ bs))) 61 2 _ xs):=Jx HOR.out hr5 hf5
    have HN5:Hid (∀ b ∈ nb ++ (nbs ++ bs),b.1≠R):=fun b hb=>(hr5.K b (by rcases List.mem_append.1 hb with hb | hb <;> simp [hb])).2
    obtain⟨hxz,hxa⟩:=HRL.out a x nb hx
    have HXC:Hid ((mk x).cells=x):=HMK.out a x nb hx
    have HRS2:Hid (Rels Rel (al ++ [a]) (xs ++ [x]) (nb ++ nbs)):=Rels.snoc HRS.out hx (fun b hb b' hb'=>by
     have h1:=(Array.getElem?_eq_some_iff.1 (HOR.out.K b' (List.mem_cons_of_mem _ (List.mem_append_left _ hb'))).1).1
     have h2:=hf5 b hb
     omega)
    have hv1:=HVR.out.2.1
    have hv2:=HVR.out.2.2.1
    have hv3:=HVR.out.2.2.2
    have HV2:Hid ((∀ b ∈ nb ++ nbs,w§≤b.1)∧w§≤w5§):=⟨fun b hb=>by rcases List.mem_append.1 hb with hb | hb; exact Nat.le_trans hv3 (hf5 b hb); exact hv1 b hb,by omega⟩
    clear cS hr5 hf5 HOR HNN HRS HIR HTR hx
    go_wp2_with (first | (refine QA rfl 23 61 (.tmp 11) rfl x mk rfl HXC.out 2 _ Tryz.underlying23 16 inf61 rfl hxz (by decide) (by decide) ?_) | (refine Jj HO5.out 23 x hxz hxa _ 16 Tryz.underlying23 inf61 rfl (by decide) (by omega) (by decide) rfl (.tmp 9) (.tmp 12) rfl rfl rfl ?_; intro g cap w8 HO8 hg8 hs8))
    have hgg:w§≤g:=by
     rcases hg8 with hg8 | hg8
     ·exact hv2 g hg8
     ·have:=HV2.out.2; omega
    refine⟨⟨i+1,.slice (some ⟨g,0,none⟩) (i+1) cap,q2,p2,al ++ [a],xs ++ [x],nb ++ nbs,hlt,rfl,rfl,by rw [List.length_append,hxl]; rfl,?_,?_,HRS2,HI2,HT2,⟨fun e=>by omega,HV2.out.1,fun g' hg'=>?_,by have:=HV2.out.2; omega⟩⟩,by simp only [intOf]; omega⟩
    ·rw [List.append_assoc,← hxl]; exact HO8
    ·rw [List.append_assoc]; exact HN5
    ·have:g=g':=by simpa [Value.ownBlock] using hg'
     omega
  ·obtain rfl:i=n:=by omega
   have hnot:¬ (i:Int) < (i:Int):=by omega
   have HT2:Hid (T=some (al,q,p)):=by show _=_; rw [HTR.out,Nat.sub_self]; show some (al ++ [],q,p)=_; rw [List.append_nil]
   rcases HOR.out.R.2 with ⟨e1,e2⟩ | ⟨g,cap,cur,e1,e2,e3,e4,e5,e6,e7⟩
   ·subst e1
    have hi0:i=0:=by omega
    subst hi0
    have HRD:Hid (Rd w0 mz wr R ([] ++ (nbs ++ bs)) q s p):=HOR.out.rd HNN.out (by have:=HVR.out.2.2.2; have:=HMZ.out; omega)
    go_wp2_with fail
    go_ret
    rw [HT2.out]
    exact ⟨none, xs, [], nbs, rfl, HRS.out, hxl, fun V _ => ⟨by omega, by omega, fun j hj => by omega⟩, HRD.out, fun b hb => HVR.out.2.1 b (by simpa using hb), HVR.out.2.2.2, fun V _ => .inl ⟨rfl, rfl⟩, fun g hg => by cases hg⟩
   ·subst e1
    have hci:i≤cap:=by omega
    have hcm:(i:Int)≤(cap:Int):=by omega
    have hc9:cap≤9223372036854775807:=by unfold maxLen at e5; omega
    have HRD:Hid (Rd w0 mz wr R ([(g,61,cur)] ++ (nbs ++ bs)) q s p):=by
     have hh:=QW (mz:=mz) HOR.out HNN.out (by have:=HVR.out.2.2.2; have:=HMZ.out; omega)
     have ho:obx wr (.slice (some ⟨g,0,none⟩) xs.length cap) = [(g,61,cur)]:=by
      show (match wr.heap[g]? with | some (.cells cur e _)=>[(g,e,cur)] | _=>[])=_
      rw [e3]
     rw [ho] at hh
     exact hh
    have HKP:Hid (Keep [(g,61,cur)] (fun V=>SlAt V 2 (some ⟨g,0,none⟩) i xs)):=fun V hV=>by
     have h3:=hV (g,61,cur) (List.mem_singleton.2 rfl)
     refine⟨by omega,by omega,fun j hj=>⟨g,0,rfl,fun k hk=>?_⟩⟩
     rw [Co h3,Nat.zero_add]
     have hlt:j * 2+k < xs.length * 2:=by
      have:=Nat.mul_le_mul_right 2 hj
      rw [Nat.succ_mul] at this
      omega
     have h8:(cur.toList.take (xs.length * 2))[j * 2+k]? = cur[j * 2+k]?:=by rw [List.getElem?_take_of_lt hlt]; simp
     rw [← h8,e7,QR xs HOR.out.Z j hj k hk]
    have HOW:Hid (Keep [(g,61,cur)] (fun V=>OwR V 61 2 (some ⟨g,0,none⟩) i xs)):=fun V hV=>.inr ⟨g,cur,rfl,hV (g,61,cur) (List.mem_singleton.2 rfl),Nat.le_trans hci e5,by rw [e6]; exact Nat.mul_le_mul_right _ hci,by rw [hxl] at e7; exact e7⟩
    have HVB:Hid ((∀ b ∈ [(g,61,cur)] ++ nbs,w§≤b.1)∧w§≤wr§):=⟨fun b hb=>by
     rcases List.mem_append.1 hb with hb | hb
     ·rw [List.mem_singleton.1 hb]; exact HVR.out.2.2.1 g rfl
     ·exact HVR.out.2.1 b hb,HVR.out.2.2.2⟩
    have HRS2:Hid (Rels Rel al xs nbs∧xs.length=i):=⟨HRS.out,hxl⟩
    rw [hxl]
    clear hxl HOR HNN HRS HVR e2 e3 e4 e5 e6 e7
    go_wp2_with fail
    go_ret
    rw [HT2.out]
    exact⟨some ⟨g,0,none⟩,xs,[(g,61,cur)],nbs,rfl,HRS2.out.1,HRS2.out.2,HKP.out,HRD.out,HVB.out.1,HVB.out.2,HOW.out,fun g2 hg2=>⟨_,List.mem_singleton.2 rfl,by cases hg2; rfl⟩⟩
theorem Kp {mz:Nat}{α:Type}(st:RS→Int→Option (α × RS × Int)) (Rel:α→Array Value→List Bx→Prop) (mk:Array Value→Value) (Iq:Nat→RS→Prop) (R n:Nat) (bs:List Bx) (q:RS) (s:ByteArray) (p:Int) (w:World) (w0:World) (h:Rd w0 mz w R bs q s p) (hn:n≤100000) (hq0:Iq 0 q) (hmk:∀ a x nb,Rel a x nb→(mk x).cells=x) (hrel:∀ a x nb,Rel a x nb→x.size=11∧x.all (·.oneCell')=true) (hiq:∀ i q p a q' p',i < n→Iq i q→st q p=some (a,q',p')→Iq (i+1) q') (hst:∀ i V bs1 q p,i < n→Iq i q→(∀ b ∈ bs,b ∈ bs1)→Rd w0 V§ V R bs1 q s p→Calls zG 152 #[zP R] V (OutS w0 V§ R bs1 s Rel mk V§ (st q p))):Calls zG 151 #[zI n,.func (.func 152) #[zP R] #[]] w fun e w'=>OutL w0 mz R bs s Rel 85 11 n w§ (Qd st n q p) e w':=by
 have HMK:Hid (∀ a x nb,Rel a x nb→(mk x).cells=x):=hmk
 have HRL:Hid (∀ a x nb,Rel a x nb→x.size=11∧x.all (·.oneCell')=true):=hrel
 have HIQ:Hid (∀ i q p a q' p',i < n→Iq i q→st q p=some (a,q',p')→Iq (i+1) q'):=hiq
 have HST:Hid (∀ i V bs1 q p,i < n→Iq i q→(∀ b ∈ bs,b ∈ bs1)→Rd w0 V§ V R bs1 q s p→Calls zG 152 #[zP R] V (OutS w0 V§ R bs1 s Rel mk V§ (st q p))):=hst
 obtain⟨T,eT⟩:∃ T,Qd st n q p=T:=⟨_,rfl⟩
 rw [eT]
 have HT0:Hid (T=(Qd st (n - 0) q p).map fun r=>(([]:List α) ++ r.1,r.2)):=by
  show _=_
  rw [← eT,Nat.sub_zero]
  cases Qd st n q p with
  | none=>rfl
  | some r=>rfl
 have HW:Hid (w0§≤w§):=h.B.size
 have HMZ:Hid (mz≤w§):=h.M
 have HO0 : Hid (OwnK w0 w ((R, 148, rdA q s p) :: ([] ++ bs)) 85 11 (.slice none 0 0) []) := h.own ⟨by simp, .inl ⟨rfl, rfl⟩⟩ (by simp) (by simp [Value.ownBlock]) (by simp [Value.ownBlock])
 have HNR:Hid (∀ b ∈ bs,b.1≠R):=fun b hb=>(h.K b hb).2
 have hnm:(n:Int)≤9223372036854775807:=by omega
 have HI0:Hid (Iq 0 q):=hq0
 clear eT h hq0 hst hiq hrel hmk
 go_enter Tryz.func151,Tryz.ntmps151
 go_wp2_with fail
 go_loopw [5,7] (fun fv t wr=>∃ (i:Nat) (v:Value) (q:RS) (p:Int) (al:List α) (xs:List (Array Value)) (nbs:List Bx),i≤n∧fv=v∧t=zI i∧xs.length=i∧Hid (OwnK w0 wr ((R,148,rdA q s p) :: (nbs ++ bs)) 85 11 v xs)∧Hid (∀ b ∈ nbs ++ bs,b.1≠R)∧Hid (Rels Rel al xs nbs)∧Hid (Iq i q)∧Hid (T=(Qd st (n - i) q p).map fun r=>(al ++ r.1,r.2))∧Hid ((i=0→v=.slice none 0 0)∧(∀ b ∈ nbs,w§≤b.1)∧(∀ g,v.ownBlock=some g→w§≤g)∧w§≤wr§)) (fun _ t _=>n - (intOf t).toNat)
 case atStart=>exact⟨0,_,q,p,[],[],[],by omega,rfl,rfl,rfl,HO0,HNR,Rels.nil,HI0,HT0,fun _=>rfl,by simp,by simp [Value.ownBlock],Nat.le_refl _⟩
 case round =>
  obtain⟨i,v,q,p,al,xs,nbs,hi,rfl,rfl,hxl,HOR,HNN,HRS,HIR,HTR,HVR⟩:=hrel
  by_cases hlt:i < n
  ·have hlt':(i:Int) < (n:Int):=by omega
   have hmx:(i:Int)+1≤9223372036854775807:=by omega
   have HRD:=QW (mz:=wr§) HOR.out HNN.out (Nat.le_refl _)
   have cS:=HST.out i wr _ q p hlt HIR.out (fun b hb=>by simp [hb]) HRD
   have hni:n - i=(n - (i+1))+1:=by omega
   cases hS:st q p with
   | none =>
    rw [hS] at cS
    replace cS:Calls zG 152 #[zP R] wr (fun e w'=>e=pan pf∧Below w0§ w0 w'):=cS
    have HT2:Hid (T=none):=by show _=_; rw [HTR.out,hni]; show Option.map _ ((st q p).bind _)=_; rw [hS]; rfl
    clear HRD
    go_wp2_with fail
    refine cS.mono ?_
    rintro e w5 ⟨rfl,hb5⟩
    exact⟨rfl,by rw [HT2.out]; exact⟨rfl,hb5⟩⟩
   | some aq =>
    obtain⟨a,q2,p2⟩:=aq
    rw [hS] at cS
    replace cS:Calls zG 152 #[zP R] wr (fun e w'=>∃ x nb,e=.returned (mk x)∧Rel a x nb∧Rd w0 wr§ w' R (nb ++ (obx wr _ ++ (nbs ++ bs))) q2 s p2∧(∀ b ∈ nb,wr§≤b.1)∧wr§≤w'§):=cS
    have HT2:Hid (T=(Qd st (n - (i+1)) q2 p2).map fun r=>((al ++ [a]) ++ r.1,r.2)):=by
     show _=_
     rw [HTR.out,hni]
     show Option.map _ ((st q p).bind _)=_
     rw [hS,Option.bind_some,Option.map_map]
     congr 1
     funext r
     simp
    have HI2:Hid (Iq (i+1) q2):=HIQ.out i q p a q2 p2 hlt HIR.out hS
    clear HRD
    go_wp2_with fail
    refine cS.mono ?_
    rintro e w5 ⟨x,nb,rfl,hx,hr5,hf5,h55⟩
    have HO5:Hid (OwnK w0 w5 ((R,148,rdA q2 s p2) :: (nb ++ (nbs ++ bs))) 85 11 _ xs):=Jx HOR.out hr5 hf5
    have HN5:Hid (∀ b ∈ nb ++ (nbs ++ bs),b.1≠R):=fun b hb=>(hr5.K b (by rcases List.mem_append.1 hb with hb | hb <;> simp [hb])).2
    obtain⟨hxz,hxa⟩:=HRL.out a x nb hx
    have HXC:Hid ((mk x).cells=x):=HMK.out a x nb hx
    have HRS2:Hid (Rels Rel (al ++ [a]) (xs ++ [x]) (nb ++ nbs)):=Rels.snoc HRS.out hx (fun b hb b' hb'=>by
     have h1:=(Array.getElem?_eq_some_iff.1 (HOR.out.K b' (List.mem_cons_of_mem _ (List.mem_append_left _ hb'))).1).1
     have h2:=hf5 b hb
     omega)
    have hv1:=HVR.out.2.1
    have hv2:=HVR.out.2.2.1
    have hv3:=HVR.out.2.2.2
    have HV2:Hid ((∀ b ∈ nb ++ nbs,w§≤b.1)∧w§≤w5§):=⟨fun b hb=>by rcases List.mem_append.1 hb with hb | hb; exact Nat.le_trans hv3 (hf5 b hb); exact hv1 b hb,by omega⟩
    clear cS hr5 hf5 HOR HNN HRS HIR HTR hx
    go_wp2_with (first | (refine QA rfl 66 85 (.tmp 11) rfl x mk rfl HXC.out 11 _ Tryz.underlying66 80 inf85 rfl hxz (by decide) (by decide) ?_) | (refine Jj HO5.out 66 x hxz hxa _ 80 Tryz.underlying66 inf85 rfl (by decide) (by omega) (by decide) rfl (.tmp 9) (.tmp 12) rfl rfl rfl ?_; intro g cap w8 HO8 hg8 hs8))
    have hgg:w§≤g:=by
     rcases hg8 with hg8 | hg8
     ·exact hv2 g hg8
     ·have:=HV2.out.2; omega
    refine⟨⟨i+1,.slice (some ⟨g,0,none⟩) (i+1) cap,q2,p2,al ++ [a],xs ++ [x],nb ++ nbs,hlt,rfl,rfl,by rw [List.length_append,hxl]; rfl,?_,?_,HRS2,HI2,HT2,⟨fun e=>by omega,HV2.out.1,fun g' hg'=>?_,by have:=HV2.out.2; omega⟩⟩,by simp only [intOf]; omega⟩
    ·rw [List.append_assoc,← hxl]; exact HO8
    ·rw [List.append_assoc]; exact HN5
    ·have:g=g':=by simpa [Value.ownBlock] using hg'
     omega
  ·obtain rfl:i=n:=by omega
   have hnot:¬ (i:Int) < (i:Int):=by omega
   have HT2:Hid (T=some (al,q,p)):=by show _=_; rw [HTR.out,Nat.sub_self]; show some (al ++ [],q,p)=_; rw [List.append_nil]
   rcases HOR.out.R.2 with ⟨e1,e2⟩ | ⟨g,cap,cur,e1,e2,e3,e4,e5,e6,e7⟩
   ·subst e1
    have hi0:i=0:=by omega
    subst hi0
    have HRD:Hid (Rd w0 mz wr R ([] ++ (nbs ++ bs)) q s p):=HOR.out.rd HNN.out (by have:=HVR.out.2.2.2; have:=HMZ.out; omega)
    go_wp2_with fail
    go_ret
    rw [HT2.out]
    exact ⟨none, xs, [], nbs, rfl, HRS.out, hxl, fun V _ => ⟨by omega, by omega, fun j hj => by omega⟩, HRD.out, fun b hb => HVR.out.2.1 b (by simpa using hb), HVR.out.2.2.2, fun V _ => .inl ⟨rfl, rfl⟩, fun g hg => by cases hg⟩
   ·subst e1
    have hci:i≤cap:=by omega
    have hcm:(i:Int)≤(cap:Int):=by omega
    have hc9:cap≤9223372036854775807:=by unfold maxLen at e5; omega
    have HRD:Hid (Rd w0 mz wr R ([(g,85,cur)] ++ (nbs ++ bs)) q s p):=by
     have hh:=QW (mz:=mz) HOR.out HNN.out (by have:=HVR.out.2.2.2; have:=HMZ.out; omega)
     have ho:obx wr (.slice (some ⟨g,0,none⟩) xs.length cap) = [(g,85,cur)]:=by
      show (match wr.heap[g]? with | some (.cells cur e _)=>[(g,e,cur)] | _=>[])=_
      rw [e3]
     rw [ho] at hh
     exact hh
    have HKP:Hid (Keep [(g,85,cur)] (fun V=>SlAt V 11 (some ⟨g,0,none⟩) i xs)):=fun V hV=>by
     have h3:=hV (g,85,cur) (List.mem_singleton.2 rfl)
     refine⟨by omega,by omega,fun j hj=>⟨g,0,rfl,fun k hk=>?_⟩⟩
     rw [Co h3,Nat.zero_add]
     have hlt:j * 11+k < xs.length * 11:=by
      have:=Nat.mul_le_mul_right 11 hj
      rw [Nat.succ_mul] at this
      omega
     have h8:(cur.toList.take (xs.length * 11))[j * 11+k]? = cur[j * 11+k]?:=by rw [List.getElem?_take_of_lt hlt]; simp
     rw [← h8,e7,QR xs HOR.out.Z j hj k hk]
    have HOW:Hid (Keep [(g,85,cur)] (fun V=>OwR V 85 11 (some ⟨g,0,none⟩) i xs)):=fun V hV=>.inr ⟨g,cur,rfl,hV (g,85,cur) (List.mem_singleton.2 rfl),Nat.le_trans hci e5,by rw [e6]; exact Nat.mul_le_mul_right _ hci,by rw [hxl] at e7; exact e7⟩
    have HVB:Hid ((∀ b ∈ [(g,85,cur)] ++ nbs,w§≤b.1)∧w§≤wr§):=⟨fun b hb=>by
     rcases List.mem_append.1 hb with hb | hb
     ·rw [List.mem_singleton.1 hb]; exact HVR.out.2.2.1 g rfl
     ·exact HVR.out.2.1 b hb,HVR.out.2.2.2⟩
    have HRS2:Hid (Rels Rel al xs nbs∧xs.length=i):=⟨HRS.out,hxl⟩
    rw [hxl]
    clear hxl HOR HNN HRS HVR e2 e3 e4 e5 e6 e7
    go_wp2_with fail
    go_ret
    rw [HT2.out]
    exact⟨some ⟨g,0,none⟩,xs,[(g,85,cur)],nbs,rfl,HRS2.out.1,HRS2.out.2,HKP.out,HRD.out,HVB.out.1,HVB.out.2,HOW.out,fun g2 hg2=>⟨_,List.mem_singleton.2 rfl,by cases hg2; rfl⟩⟩
theorem Kq {mz:Nat}{α:Type}(st:RS→Int→Option (α × RS × Int)) (Rel:α→Array Value→List Bx→Prop) (mk:Array Value→Value) (Iq:Nat→RS→Prop) (R n:Nat) (bs:List Bx) (q:RS) (s:ByteArray) (p:Int) (w:World) (w0:World) (h:Rd w0 mz w R bs q s p) (hn:n≤100000) (hq0:Iq 0 q) (hmk:∀ a x nb,Rel a x nb→(mk x).cells=x) (hrel:∀ a x nb,Rel a x nb→x.size=5∧x.all (·.oneCell')=true) (hiq:∀ i q p a q' p',i < n→Iq i q→st q p=some (a,q',p')→Iq (i+1) q') (hst:∀ i V bs1 q p,i < n→Iq i q→(∀ b ∈ bs,b ∈ bs1)→Rd w0 V§ V R bs1 q s p→Calls zG 136 #[zP R] V (OutS w0 V§ R bs1 s Rel mk V§ (st q p))):Calls zG 135 #[zI n,.func (.func 136) #[zP R] #[]] w fun e w'=>OutL w0 mz R bs s Rel 68 5 n w§ (Qd st n q p) e w':=by
 have HMK:Hid (∀ a x nb,Rel a x nb→(mk x).cells=x):=hmk
 have HRL:Hid (∀ a x nb,Rel a x nb→x.size=5∧x.all (·.oneCell')=true):=hrel
 have HIQ:Hid (∀ i q p a q' p',i < n→Iq i q→st q p=some (a,q',p')→Iq (i+1) q'):=hiq
 have HST:Hid (∀ i V bs1 q p,i < n→Iq i q→(∀ b ∈ bs,b ∈ bs1)→Rd w0 V§ V R bs1 q s p→Calls zG 136 #[zP R] V (OutS w0 V§ R bs1 s Rel mk V§ (st q p))):=hst
 obtain⟨T,eT⟩:∃ T,Qd st n q p=T:=⟨_,rfl⟩
 rw [eT]
 have HT0:Hid (T=(Qd st (n - 0) q p).map fun r=>(([]:List α) ++ r.1,r.2)):=by
  show _=_
  rw [← eT,Nat.sub_zero]
  cases Qd st n q p with
  | none=>rfl
  | some r=>rfl
 have HW:Hid (w0§≤w§):=h.B.size
 have HMZ:Hid (mz≤w§):=h.M
 have HO0 : Hid (OwnK w0 w ((R, 148, rdA q s p) :: ([] ++ bs)) 68 5 (.slice none 0 0) []) := h.own ⟨by simp, .inl ⟨rfl, rfl⟩⟩ (by simp) (by simp [Value.ownBlock]) (by simp [Value.ownBlock])
 have HNR:Hid (∀ b ∈ bs,b.1≠R):=fun b hb=>(h.K b hb).2
 have hnm:(n:Int)≤9223372036854775807:=by omega
 have HI0:Hid (Iq 0 q):=hq0
 clear eT h hq0 hst hiq hrel hmk
 go_enter Tryz.func135,Tryz.ntmps135
 go_wp2_with fail
 go_loopw [5,7] (fun fv t wr=>∃ (i:Nat) (v:Value) (q:RS) (p:Int) (al:List α) (xs:List (Array Value)) (nbs:List Bx),i≤n∧fv=v∧t=zI i∧xs.length=i∧Hid (OwnK w0 wr ((R,148,rdA q s p) :: (nbs ++ bs)) 68 5 v xs)∧Hid (∀ b ∈ nbs ++ bs,b.1≠R)∧Hid (Rels Rel al xs nbs)∧Hid (Iq i q)∧Hid (T=(Qd st (n - i) q p).map fun r=>(al ++ r.1,r.2))∧Hid ((i=0→v=.slice none 0 0)∧(∀ b ∈ nbs,w§≤b.1)∧(∀ g,v.ownBlock=some g→w§≤g)∧w§≤wr§)) (fun _ t _=>n - (intOf t).toNat)
 case atStart=>exact⟨0,_,q,p,[],[],[],by omega,rfl,rfl,rfl,HO0,HNR,Rels.nil,HI0,HT0,fun _=>rfl,by simp,by simp [Value.ownBlock],Nat.le_refl _⟩
 case round =>
  obtain⟨i,v,q,p,al,xs,nbs,hi,rfl,rfl,hxl,HOR,HNN,HRS,HIR,HTR,HVR⟩:=hrel
  by_cases hlt:i < n
  ·have hlt':(i:Int) < (n:Int):=by omega
   have hmx:(i:Int)+1≤9223372036854775807:=by omega
   have HRD:=QW (mz:=wr§) HOR.out HNN.out (Nat.le_refl _)
   have cS:=HST.out i wr _ q p hlt HIR.out (fun b hb=>by simp [hb]) HRD
   have hni:n - i=(n - (i+1))+1:=by omega
   cases hS:st q p with
   | none =>
    rw [hS] at cS
    replace cS:Calls zG 136 #[zP R] wr (fun e w'=>e=pan pf∧Below w0§ w0 w'):=cS
    have HT2:Hid (T=none):=by show _=_; rw [HTR.out,hni]; show Option.map _ ((st q p).bind _)=_; rw [hS]; rfl
    clear HRD
    go_wp2_with fail
    refine cS.mono ?_
    rintro e w5 ⟨rfl,hb5⟩
    exact⟨rfl,by rw [HT2.out]; exact⟨rfl,hb5⟩⟩
   | some aq =>
    obtain⟨a,q2,p2⟩:=aq
    rw [hS] at cS
    replace cS:Calls zG 136 #[zP R] wr (fun e w'=>∃ x nb,e=.returned (mk x)∧Rel a x nb∧Rd w0 wr§ w' R (nb ++ (obx wr _ ++ (nbs ++ bs))) q2 s p2∧(∀ b ∈ nb,wr§≤b.1)∧wr§≤w'§):=cS
    have HT2:Hid (T=(Qd st (n - (i+1)) q2 p2).map fun r=>((al ++ [a]) ++ r.1,r.2)):=by
     show _=_
     rw [HTR.out,hni]
     show Option.map _ ((st q p).bind _)=_
     rw [hS,Option.bind_some,Option.map_map]
     congr 1
     funext r
     simp
    have HI2:Hid (Iq (i+1) q2):=HIQ.out i q p a q2 p2 hlt HIR.out hS
    clear HRD
    go_wp2_with fail
    refine cS.mono ?_
    rintro e w5 ⟨x,nb,rfl,hx,hr5,hf5,h55⟩
    have HO5:Hid (OwnK w0 w5 ((R,148,rdA q2 s p2) :: (nb ++ (nbs ++ bs))) 68 5 _ xs):=Jx HOR.out hr5 hf5
    have HN5:Hid (∀ b ∈ nb ++ (nbs ++ bs),b.1≠R):=fun b hb=>(hr5.K b (by rcases List.mem_append.1 hb with hb | hb <;> simp [hb])).2
    obtain⟨hxz,hxa⟩:=HRL.out a x nb hx
    have HXC:Hid ((mk x).cells=x):=HMK.out a x nb hx
    have HRS2:Hid (Rels Rel (al ++ [a]) (xs ++ [x]) (nb ++ nbs)):=Rels.snoc HRS.out hx (fun b hb b' hb'=>by
     have h1:=(Array.getElem?_eq_some_iff.1 (HOR.out.K b' (List.mem_cons_of_mem _ (List.mem_append_left _ hb'))).1).1
     have h2:=hf5 b hb
     omega)
    have hv1:=HVR.out.2.1
    have hv2:=HVR.out.2.2.1
    have hv3:=HVR.out.2.2.2
    have HV2:Hid ((∀ b ∈ nb ++ nbs,w§≤b.1)∧w§≤w5§):=⟨fun b hb=>by rcases List.mem_append.1 hb with hb | hb; exact Nat.le_trans hv3 (hf5 b hb); exact hv1 b hb,by omega⟩
    clear cS hr5 hf5 HOR HNN HRS HIR HTR hx
    go_wp2_with (first | (refine QA rfl 69 68 (.tmp 11) rfl x mk rfl HXC.out 5 _ Tryz.underlying69 48 inf68 rfl hxz (by decide) (by decide) ?_) | (refine Jj HO5.out 69 x hxz hxa _ 48 Tryz.underlying69 inf68 rfl (by decide) (by omega) (by decide) rfl (.tmp 9) (.tmp 12) rfl rfl rfl ?_; intro g cap w8 HO8 hg8 hs8))
    have hgg:w§≤g:=by
     rcases hg8 with hg8 | hg8
     ·exact hv2 g hg8
     ·have:=HV2.out.2; omega
    refine⟨⟨i+1,.slice (some ⟨g,0,none⟩) (i+1) cap,q2,p2,al ++ [a],xs ++ [x],nb ++ nbs,hlt,rfl,rfl,by rw [List.length_append,hxl]; rfl,?_,?_,HRS2,HI2,HT2,⟨fun e=>by omega,HV2.out.1,fun g' hg'=>?_,by have:=HV2.out.2; omega⟩⟩,by simp only [intOf]; omega⟩
    ·rw [List.append_assoc,← hxl]; exact HO8
    ·rw [List.append_assoc]; exact HN5
    ·have:g=g':=by simpa [Value.ownBlock] using hg'
     omega
  ·obtain rfl:i=n:=by omega
   have hnot:¬ (i:Int) < (i:Int):=by omega
   have HT2:Hid (T=some (al,q,p)):=by show _=_; rw [HTR.out,Nat.sub_self]; show some (al ++ [],q,p)=_; rw [List.append_nil]
   rcases HOR.out.R.2 with ⟨e1,e2⟩ | ⟨g,cap,cur,e1,e2,e3,e4,e5,e6,e7⟩
   ·subst e1
    have hi0:i=0:=by omega
    subst hi0
    have HRD:Hid (Rd w0 mz wr R ([] ++ (nbs ++ bs)) q s p):=HOR.out.rd HNN.out (by have:=HVR.out.2.2.2; have:=HMZ.out; omega)
    go_wp2_with fail
    go_ret
    rw [HT2.out]
    exact ⟨none, xs, [], nbs, rfl, HRS.out, hxl, fun V _ => ⟨by omega, by omega, fun j hj => by omega⟩, HRD.out, fun b hb => HVR.out.2.1 b (by simpa using hb), HVR.out.2.2.2, fun V _ => .inl ⟨rfl, rfl⟩, fun g hg => by cases hg⟩
   ·subst e1
    have hci:i≤cap:=by omega
    have hcm:(i:Int)≤(cap:Int):=by omega
    have hc9:cap≤9223372036854775807:=by unfold maxLen at e5; omega
    have HRD:Hid (Rd w0 mz wr R ([(g,68,cur)] ++ (nbs ++ bs)) q s p):=by
     have hh:=QW (mz:=mz) HOR.out HNN.out (by have:=HVR.out.2.2.2; have:=HMZ.out; omega)
     have ho:obx wr (.slice (some ⟨g,0,none⟩) xs.length cap) = [(g,68,cur)]:=by
      show (match wr.heap[g]? with | some (.cells cur e _)=>[(g,e,cur)] | _=>[])=_
      rw [e3]
     rw [ho] at hh
     exact hh
    have HKP:Hid (Keep [(g,68,cur)] (fun V=>SlAt V 5 (some ⟨g,0,none⟩) i xs)):=fun V hV=>by
     have h3:=hV (g,68,cur) (List.mem_singleton.2 rfl)
     refine⟨by omega,by omega,fun j hj=>⟨g,0,rfl,fun k hk=>?_⟩⟩
     rw [Co h3,Nat.zero_add]
     have hlt:j * 5+k < xs.length * 5:=by
      have:=Nat.mul_le_mul_right 5 hj
      rw [Nat.succ_mul] at this
      omega
     have h8:(cur.toList.take (xs.length * 5))[j * 5+k]? = cur[j * 5+k]?:=by rw [List.getElem?_take_of_lt hlt]; simp
     rw [← h8,e7,QR xs HOR.out.Z j hj k hk]
    have HOW:Hid (Keep [(g,68,cur)] (fun V=>OwR V 68 5 (some ⟨g,0,none⟩) i xs)):=fun V hV=>.inr ⟨g,cur,rfl,hV (g,68,cur) (List.mem_singleton.2 rfl),Nat.le_trans hci e5,by rw [e6]; exact Nat.mul_le_mul_right _ hci,by rw [hxl] at e7; exact e7⟩
    have HVB:Hid ((∀ b ∈ [(g,68,cur)] ++ nbs,w§≤b.1)∧w§≤wr§):=⟨fun b hb=>by
     rcases List.mem_append.1 hb with hb | hb
     ·rw [List.mem_singleton.1 hb]; exact HVR.out.2.2.1 g rfl
     ·exact HVR.out.2.1 b hb,HVR.out.2.2.2⟩
    have HRS2:Hid (Rels Rel al xs nbs∧xs.length=i):=⟨HRS.out,hxl⟩
    rw [hxl]
    clear hxl HOR HNN HRS HVR e2 e3 e4 e5 e6 e7
    go_wp2_with fail
    go_ret
    rw [HT2.out]
    exact⟨some ⟨g,0,none⟩,xs,[(g,68,cur)],nbs,rfl,HRS2.out.1,HRS2.out.2,HKP.out,HRD.out,HVB.out.1,HVB.out.2,HOW.out,fun g2 hg2=>⟨_,List.mem_singleton.2 rfl,by cases hg2; rfl⟩⟩
theorem Kr {mz:Nat}{α:Type}(st:RS→Int→Option (α × RS × Int)) (Rel:α→Array Value→List Bx→Prop) (mk:Array Value→Value) (Iq:Nat→RS→Prop) (R n:Nat) (bs:List Bx) (q:RS) (s:ByteArray) (p:Int) (w:World) (w0:World) (h:Rd w0 mz w R bs q s p) (hn:n≤100000) (hq0:Iq 0 q) (hmk:∀ a x nb,Rel a x nb→(mk x).cells=x) (hrel:∀ a x nb,Rel a x nb→x.size=1∧x.all (·.oneCell')=true) (hiq:∀ i q p a q' p',i < n→Iq i q→st q p=some (a,q',p')→Iq (i+1) q') (hst:∀ i V bs1 q p,i < n→Iq i q→(∀ b ∈ bs,b ∈ bs1)→Rd w0 V§ V R bs1 q s p→Calls zG 116 #[zP R] V (OutS w0 V§ R bs1 s Rel mk V§ (st q p))):Calls zG 115 #[zI n,.func (.func 116) #[zP R] #[]] w fun e w'=>OutL w0 mz R bs s Rel 69 1 n w§ (Qd st n q p) e w':=by
 have HMK:Hid (∀ a x nb,Rel a x nb→(mk x).cells=x):=hmk
 have HRL:Hid (∀ a x nb,Rel a x nb→x.size=1∧x.all (·.oneCell')=true):=hrel
 have HIQ:Hid (∀ i q p a q' p',i < n→Iq i q→st q p=some (a,q',p')→Iq (i+1) q'):=hiq
 have HST:Hid (∀ i V bs1 q p,i < n→Iq i q→(∀ b ∈ bs,b ∈ bs1)→Rd w0 V§ V R bs1 q s p→Calls zG 116 #[zP R] V (OutS w0 V§ R bs1 s Rel mk V§ (st q p))):=hst
 obtain⟨T,eT⟩:∃ T,Qd st n q p=T:=⟨_,rfl⟩
 rw [eT]
 have HT0:Hid (T=(Qd st (n - 0) q p).map fun r=>(([]:List α) ++ r.1,r.2)):=by
  show _=_
  rw [← eT,Nat.sub_zero]
  cases Qd st n q p with
  | none=>rfl
  | some r=>rfl
 have HW:Hid (w0§≤w§):=h.B.size
 have HMZ:Hid (mz≤w§):=h.M
 have HO0 : Hid (OwnK w0 w ((R, 148, rdA q s p) :: ([] ++ bs)) 69 1 (.slice none 0 0) []) := h.own ⟨by simp, .inl ⟨rfl, rfl⟩⟩ (by simp) (by simp [Value.ownBlock]) (by simp [Value.ownBlock])
 have HNR:Hid (∀ b ∈ bs,b.1≠R):=fun b hb=>(h.K b hb).2
 have hnm:(n:Int)≤9223372036854775807:=by omega
 have HI0:Hid (Iq 0 q):=hq0
 clear eT h hq0 hst hiq hrel hmk
 go_enter Tryz.func115,Tryz.ntmps115
 go_wp2_with fail
 go_loopw [5,7] (fun fv t wr=>∃ (i:Nat) (v:Value) (q:RS) (p:Int) (al:List α) (xs:List (Array Value)) (nbs:List Bx),i≤n∧fv=v∧t=zI i∧xs.length=i∧Hid (OwnK w0 wr ((R,148,rdA q s p) :: (nbs ++ bs)) 69 1 v xs)∧Hid (∀ b ∈ nbs ++ bs,b.1≠R)∧Hid (Rels Rel al xs nbs)∧Hid (Iq i q)∧Hid (T=(Qd st (n - i) q p).map fun r=>(al ++ r.1,r.2))∧Hid ((i=0→v=.slice none 0 0)∧(∀ b ∈ nbs,w§≤b.1)∧(∀ g,v.ownBlock=some g→w§≤g)∧w§≤wr§)) (fun _ t _=>n - (intOf t).toNat)
 case atStart=>exact⟨0,_,q,p,[],[],[],by omega,rfl,rfl,rfl,HO0,HNR,Rels.nil,HI0,HT0,fun _=>rfl,by simp,by simp [Value.ownBlock],Nat.le_refl _⟩
 case round =>
  obtain⟨i,v,q,p,al,xs,nbs,hi,rfl,rfl,hxl,HOR,HNN,HRS,HIR,HTR,HVR⟩:=hrel
  by_cases hlt:i < n
  ·have hlt':(i:Int) < (n:Int):=by omega
   have hmx:(i:Int)+1≤9223372036854775807:=by omega
   have HRD:=QW (mz:=wr§) HOR.out HNN.out (Nat.le_refl _)
   have cS:=HST.out i wr _ q p hlt HIR.out (fun b hb=>by simp [hb]) HRD
   have hni:n - i=(n - (i+1))+1:=by omega
   cases hS:st q p with
   | none =>
    rw [hS] at cS
    replace cS:Calls zG 116 #[zP R] wr (fun e w'=>e=pan pf∧Below w0§ w0 w'):=cS
    have HT2:Hid (T=none):=by show _=_; rw [HTR.out,hni]; show Option.map _ ((st q p).bind _)=_; rw [hS]; rfl
    clear HRD
    go_wp2_with fail
    refine cS.mono ?_
    rintro e w5 ⟨rfl,hb5⟩
    exact⟨rfl,by rw [HT2.out]; exact⟨rfl,hb5⟩⟩
   | some aq =>
    obtain⟨a,q2,p2⟩:=aq
    rw [hS] at cS
    replace cS:Calls zG 116 #[zP R] wr (fun e w'=>∃ x nb,e=.returned (mk x)∧Rel a x nb∧Rd w0 wr§ w' R (nb ++ (obx wr _ ++ (nbs ++ bs))) q2 s p2∧(∀ b ∈ nb,wr§≤b.1)∧wr§≤w'§):=cS
    have HT2:Hid (T=(Qd st (n - (i+1)) q2 p2).map fun r=>((al ++ [a]) ++ r.1,r.2)):=by
     show _=_
     rw [HTR.out,hni]
     show Option.map _ ((st q p).bind _)=_
     rw [hS,Option.bind_some,Option.map_map]
     congr 1
     funext r
     simp
    have HI2:Hid (Iq (i+1) q2):=HIQ.out i q p a q2 p2 hlt HIR.out hS
    clear HRD
    go_wp2_with fail
    refine cS.mono ?_
    rintro e w5 ⟨x,nb,rfl,hx,hr5,hf5,h55⟩
    have HO5:Hid (OwnK w0 w5 ((R,148,rdA q2 s p2) :: (nb ++ (nbs ++ bs))) 69 1 _ xs):=Jx HOR.out hr5 hf5
    have HN5:Hid (∀ b ∈ nb ++ (nbs ++ bs),b.1≠R):=fun b hb=>(hr5.K b (by rcases List.mem_append.1 hb with hb | hb <;> simp [hb])).2
    obtain⟨hxz,hxa⟩:=HRL.out a x nb hx
    have HXC:Hid ((mk x).cells=x):=HMK.out a x nb hx
    have HRS2:Hid (Rels Rel (al ++ [a]) (xs ++ [x]) (nb ++ nbs)):=Rels.snoc HRS.out hx (fun b hb b' hb'=>by
     have h1:=(Array.getElem?_eq_some_iff.1 (HOR.out.K b' (List.mem_cons_of_mem _ (List.mem_append_left _ hb'))).1).1
     have h2:=hf5 b hb
     omega)
    have hv1:=HVR.out.2.1
    have hv2:=HVR.out.2.2.1
    have hv3:=HVR.out.2.2.2
    have HV2:Hid ((∀ b ∈ nb ++ nbs,w§≤b.1)∧w§≤w5§):=⟨fun b hb=>by rcases List.mem_append.1 hb with hb | hb; exact Nat.le_trans hv3 (hf5 b hb); exact hv1 b hb,by omega⟩
    clear cS hr5 hf5 HOR HNN HRS HIR HTR hx
    go_wp2_with (first | (refine QA rfl 24 69 (.tmp 11) rfl x mk rfl HXC.out 1 _ Tryz.underlying24 24 inf69 rfl hxz (by decide) (by decide) ?_) | (refine Jj HO5.out 24 x hxz hxa _ 24 Tryz.underlying24 inf69 rfl (by decide) (by omega) (by decide) rfl (.tmp 9) (.tmp 12) rfl rfl rfl ?_; intro g cap w8 HO8 hg8 hs8))
    have hgg:w§≤g:=by
     rcases hg8 with hg8 | hg8
     ·exact hv2 g hg8
     ·have:=HV2.out.2; omega
    refine⟨⟨i+1,.slice (some ⟨g,0,none⟩) (i+1) cap,q2,p2,al ++ [a],xs ++ [x],nb ++ nbs,hlt,rfl,rfl,by rw [List.length_append,hxl]; rfl,?_,?_,HRS2,HI2,HT2,⟨fun e=>by omega,HV2.out.1,fun g' hg'=>?_,by have:=HV2.out.2; omega⟩⟩,by simp only [intOf]; omega⟩
    ·rw [List.append_assoc,← hxl]; exact HO8
    ·rw [List.append_assoc]; exact HN5
    ·have:g=g':=by simpa [Value.ownBlock] using hg'
     omega
  ·obtain rfl:i=n:=by omega
   have hnot:¬ (i:Int) < (i:Int):=by omega
   have HT2:Hid (T=some (al,q,p)):=by show _=_; rw [HTR.out,Nat.sub_self]; show some (al ++ [],q,p)=_; rw [List.append_nil]
   rcases HOR.out.R.2 with ⟨e1,e2⟩ | ⟨g,cap,cur,e1,e2,e3,e4,e5,e6,e7⟩
   ·subst e1
    have hi0:i=0:=by omega
    subst hi0
    have HRD:Hid (Rd w0 mz wr R ([] ++ (nbs ++ bs)) q s p):=HOR.out.rd HNN.out (by have:=HVR.out.2.2.2; have:=HMZ.out; omega)
    go_wp2_with fail
    go_ret
    rw [HT2.out]
    exact ⟨none, xs, [], nbs, rfl, HRS.out, hxl, fun V _ => ⟨by omega, by omega, fun j hj => by omega⟩, HRD.out, fun b hb => HVR.out.2.1 b (by simpa using hb), HVR.out.2.2.2, fun V _ => .inl ⟨rfl, rfl⟩, fun g hg => by cases hg⟩
   ·subst e1
    have hci:i≤cap:=by omega
    have hcm:(i:Int)≤(cap:Int):=by omega
    have hc9:cap≤9223372036854775807:=by unfold maxLen at e5; omega
    have HRD:Hid (Rd w0 mz wr R ([(g,69,cur)] ++ (nbs ++ bs)) q s p):=by
     have hh:=QW (mz:=mz) HOR.out HNN.out (by have:=HVR.out.2.2.2; have:=HMZ.out; omega)
     have ho:obx wr (.slice (some ⟨g,0,none⟩) xs.length cap) = [(g,69,cur)]:=by
      show (match wr.heap[g]? with | some (.cells cur e _)=>[(g,e,cur)] | _=>[])=_
      rw [e3]
     rw [ho] at hh
     exact hh
    have HKP:Hid (Keep [(g,69,cur)] (fun V=>SlAt V 1 (some ⟨g,0,none⟩) i xs)):=fun V hV=>by
     have h3:=hV (g,69,cur) (List.mem_singleton.2 rfl)
     refine⟨by omega,by omega,fun j hj=>⟨g,0,rfl,fun k hk=>?_⟩⟩
     rw [Co h3,Nat.zero_add]
     have hlt:j * 1+k < xs.length * 1:=by
      have:=Nat.mul_le_mul_right 1 hj
      rw [Nat.succ_mul] at this
      omega
     have h8:(cur.toList.take (xs.length * 1))[j * 1+k]? = cur[j * 1+k]?:=by rw [List.getElem?_take_of_lt hlt]; simp
     rw [← h8,e7,QR xs HOR.out.Z j hj k hk]
    have HOW:Hid (Keep [(g,69,cur)] (fun V=>OwR V 69 1 (some ⟨g,0,none⟩) i xs)):=fun V hV=>.inr ⟨g,cur,rfl,hV (g,69,cur) (List.mem_singleton.2 rfl),Nat.le_trans hci e5,by rw [e6]; exact Nat.mul_le_mul_right _ hci,by rw [hxl] at e7; exact e7⟩
    have HVB:Hid ((∀ b ∈ [(g,69,cur)] ++ nbs,w§≤b.1)∧w§≤wr§):=⟨fun b hb=>by
     rcases List.mem_append.1 hb with hb | hb
     ·rw [List.mem_singleton.1 hb]; exact HVR.out.2.2.1 g rfl
     ·exact HVR.out.2.1 b hb,HVR.out.2.2.2⟩
    have HRS2:Hid (Rels Rel al xs nbs∧xs.length=i):=⟨HRS.out,hxl⟩
    rw [hxl]
    clear hxl HOR HNN HRS HVR e2 e3 e4 e5 e6 e7
    go_wp2_with fail
    go_ret
    rw [HT2.out]
    exact⟨some ⟨g,0,none⟩,xs,[(g,69,cur)],nbs,rfl,HRS2.out.1,HRS2.out.2,HKP.out,HRD.out,HVB.out.1,HVB.out.2,HOW.out,fun g2 hg2=>⟨_,List.mem_singleton.2 rfl,by cases hg2; rfl⟩⟩
end O
end Go.Proofs.YteedmmljahgpjaaGreatDoor
