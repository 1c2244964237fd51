import Derived.Test.YteedmmljahgpjaaGreatDoorA0
import Derived.Test.YteedmmljahgpjaaGreatDoorA10
import Derived.Deep.RegionHeld
namespace Go.Proofs.YteedmmljahgpjaaGreatDoor
set_option maxRecDepth 100000
set_option maxHeartbeats 4000000
open Go.RowKit
set_option linter.unusedVariables false
set_option linter.unusedSimpArgs false
abbrev Bx:Type:=Nat × Nat × Array Value
def Keep (nb:List Bx) (F:World→Prop):Prop:=∀ V:World,(∀ b ∈ nb,V.heap[b.1]? = some (.cells b.2.2 b.2.1 (0,0)))→F V
def Qd {α:Type}(st:RS→Int→Option (α × RS × Int)):Nat→RS→Int→Option (List α × RS × Int)
 | 0,q,p=>some ([],q,p)
 | n+1,q,p=>(st q p).bind fun d=>(Qd st n d.2.1 d.2.2).map fun r=>(d.1 :: r.1,r.2)
inductive Rels {α:Type}(Rel:α→Array Value→List Bx→Prop):List α→List (Array Value)→List Bx→Prop
 | nil:Rels Rel [] [] []
 | snoc {al:List α}{xs:List (Array Value)}{nbs:List Bx}{a:α}{x:Array Value}{nb:List Bx}:Rels Rel al xs nbs→Rel a x nb→Rels Rel (al ++ [a]) (xs ++ [x]) (nb ++ nbs)
theorem Rels.len {α:Type}{Rel:α→Array Value→List Bx→Prop}{al:List α}{xs:List (Array Value)}{nbs:List Bx}(h:Rels Rel al xs nbs):al.length=xs.length:=by
 induction h with
 | nil=>rfl
 | snoc _ _ ih=>simp [ih]
theorem Rd.own {mz:Nat}{w0 V:World}{R:Nat}{bs:List Bx}{q:RS}{s:ByteArray}{p:Int}(h:Rd w0 mz V R bs q s p) {e sz:Nat}{v:Value}{xs:List (Array Value)}(r:V.ownsRow w0§ e sz v xs.length (xs.map Array.toList).flatten) (z:∀ x ∈ xs,x.size=sz) (n1:v.ownBlock≠some R) (n2:∀ b ∈ bs,v.ownBlock≠some b.1):OwnK w0 V ((R,148,rdA q s p) :: bs) e sz v xs :=
 ⟨r,z,h.B,fun b hb=>by
  rcases List.mem_cons.1 hb with rfl | hb
  ·exact⟨h.H,h.G,n1⟩
  ·exact⟨(h.K b hb).1,h.L b hb,n2 b hb⟩⟩
theorem OwnK.rd {mz:Nat}{w0 V:World}{R:Nat}{bs:List Bx}{q:RS}{s:ByteArray}{p:Int}{e sz:Nat}{v:Value}{xs:List (Array Value)}(h:OwnK w0 V ((R,148,rdA q s p) :: bs) e sz v xs) (hN:∀ b ∈ bs,b.1≠R) (hM:mz≤V§):Rd w0 mz V R bs q s p :=
 ⟨h.box,h.B,(h.K _ (List.mem_cons_self ..)).2.1,fun b hb=>⟨(h.K b (List.mem_cons_of_mem _ hb)).1,hN b hb⟩,fun b hb=>(h.K b (List.mem_cons_of_mem _ hb)).2.1,hM⟩
def obx (V:World) (v:Value):List Bx:=match v.ownBlock with | some g=>(match V.heap[g]? with | some (.cells cur e _)=>[(g,e,cur)] | _=>[]) | none=>[]
theorem QW {mz:Nat}{w0 V:World}{R:Nat}{bs:List Bx}{q:RS}{s:ByteArray}{p:Int}{e sz:Nat}{v:Value}{xs:List (Array Value)}(h:OwnK w0 V ((R,148,rdA q s p) :: bs) e sz v xs) (hN:∀ b ∈ bs,b.1≠R) (hM:mz≤V§):Rd w0 mz V R (obx V v ++ bs) q s p:=by
 have h1:=h.rd hN hM
 have hR:=(h.K _ (List.mem_cons_self ..)).2.2
 unfold obx
 rcases h.R.2 with ⟨e1,e2⟩ | ⟨g,cap,cur,e1,e2,e3,_⟩
 ·rw [e1]
  show Rd w0 mz V R ([] ++ bs) q s p
  simpa using h1
 ·rw [e1]
  show Rd w0 mz V R ((match V.heap[g]? with | some (.cells cur e _)=>[(g,e,cur)] | _=>[]) ++ bs) q s p
  rw [e3]
  refine⟨h1.H,h1.B,h1.G,fun b hb=>?_,fun b hb=>?_,hM⟩
  ·rcases List.mem_cons.1 hb with rfl | hb
   ·exact⟨e3,fun e=>hR (by rw [e1]; show some g=some R; rw [show g=R from e])⟩
   ·exact h1.K b hb
  ·rcases List.mem_cons.1 hb with rfl | hb
   ·exact e2
   ·exact h1.L b hb
theorem Jx {mz:Nat}{w0 V V':World}{R:Nat}{bs bs':List Bx}{q q':RS}{s:ByteArray}{p p':Int}{e sz:Nat}{v:Value}{xs:List (Array Value)}(h:OwnK w0 V ((R,148,rdA q s p) :: bs) e sz v xs) (h':Rd w0 mz V' R (bs' ++ (obx V v ++ bs)) q' s p') (hf:∀ b ∈ bs',V§≤b.1):OwnK w0 V' ((R,148,rdA q' s p') :: (bs' ++ bs)) e sz v xs:=by
 have hR:=(h.K _ (List.mem_cons_self ..)).2.2
 have hsub:Rd w0 mz V' R (bs' ++ bs) q' s p':=⟨h'.H,h'.B,h'.G,fun b hb=>h'.K b (by rcases List.mem_append.1 hb with hb | hb <;> simp [hb]),fun b hb=>h'.L b (by rcases List.mem_append.1 hb with hb | hb <;> simp [hb]),h'.M⟩
 refine hsub.own ?_ h.Z hR fun b hb=>?_
 ·refine owns_blk' h.R fun g hg=>?_
  rcases h.R.2 with ⟨e1,e2⟩ | ⟨g',cap,cur,e1,e2,e3,_⟩
  ·rw [e1] at hg; cases hg
  ·have hgg:g'=g:=by rw [e1] at hg; simpa [Value.ownBlock] using hg
   subst hgg
   have hm:(g',e,cur) ∈ obx V v:=by
    unfold obx
    rw [e1]
    show _ ∈ (match V.heap[g']? with | some (.cells cur e _)=>[(g',e,cur)] | _=>[])
    rw [e3]
    exact List.mem_singleton.2 rfl
   rw [e3]
   exact (h'.K (g',e,cur) (List.mem_append_right _ (List.mem_append_left _ hm))).1
 ·rcases List.mem_append.1 hb with hb | hb
  ·intro e1
   have h1:=(h.lt _ e1).2
   have h2:=hf b hb
   omega
  ·exact (h.K b (List.mem_cons_of_mem _ hb)).2.2
def OutL {α:Type}(w0:World) (mz:Nat) (R:Nat) (bs:List Bx) (s:ByteArray) (Rel:α→Array Value→List Bx→Prop) (sz n B:Nat) (r:Option (List α × RS × Int)) (e:Ending) (w':World):Prop :=
 match r with
 | some (al,q,p)=>∃ a xs nb nbs,e=.returned (.slice a n n)∧Rels Rel al xs nbs∧xs.length=n∧Keep nb (fun V=>SlAt V sz a n xs)∧Rd w0 mz w' R (nb ++ (nbs ++ bs)) q s p∧(∀ b ∈ nb ++ nbs,B≤b.1)∧B≤w'§
 | none=>e=pan pf∧Below w0§ w0 w'
def OutS {α:Type}(w0:World) (mz:Nat) (R:Nat) (bs:List Bx) (s:ByteArray) (Rel:α→Array Value→List Bx→Prop) (mk:Array Value→Value) (B:Nat) (r:Option (α × RS × Int)) (e:Ending) (w':World):Prop :=
 match r with
 | some (a,q,p)=>∃ x nb,e=.returned (mk x)∧Rel a x nb∧Rd w0 mz w' R (nb ++ bs) q s p∧(∀ b ∈ nb,B≤b.1)∧B≤w'§
 | none=>e=pan pf∧Below w0§ w0 w'
theorem QA {w:World}{ops:Array Oper}{rest:List Oper}{o:Oper}{a:Act}{Q:Exit→Act→World→Prop}(hgd:o.guard=none) (t e:TypeId) (x:Operand) (ho:o.op=.buildSlice t 1 #[(0,x)])
  (cs:Array Value) (mk:Array Value→Value) (hx:a.eval x=mk cs) (hc:(mk cs).cells=cs) (n:Nat) (z:Value) (ht:Tryz.prog.underlying t=some (.slice e)) (by_:Nat) (hi:(Tryz.prog.info? e).map (fun i=>(i.zero,i.size,i.bytes))=some (some z,n,by_)) (hz:z.cells.size=n) (hn:cs.size=n) (h0:0 < n) (h1:n≤1000)
  (h:wpList Tryz.prog ops Q rest (a.put o.dst (.slice (some ⟨w§,0,none⟩) 1 1)) (w.alloc (.cells cs e))):wpList Tryz.prog ops Q (o :: rest) a w :=
 Qq hgd t e x ho cs (mk cs) hx hc n z ht by_ hi hz hn h0 h1 h
theorem inf2:(Tryz.prog.info? 2).map (fun i=>(i.zero,i.size,i.bytes))=some (some (zI 0),1,8):=by kernel_rfl
theorem inf61:(Tryz.prog.info? 61).map (fun i=>(i.zero,i.size,i.bytes))=some (some (.agg #[zU 0,zI 0]),2,16):=by kernel_rfl
theorem inf85:(Tryz.prog.info? 85).map (fun i=>(i.zero,i.size,i.bytes))=some (some (.agg zA1),11,80):=by kernel_rfl
theorem inf68:(Tryz.prog.info? 68).map (fun i=>(i.zero,i.size,i.bytes))=some (some (.agg zA4),5,48):=by kernel_rfl
theorem inf69:(Tryz.prog.info? 69).map (fun i=>(i.zero,i.size,i.bytes))=some (some (.slice none 0 0),1,24):=by kernel_rfl
theorem Jj {w V:World}{bs:List (Nat × Nat × Array Value)}{e sz:Nat}{v:Value}{vs:List (Array Value)}(hL:OwnK w V bs e sz v vs) (t:TypeId) (cs:Array Value) (hcs:cs.size=sz) (h1:cs.all (·.oneCell')=true)
  (z:Value) (by_:Nat) (ht:Tryz.prog.underlying t=some (.slice e)) (hi:(Tryz.prog.info? e).map (fun i=>(i.zero,i.size,i.bytes))=some (some z,sz,by_)) (hz:z.cells.size=sz) (h0:0 < sz) (hn:vs.length≤1000000) (hby:by_≤1000)
  {ops:Array Oper}{rest:List Oper}{o:Oper}{a:Act}{Q:Exit→Act→World→Prop}(hgd:o.guard=none) (d x:Operand)
  (ho:o.op=.call { callee:=.builtin .append,args:=#[d,x],argTypes:=#[t,t] }) (hs:a.eval d=v) (hx:a.eval x=.slice (some ⟨V§,0,none⟩) 1 1)
  (h:∀ g cap w',OwnK w w' bs e sz (.slice (some ⟨g,0,none⟩) (vs.length+1) cap) (vs ++ [cs])→(v.ownBlock=some g∨V§≤g)→V§≤w'§→wpList Tryz.prog ops Q rest (a.put o.dst (.slice (some ⟨g,0,none⟩) (vs.length+1) cap)) w') :
  wpList Tryz.prog ops Q (o :: rest) a (V.alloc (.cells cs e)):=by
 obtain⟨i0,hi0,hz0,hz1,hz2⟩:=info_parts hi
 have hsz:=Sa V (.cells cs e)
 have hA:OwnK w (V.alloc (.cells cs e)) bs e sz v vs:=hL.on (Bn _ _)
 have hwV:=hL.B.size
 have hby2:(vs.length+1) * by_≤140737488355328:=by
  have:(vs.length+1) * by_≤1000001 * 1000:=Nat.mul_le_mul (by omega) hby
  omega
 refine wpList_append_lies _ hgd d x t ho w§ e i0 z sz by_ ht hi0 hz0 hz1 hz2 hz h0 v vs.length _ hs hA.R ⟨V§,0,none⟩ 1 1 cs.toList hx (by simp; exact hcs) (World.news_of_block (Hn V _)) (fun u hu=>(Array.all_eq_true_iff_forall_mem.1 h1) u (by simpa using hu)) (by decide) (by unfold maxLen; omega) hby2 (by omega) _ rfl ?_
 intro g cap w' h2 h3 h4 h5
 refine h g cap w' ⟨?_,?_,?_,?_⟩ (h4.imp id fun e=>by omega) (by have:=h3.size; omega)
 ·rw [List.length_append,List.length_singleton,List.map_append,List.flatten_append]
  simpa using h2
 ·intro y hy
  rcases List.mem_append.1 hy with hy | hy
  ·exact hL.Z y hy
  ·rw [List.mem_singleton.1 hy]; exact hcs
 ·exact hA.B.grown h3 (by omega) fun k hk=>(hA.lt k hk).1
 ·intro p hp
  obtain⟨q1,q2,q3⟩:=hA.K p hp
  have hl:=(Array.getElem?_eq_some_iff.1 q1).1
  refine⟨(h3.block _ hl (fun e=>q3 e.symm)).trans q1,q2,fun e=>?_⟩
  have hg:g=p.1:=by simpa [Value.ownBlock] using e
  rcases h4 with h4 | h4
  ·exact q3 (by rw [h4,hg])
  ·omega
theorem Kt {mz:Nat}{α:Type}(st:RS→Int→Option (α × RS × Int)) (Rel:α→Array Value→List Bx→Prop) (mk:Array Value→Value) (Iq:Nat→RS→Prop) (R n:Nat) (bs:List Bx) (q:RS) (s:ByteArray) (p:Int) (w:World) (w0:World) (h:Rd w0 mz w R bs q s p) (hn:n≤100000) (hq0:Iq 0 q) (hmk:∀ a x nb,Rel a x nb→(mk x).cells=x) (hrel:∀ a x nb,Rel a x nb→x.size=1∧x.all (·.oneCell')=true) (hiq:∀ i q p a q' p',i < n→Iq i q→st q p=some (a,q',p')→Iq (i+1) q') (hst:∀ i V bs1 q p,i < n→Iq i q→(∀ b ∈ bs,b ∈ bs1)→Rd w0 V§ V R bs1 q s p→Calls zG 112 #[zP R] V (OutS w0 V§ R bs1 s Rel mk V§ (st q p))):Calls zG 110 #[zI n,.func (.func 112) #[zP R] #[]] w fun e w'=>OutL w0 mz R bs s Rel 1 n w§ (Qd st n q p) e w':=by
 have HMK:Hid (∀ a x nb,Rel a x nb→(mk x).cells=x):=hmk
 have HRL:Hid (∀ a x nb,Rel a x nb→x.size=1∧x.all (·.oneCell')=true):=hrel
 have HIQ:Hid (∀ i q p a q' p',i < n→Iq i q→st q p=some (a,q',p')→Iq (i+1) q'):=hiq
 have HST:Hid (∀ i V bs1 q p,i < n→Iq i q→(∀ b ∈ bs,b ∈ bs1)→Rd w0 V§ V R bs1 q s p→Calls zG 112 #[zP R] V (OutS w0 V§ R bs1 s Rel mk V§ (st q p))):=hst
 obtain⟨T,eT⟩:∃ T,Qd st n q p=T:=⟨_,rfl⟩
 rw [eT]
 have HT0:Hid (T=(Qd st (n - 0) q p).map fun r=>(([]:List α) ++ r.1,r.2)):=by
  show _=_
  rw [← eT,Nat.sub_zero]
  cases Qd st n q p with
  | none=>rfl
  | some r=>rfl
 have HW:Hid (w0§≤w§):=h.B.size
 have HMZ:Hid (mz≤w§):=h.M
 have HO0 : Hid (OwnK w0 w ((R, 148, rdA q s p) :: ([] ++ bs)) 2 1 (.slice none 0 0) []) := h.own ⟨by simp, .inl ⟨rfl, rfl⟩⟩ (by simp) (by simp [Value.ownBlock]) (by simp [Value.ownBlock])
 have HNR:Hid (∀ b ∈ bs,b.1≠R):=fun b hb=>(h.K b hb).2
 have hnm:(n:Int)≤9223372036854775807:=by omega
 have HI0:Hid (Iq 0 q):=hq0
 clear eT h hq0 hst hiq hrel hmk
 go_enter Tryz.func110,Tryz.ntmps110
 go_wp2_with fail
 go_loopw [5,7] (fun fv t wr=>∃ (i:Nat) (v:Value) (q:RS) (p:Int) (al:List α) (xs:List (Array Value)) (nbs:List Bx),i≤n∧fv=v∧t=zI i∧xs.length=i∧Hid (OwnK w0 wr ((R,148,rdA q s p) :: (nbs ++ bs)) 2 1 v xs)∧Hid (∀ b ∈ nbs ++ bs,b.1≠R)∧Hid (Rels Rel al xs nbs)∧Hid (Iq i q)∧Hid (T=(Qd st (n - i) q p).map fun r=>(al ++ r.1,r.2))∧Hid ((i=0→v=.slice none 0 0)∧(∀ b ∈ nbs,w§≤b.1)∧(∀ g,v.ownBlock=some g→w§≤g)∧w§≤wr§)) (fun _ t _=>n - (intOf t).toNat)
 case atStart=>exact⟨0,_,q,p,[],[],[],by omega,rfl,rfl,rfl,HO0,HNR,Rels.nil,HI0,HT0,fun _=>rfl,by simp,by simp [Value.ownBlock],Nat.le_refl _⟩
 case round =>
  obtain⟨i,v,q,p,al,xs,nbs,hi,rfl,rfl,hxl,HOR,HNN,HRS,HIR,HTR,HVR⟩:=hrel
  by_cases hlt:i < n
  ·have hlt':(i:Int) < (n:Int):=by omega
   have hmx:(i:Int)+1≤9223372036854775807:=by omega
   have HRD:=QW (mz:=wr§) HOR.out HNN.out (Nat.le_refl _)
   have cS:=HST.out i wr _ q p hlt HIR.out (fun b hb=>by simp [hb]) HRD
   have hni:n - i=(n - (i+1))+1:=by omega
   cases hS:st q p with
   | none =>
    rw [hS] at cS
    replace cS:Calls zG 112 #[zP R] wr (fun e w'=>e=pan pf∧Below w0§ w0 w'):=cS
    have HT2:Hid (T=none):=by show _=_; rw [HTR.out,hni]; show Option.map _ ((st q p).bind _)=_; rw [hS]; rfl
    clear HRD
    go_wp2_with fail
    refine cS.mono ?_
    rintro e w5 ⟨rfl,hb5⟩
    exact⟨rfl,by rw [HT2.out]; exact⟨rfl,hb5⟩⟩
   | some aq =>
    obtain⟨a,q2,p2⟩:=aq
    rw [hS] at cS
    replace cS:Calls zG 112 #[zP R] wr (fun e w'=>∃ x nb,e=.returned (mk x)∧Rel a x nb∧Rd w0 wr§ w' R (nb ++ (obx wr _ ++ (nbs ++ bs))) q2 s p2∧(∀ b ∈ nb,wr§≤b.1)∧wr§≤w'§):=cS
    have HT2:Hid (T=(Qd st (n - (i+1)) q2 p2).map fun r=>((al ++ [a]) ++ r.1,r.2)):=by
     show _=_
     rw [HTR.out,hni]
     show Option.map _ ((st q p).bind _)=_
     rw [hS,Option.bind_some,Option.map_map]
     congr 1
     funext r
     simp
    have HI2:Hid (Iq (i+1) q2):=HIQ.out i q p a q2 p2 hlt HIR.out hS
    clear HRD
    go_wp2_with fail
    refine cS.mono ?_
    rintro e w5 ⟨x,nb,rfl,hx,hr5,hf5,h55⟩
    have HO5:Hid (OwnK w0 w5 ((R,148,rdA q2 s p2) :: (nb ++ (nbs ++ bs))) 2 1 _ xs):=Jx HOR.out hr5 hf5
    have HN5:Hid (∀ b ∈ nb ++ (nbs ++ bs),b.1≠R):=fun b hb=>(hr5.K b (by rcases List.mem_append.1 hb with hb | hb <;> simp [hb])).2
    obtain⟨hxz,hxa⟩:=HRL.out a x nb hx
    have HXC:Hid ((mk x).cells=x):=HMK.out a x nb hx
    have HRS2:Hid (Rels Rel (al ++ [a]) (xs ++ [x]) (nb ++ nbs)):=Rels.snoc HRS.out hx
    have hv1:=HVR.out.2.1
    have hv2:=HVR.out.2.2.1
    have hv3:=HVR.out.2.2.2
    have HV2:Hid ((∀ b ∈ nb ++ nbs,w§≤b.1)∧w§≤w5§):=⟨fun b hb=>by rcases List.mem_append.1 hb with hb | hb; exact Nat.le_trans hv3 (hf5 b hb); exact hv1 b hb,by omega⟩
    clear cS hr5 hf5 HOR HNN HRS HIR HTR hx
    go_wp2_with (first | (refine QA rfl 22 2 (.tmp 11) rfl x mk rfl HXC.out 1 _ Tryz.underlying22 8 inf2 rfl hxz (by decide) (by decide) ?_) | (refine Jj HO5.out 22 x hxz hxa _ 8 Tryz.underlying22 inf2 rfl (by decide) (by omega) (by decide) rfl (.tmp 9) (.tmp 12) rfl rfl rfl ?_; intro g cap w8 HO8 hg8 hs8))
    have hgg:w§≤g:=by
     rcases hg8 with hg8 | hg8
     ·exact hv2 g hg8
     ·have:=HV2.out.2; omega
    refine⟨⟨i+1,.slice (some ⟨g,0,none⟩) (i+1) cap,q2,p2,al ++ [a],xs ++ [x],nb ++ nbs,hlt,rfl,rfl,by rw [List.length_append,hxl]; rfl,?_,?_,HRS2,HI2,HT2,⟨fun e=>by omega,HV2.out.1,fun g' hg'=>?_,by have:=HV2.out.2; omega⟩⟩,by simp only [intOf]; omega⟩
    ·rw [List.append_assoc,← hxl]; exact HO8
    ·rw [List.append_assoc]; exact HN5
    ·have:g=g':=by simpa [Value.ownBlock] using hg'
     omega
  ·obtain rfl:i=n:=by omega
   have hnot:¬ (i:Int) < (i:Int):=by omega
   have HT2:Hid (T=some (al,q,p)):=by show _=_; rw [HTR.out,Nat.sub_self]; show some (al ++ [],q,p)=_; rw [List.append_nil]
   rcases HOR.out.R.2 with ⟨e1,e2⟩ | ⟨g,cap,cur,e1,e2,e3,e4,e5,e6,e7⟩
   ·subst e1
    have hi0:i=0:=by omega
    subst hi0
    have HRD:Hid (Rd w0 mz wr R ([] ++ (nbs ++ bs)) q s p):=HOR.out.rd HNN.out (by have:=HVR.out.2.2.2; have:=HMZ.out; omega)
    go_wp2_with fail
    go_ret
    rw [HT2.out]
    exact⟨none,xs,[],nbs,rfl,HRS.out,hxl,fun V _=>⟨by omega,by omega,fun j hj=>by omega⟩,HRD.out,fun b hb=>HVR.out.2.1 b (by simpa using hb),HVR.out.2.2.2⟩
   ·subst e1
    have hci:i≤cap:=by omega
    have hcm:(i:Int)≤(cap:Int):=by omega
    have hc9:cap≤9223372036854775807:=by unfold maxLen at e5; omega
    have HRD:Hid (Rd w0 mz wr R ([(g,2,cur)] ++ (nbs ++ bs)) q s p):=by
     have hh:=QW (mz:=mz) HOR.out HNN.out (by have:=HVR.out.2.2.2; have:=HMZ.out; omega)
     have ho:obx wr (.slice (some ⟨g,0,none⟩) xs.length cap) = [(g,2,cur)]:=by
      show (match wr.heap[g]? with | some (.cells cur e _)=>[(g,e,cur)] | _=>[])=_
      rw [e3]
     rw [ho] at hh
     exact hh
    have HKP:Hid (Keep [(g,2,cur)] (fun V=>SlAt V 1 (some ⟨g,0,none⟩) i xs)):=fun V hV=>by
     have h3:=hV (g,2,cur) (List.mem_singleton.2 rfl)
     refine⟨by omega,by omega,fun j hj=>⟨g,0,rfl,fun k hk=>?_⟩⟩
     rw [Co h3,Nat.zero_add]
     have hlt:j * 1+k < xs.length * 1:=by
      have:=Nat.mul_le_mul_right 1 hj
      rw [Nat.succ_mul] at this
      omega
     have h8:(cur.toList.take (xs.length * 1))[j * 1+k]? = cur[j * 1+k]?:=by rw [List.getElem?_take_of_lt hlt]; simp
     rw [← h8,e7,QR xs HOR.out.Z j hj k hk]
    have HVB:Hid ((∀ b ∈ [(g,2,cur)] ++ nbs,w§≤b.1)∧w§≤wr§):=⟨fun b hb=>by
     rcases List.mem_append.1 hb with hb | hb
     ·rw [List.mem_singleton.1 hb]; exact HVR.out.2.2.1 g rfl
     ·exact HVR.out.2.1 b hb,HVR.out.2.2.2⟩
    have HRS2:Hid (Rels Rel al xs nbs∧xs.length=i):=⟨HRS.out,hxl⟩
    rw [hxl]
    clear hxl HOR HNN HRS HVR e2 e3 e4 e5 e6 e7
    go_wp2_with fail
    go_ret
    rw [HT2.out]
    exact⟨some ⟨g,0,none⟩,xs,[(g,2,cur)],nbs,rfl,HRS2.out.1,HRS2.out.2,HKP.out,HRD.out,HVB.out.1,HVB.out.2⟩
theorem Ks {mz:Nat}{α:Type}(st:RS→Int→Option (α × RS × Int)) (Rel:α→Array Value→List Bx→Prop) (mk:Array Value→Value) (Iq:Nat→RS→Prop) (R n:Nat) (bs:List Bx) (q:RS) (s:ByteArray) (p:Int) (w:World) (w0:World) (h:Rd w0 mz w R bs q s p) (hn:n≤100000) (hq0:Iq 0 q) (hmk:∀ a x nb,Rel a x nb→(mk x).cells=x) (hrel:∀ a x nb,Rel a x nb→x.size=2∧x.all (·.oneCell')=true) (hiq:∀ i q p a q' p',i < n→Iq i q→st q p=some (a,q',p')→Iq (i+1) q') (hst:∀ i V bs1 q p,i < n→Iq i q→(∀ b ∈ bs,b ∈ bs1)→Rd w0 V§ V R bs1 q s p→Calls zG 114 #[zP R] V (OutS w0 V§ R bs1 s Rel mk V§ (st q p))):Calls zG 113 #[zI n,.func (.func 114) #[zP R] #[]] w fun e w'=>OutL w0 mz R bs s Rel 2 n w§ (Qd st n q p) e w':=by
 have HMK:Hid (∀ a x nb,Rel a x nb→(mk x).cells=x):=hmk
 have HRL:Hid (∀ a x nb,Rel a x nb→x.size=2∧x.all (·.oneCell')=true):=hrel
 have HIQ:Hid (∀ i q p a q' p',i < n→Iq i q→st q p=some (a,q',p')→Iq (i+1) q'):=hiq
 have HST:Hid (∀ i V bs1 q p,i < n→Iq i q→(∀ b ∈ bs,b ∈ bs1)→Rd w0 V§ V R bs1 q s p→Calls zG 114 #[zP R] V (OutS w0 V§ R bs1 s Rel mk V§ (st q p))):=hst
 obtain⟨T,eT⟩:∃ T,Qd st n q p=T:=⟨_,rfl⟩
 rw [eT]
 have HT0:Hid (T=(Qd st (n - 0) q p).map fun r=>(([]:List α) ++ r.1,r.2)):=by
  show _=_
  rw [← eT,Nat.sub_zero]
  cases Qd st n q p with
  | none=>rfl
  | some r=>rfl
 have HW:Hid (w0§≤w§):=h.B.size
 have HMZ:Hid (mz≤w§):=h.M
 have HO0 : Hid (OwnK w0 w ((R, 148, rdA q s p) :: ([] ++ bs)) 61 2 (.slice none 0 0) []) := h.own ⟨by simp, .inl ⟨rfl, rfl⟩⟩ (by simp) (by simp [Value.ownBlock]) (by simp [Value.ownBlock])
 have HNR:Hid (∀ b ∈ bs,b.1≠R):=fun b hb=>(h.K b hb).2
 have hnm:(n:Int)≤9223372036854775807:=by omega
 have HI0:Hid (Iq 0 q):=hq0
 clear eT h hq0 hst hiq hrel hmk
 go_enter Tryz.func113,Tryz.ntmps113
 go_wp2_with fail
 go_loopw [5,7] (fun fv t wr=>∃ (i:Nat) (v:Value) (q:RS) (p:Int) (al:List α) (xs:List (Array Value)) (nbs:List Bx),i≤n∧fv=v∧t=zI i∧xs.length=i∧Hid (OwnK w0 wr ((R,148,rdA q s p) :: (nbs ++ bs)) 61 2 v xs)∧Hid (∀ b ∈ nbs ++ bs,b.1≠R)∧Hid (Rels Rel al xs nbs)∧Hid (Iq i q)∧Hid (T=(Qd st (n - i) q p).map fun r=>(al ++ r.1,r.2))∧Hid ((i=0→v=.slice none 0 0)∧(∀ b ∈ nbs,w§≤b.1)∧(∀ g,v.ownBlock=some g→w§≤g)∧w§≤wr§)) (fun _ t _=>n - (intOf t).toNat)
 case atStart=>exact⟨0,_,q,p,[],[],[],by omega,rfl,rfl,rfl,HO0,HNR,Rels.nil,HI0,HT0,fun _=>rfl,by simp,by simp [Value.ownBlock],Nat.le_refl _⟩
 case round =>
  obtain⟨i,v,q,p,al,xs,nbs,hi,rfl,rfl,hxl,HOR,HNN,HRS,HIR,HTR,HVR⟩:=hrel
  by_cases hlt:i < n
  ·have hlt':(i:Int) < (n:Int):=by omega
   have hmx:(i:Int)+1≤9223372036854775807:=by omega
   have HRD:=QW (mz:=wr§) HOR.out HNN.out (Nat.le_refl _)
   have cS:=HST.out i wr _ q p hlt HIR.out (fun b hb=>by simp [hb]) HRD
   have hni:n - i=(n - (i+1))+1:=by omega
   cases hS:st q p with
   | none =>
    rw [hS] at cS
    replace cS:Calls zG 114 #[zP R] wr (fun e w'=>e=pan pf∧Below w0§ w0 w'):=cS
    have HT2:Hid (T=none):=by show _=_; rw [HTR.out,hni]; show Option.map _ ((st q p).bind _)=_; rw [hS]; rfl
    clear HRD
    go_wp2_with fail
    refine cS.mono ?_
    rintro e w5 ⟨rfl,hb5⟩
    exact⟨rfl,by rw [HT2.out]; exact⟨rfl,hb5⟩⟩
   | some aq =>
    obtain⟨a,q2,p2⟩:=aq
    rw [hS] at cS
    replace cS:Calls zG 114 #[zP R] wr (fun e w'=>∃ x nb,e=.returned (mk x)∧Rel a x nb∧Rd w0 wr§ w' R (nb ++ (obx wr _ ++ (nbs ++ bs))) q2 s p2∧(∀ b ∈ nb,wr§≤b.1)∧wr§≤w'§):=cS
    have HT2:Hid (T=(Qd st (n - (i+1)) q2 p2).map fun r=>((al ++ [a]) ++ r.1,r.2)):=by
     show _=_
     rw [HTR.out,hni]
     show Option.map _ ((st q p).bind _)=_
     rw [hS,Option.bind_some,Option.map_map]
     congr 1
     funext r
     simp
    have HI2:Hid (Iq (i+1) q2):=HIQ.out i q p a q2 p2 hlt HIR.out hS
    clear HRD
    go_wp2_with fail
    refine cS.mono ?_
    rintro e w5 ⟨x,nb,rfl,hx,hr5,hf5,h55⟩
    have HO5:Hid (OwnK w0 w5 ((R,148,rdA q2 s p2) :: (nb ++ (nbs ++ bs))) 61 2 _ xs):=Jx HOR.out hr5 hf5
    have HN5:Hid (∀ b ∈ nb ++ (nbs ++ bs),b.1≠R):=fun b hb=>(hr5.K b (by rcases List.mem_append.1 hb with hb | hb <;> simp [hb])).2
    obtain⟨hxz,hxa⟩:=HRL.out a x nb hx
    have HXC:Hid ((mk x).cells=x):=HMK.out a x nb hx
    have HRS2:Hid (Rels Rel (al ++ [a]) (xs ++ [x]) (nb ++ nbs)):=Rels.snoc HRS.out hx
    have hv1:=HVR.out.2.1
    have hv2:=HVR.out.2.2.1
    have hv3:=HVR.out.2.2.2
    have HV2:Hid ((∀ b ∈ nb ++ nbs,w§≤b.1)∧w§≤w5§):=⟨fun b hb=>by rcases List.mem_append.1 hb with hb | hb; exact Nat.le_trans hv3 (hf5 b hb); exact hv1 b hb,by omega⟩
    clear cS hr5 hf5 HOR HNN HRS HIR HTR hx
    go_wp2_with (first | (refine QA rfl 23 61 (.tmp 11) rfl x mk rfl HXC.out 2 _ Tryz.underlying23 16 inf61 rfl hxz (by decide) (by decide) ?_) | (refine Jj HO5.out 23 x hxz hxa _ 16 Tryz.underlying23 inf61 rfl (by decide) (by omega) (by decide) rfl (.tmp 9) (.tmp 12) rfl rfl rfl ?_; intro g cap w8 HO8 hg8 hs8))
    have hgg:w§≤g:=by
     rcases hg8 with hg8 | hg8
     ·exact hv2 g hg8
     ·have:=HV2.out.2; omega
    refine⟨⟨i+1,.slice (some ⟨g,0,none⟩) (i+1) cap,q2,p2,al ++ [a],xs ++ [x],nb ++ nbs,hlt,rfl,rfl,by rw [List.length_append,hxl]; rfl,?_,?_,HRS2,HI2,HT2,⟨fun e=>by omega,HV2.out.1,fun g' hg'=>?_,by have:=HV2.out.2; omega⟩⟩,by simp only [intOf]; omega⟩
    ·rw [List.append_assoc,← hxl]; exact HO8
    ·rw [List.append_assoc]; exact HN5
    ·have:g=g':=by simpa [Value.ownBlock] using hg'
     omega
  ·obtain rfl:i=n:=by omega
   have hnot:¬ (i:Int) < (i:Int):=by omega
   have HT2:Hid (T=some (al,q,p)):=by show _=_; rw [HTR.out,Nat.sub_self]; show some (al ++ [],q,p)=_; rw [List.append_nil]
   rcases HOR.out.R.2 with ⟨e1,e2⟩ | ⟨g,cap,cur,e1,e2,e3,e4,e5,e6,e7⟩
   ·subst e1
    have hi0:i=0:=by omega
    subst hi0
    have HRD:Hid (Rd w0 mz wr R ([] ++ (nbs ++ bs)) q s p):=HOR.out.rd HNN.out (by have:=HVR.out.2.2.2; have:=HMZ.out; omega)
    go_wp2_with fail
    go_ret
    rw [HT2.out]
    exact⟨none,xs,[],nbs,rfl,HRS.out,hxl,fun V _=>⟨by omega,by omega,fun j hj=>by omega⟩,HRD.out,fun b hb=>HVR.out.2.1 b (by simpa using hb),HVR.out.2.2.2⟩
   ·subst e1
    have hci:i≤cap:=by omega
    have hcm:(i:Int)≤(cap:Int):=by omega
    have hc9:cap≤9223372036854775807:=by unfold maxLen at e5; omega
    have HRD:Hid (Rd w0 mz wr R ([(g,61,cur)] ++ (nbs ++ bs)) q s p):=by
     have hh:=QW (mz:=mz) HOR.out HNN.out (by have:=HVR.out.2.2.2; have:=HMZ.out; omega)
     have ho:obx wr (.slice (some ⟨g,0,none⟩) xs.length cap) = [(g,61,cur)]:=by
      show (match wr.heap[g]? with | some (.cells cur e _)=>[(g,e,cur)] | _=>[])=_
      rw [e3]
     rw [ho] at hh
     exact hh
    have HKP:Hid (Keep [(g,61,cur)] (fun V=>SlAt V 2 (some ⟨g,0,none⟩) i xs)):=fun V hV=>by
     have h3:=hV (g,61,cur) (List.mem_singleton.2 rfl)
     refine⟨by omega,by omega,fun j hj=>⟨g,0,rfl,fun k hk=>?_⟩⟩
     rw [Co h3,Nat.zero_add]
     have hlt:j * 2+k < xs.length * 2:=by
      have:=Nat.mul_le_mul_right 2 hj
      rw [Nat.succ_mul] at this
      omega
     have h8:(cur.toList.take (xs.length * 2))[j * 2+k]? = cur[j * 2+k]?:=by rw [List.getElem?_take_of_lt hlt]; simp
     rw [← h8,e7,QR xs HOR.out.Z j hj k hk]
    have HVB:Hid ((∀ b ∈ [(g,61,cur)] ++ nbs,w§≤b.1)∧w§≤wr§):=⟨fun b hb=>by
     rcases List.mem_append.1 hb with hb | hb
     ·rw [List.mem_singleton.1 hb]; exact HVR.out.2.2.1 g rfl
     ·exact HVR.out.2.1 b hb,HVR.out.2.2.2⟩
    have HRS2:Hid (Rels Rel al xs nbs∧xs.length=i):=⟨HRS.out,hxl⟩
    rw [hxl]
    clear hxl HOR HNN HRS HVR e2 e3 e4 e5 e6 e7
    go_wp2_with fail
    go_ret
    rw [HT2.out]
    exact⟨some ⟨g,0,none⟩,xs,[(g,61,cur)],nbs,rfl,HRS2.out.1,HRS2.out.2,HKP.out,HRD.out,HVB.out.1,HVB.out.2⟩
theorem Kp {mz:Nat}{α:Type}(st:RS→Int→Option (α × RS × Int)) (Rel:α→Array Value→List Bx→Prop) (mk:Array Value→Value) (Iq:Nat→RS→Prop) (R n:Nat) (bs:List Bx) (q:RS) (s:ByteArray) (p:Int) (w:World) (w0:World) (h:Rd w0 mz w R bs q s p) (hn:n≤100000) (hq0:Iq 0 q) (hmk:∀ a x nb,Rel a x nb→(mk x).cells=x) (hrel:∀ a x nb,Rel a x nb→x.size=11∧x.all (·.oneCell')=true) (hiq:∀ i q p a q' p',i < n→Iq i q→st q p=some (a,q',p')→Iq (i+1) q') (hst:∀ i V bs1 q p,i < n→Iq i q→(∀ b ∈ bs,b ∈ bs1)→Rd w0 V§ V R bs1 q s p→Calls zG 152 #[zP R] V (OutS w0 V§ R bs1 s Rel mk V§ (st q p))):Calls zG 151 #[zI n,.func (.func 152) #[zP R] #[]] w fun e w'=>OutL w0 mz R bs s Rel 11 n w§ (Qd st n q p) e w':=by
 have HMK:Hid (∀ a x nb,Rel a x nb→(mk x).cells=x):=hmk
 have HRL:Hid (∀ a x nb,Rel a x nb→x.size=11∧x.all (·.oneCell')=true):=hrel
 have HIQ:Hid (∀ i q p a q' p',i < n→Iq i q→st q p=some (a,q',p')→Iq (i+1) q'):=hiq
 have HST:Hid (∀ i V bs1 q p,i < n→Iq i q→(∀ b ∈ bs,b ∈ bs1)→Rd w0 V§ V R bs1 q s p→Calls zG 152 #[zP R] V (OutS w0 V§ R bs1 s Rel mk V§ (st q p))):=hst
 obtain⟨T,eT⟩:∃ T,Qd st n q p=T:=⟨_,rfl⟩
 rw [eT]
 have HT0:Hid (T=(Qd st (n - 0) q p).map fun r=>(([]:List α) ++ r.1,r.2)):=by
  show _=_
  rw [← eT,Nat.sub_zero]
  cases Qd st n q p with
  | none=>rfl
  | some r=>rfl
 have HW:Hid (w0§≤w§):=h.B.size
 have HMZ:Hid (mz≤w§):=h.M
 have HO0 : Hid (OwnK w0 w ((R, 148, rdA q s p) :: ([] ++ bs)) 85 11 (.slice none 0 0) []) := h.own ⟨by simp, .inl ⟨rfl, rfl⟩⟩ (by simp) (by simp [Value.ownBlock]) (by simp [Value.ownBlock])
 have HNR:Hid (∀ b ∈ bs,b.1≠R):=fun b hb=>(h.K b hb).2
 have hnm:(n:Int)≤9223372036854775807:=by omega
 have HI0:Hid (Iq 0 q):=hq0
 clear eT h hq0 hst hiq hrel hmk
 go_enter Tryz.func151,Tryz.ntmps151
 go_wp2_with fail
 go_loopw [5,7] (fun fv t wr=>∃ (i:Nat) (v:Value) (q:RS) (p:Int) (al:List α) (xs:List (Array Value)) (nbs:List Bx),i≤n∧fv=v∧t=zI i∧xs.length=i∧Hid (OwnK w0 wr ((R,148,rdA q s p) :: (nbs ++ bs)) 85 11 v xs)∧Hid (∀ b ∈ nbs ++ bs,b.1≠R)∧Hid (Rels Rel al xs nbs)∧Hid (Iq i q)∧Hid (T=(Qd st (n - i) q p).map fun r=>(al ++ r.1,r.2))∧Hid ((i=0→v=.slice none 0 0)∧(∀ b ∈ nbs,w§≤b.1)∧(∀ g,v.ownBlock=some g→w§≤g)∧w§≤wr§)) (fun _ t _=>n - (intOf t).toNat)
 case atStart=>exact⟨0,_,q,p,[],[],[],by omega,rfl,rfl,rfl,HO0,HNR,Rels.nil,HI0,HT0,fun _=>rfl,by simp,by simp [Value.ownBlock],Nat.le_refl _⟩
 case round =>
  obtain⟨i,v,q,p,al,xs,nbs,hi,rfl,rfl,hxl,HOR,HNN,HRS,HIR,HTR,HVR⟩:=hrel
  by_cases hlt:i < n
  ·have hlt':(i:Int) < (n:Int):=by omega
   have hmx:(i:Int)+1≤9223372036854775807:=by omega
   have HRD:=QW (mz:=wr§) HOR.out HNN.out (Nat.le_refl _)
   have cS:=HST.out i wr _ q p hlt HIR.out (fun b hb=>by simp [hb]) HRD
   have hni:n - i=(n - (i+1))+1:=by omega
   cases hS:st q p with
   | none =>
    rw [hS] at cS
    replace cS:Calls zG 152 #[zP R] wr (fun e w'=>e=pan pf∧Below w0§ w0 w'):=cS
    have HT2:Hid (T=none):=by show _=_; rw [HTR.out,hni]; show Option.map _ ((st q p).bind _)=_; rw [hS]; rfl
    clear HRD
    go_wp2_with fail
    refine cS.mono ?_
    rintro e w5 ⟨rfl,hb5⟩
    exact⟨rfl,by rw [HT2.out]; exact⟨rfl,hb5⟩⟩
   | some aq =>
    obtain⟨a,q2,p2⟩:=aq
    rw [hS] at cS
    replace cS:Calls zG 152 #[zP R] wr (fun e w'=>∃ x nb,e=.returned (mk x)∧Rel a x nb∧Rd w0 wr§ w' R (nb ++ (obx wr _ ++ (nbs ++ bs))) q2 s p2∧(∀ b ∈ nb,wr§≤b.1)∧wr§≤w'§):=cS
    have HT2:Hid (T=(Qd st (n - (i+1)) q2 p2).map fun r=>((al ++ [a]) ++ r.1,r.2)):=by
     show _=_
     rw [HTR.out,hni]
     show Option.map _ ((st q p).bind _)=_
     rw [hS,Option.bind_some,Option.map_map]
     congr 1
     funext r
     simp
    have HI2:Hid (Iq (i+1) q2):=HIQ.out i q p a q2 p2 hlt HIR.out hS
    clear HRD
    go_wp2_with fail
    refine cS.mono ?_
    rintro e w5 ⟨x,nb,rfl,hx,hr5,hf5,h55⟩
    have HO5:Hid (OwnK w0 w5 ((R,148,rdA q2 s p2) :: (nb ++ (nbs ++ bs))) 85 11 _ xs):=Jx HOR.out hr5 hf5
    have HN5:Hid (∀ b ∈ nb ++ (nbs ++ bs),b.1≠R):=fun b hb=>(hr5.K b (by rcases List.mem_append.1 hb with hb | hb <;> simp [hb])).2
    obtain⟨hxz,hxa⟩:=HRL.out a x nb hx
    have HXC:Hid ((mk x).cells=x):=HMK.out a x nb hx
    have HRS2:Hid (Rels Rel (al ++ [a]) (xs ++ [x]) (nb ++ nbs)):=Rels.snoc HRS.out hx
    have hv1:=HVR.out.2.1
    have hv2:=HVR.out.2.2.1
    have hv3:=HVR.out.2.2.2
    have HV2:Hid ((∀ b ∈ nb ++ nbs,w§≤b.1)∧w§≤w5§):=⟨fun b hb=>by rcases List.mem_append.1 hb with hb | hb; exact Nat.le_trans hv3 (hf5 b hb); exact hv1 b hb,by omega⟩
    clear cS hr5 hf5 HOR HNN HRS HIR HTR hx
    go_wp2_with (first | (refine QA rfl 66 85 (.tmp 11) rfl x mk rfl HXC.out 11 _ Tryz.underlying66 80 inf85 rfl hxz (by decide) (by decide) ?_) | (refine Jj HO5.out 66 x hxz hxa _ 80 Tryz.underlying66 inf85 rfl (by decide) (by omega) (by decide) rfl (.tmp 9) (.tmp 12) rfl rfl rfl ?_; intro g cap w8 HO8 hg8 hs8))
    have hgg:w§≤g:=by
     rcases hg8 with hg8 | hg8
     ·exact hv2 g hg8
     ·have:=HV2.out.2; omega
    refine⟨⟨i+1,.slice (some ⟨g,0,none⟩) (i+1) cap,q2,p2,al ++ [a],xs ++ [x],nb ++ nbs,hlt,rfl,rfl,by rw [List.length_append,hxl]; rfl,?_,?_,HRS2,HI2,HT2,⟨fun e=>by omega,HV2.out.1,fun g' hg'=>?_,by have:=HV2.out.2; omega⟩⟩,by simp only [intOf]; omega⟩
    ·rw [List.append_assoc,← hxl]; exact HO8
    ·rw [List.append_assoc]; exact HN5
    ·have:g=g':=by simpa [Value.ownBlock] using hg'
     omega
  ·obtain rfl:i=n:=by omega
   have hnot:¬ (i:Int) < (i:Int):=by omega
   have HT2:Hid (T=some (al,q,p)):=by show _=_; rw [HTR.out,Nat.sub_self]; show some (al ++ [],q,p)=_; rw [List.append_nil]
   rcases HOR.out.R.2 with ⟨e1,e2⟩ | ⟨g,cap,cur,e1,e2,e3,e4,e5,e6,e7⟩
   ·subst e1
    have hi0:i=0:=by omega
    subst hi0
    have HRD:Hid (Rd w0 mz wr R ([] ++ (nbs ++ bs)) q s p):=HOR.out.rd HNN.out (by have:=HVR.out.2.2.2; have:=HMZ.out; omega)
    go_wp2_with fail
    go_ret
    rw [HT2.out]
    exact⟨none,xs,[],nbs,rfl,HRS.out,hxl,fun V _=>⟨by omega,by omega,fun j hj=>by omega⟩,HRD.out,fun b hb=>HVR.out.2.1 b (by simpa using hb),HVR.out.2.2.2⟩
   ·subst e1
    have hci:i≤cap:=by omega
    have hcm:(i:Int)≤(cap:Int):=by omega
    have hc9:cap≤9223372036854775807:=by unfold maxLen at e5; omega
    have HRD:Hid (Rd w0 mz wr R ([(g,85,cur)] ++ (nbs ++ bs)) q s p):=by
     have hh:=QW (mz:=mz) HOR.out HNN.out (by have:=HVR.out.2.2.2; have:=HMZ.out; omega)
     have ho:obx wr (.slice (some ⟨g,0,none⟩) xs.length cap) = [(g,85,cur)]:=by
      show (match wr.heap[g]? with | some (.cells cur e _)=>[(g,e,cur)] | _=>[])=_
      rw [e3]
     rw [ho] at hh
     exact hh
    have HKP:Hid (Keep [(g,85,cur)] (fun V=>SlAt V 11 (some ⟨g,0,none⟩) i xs)):=fun V hV=>by
     have h3:=hV (g,85,cur) (List.mem_singleton.2 rfl)
     refine⟨by omega,by omega,fun j hj=>⟨g,0,rfl,fun k hk=>?_⟩⟩
     rw [Co h3,Nat.zero_add]
     have hlt:j * 11+k < xs.length * 11:=by
      have:=Nat.mul_le_mul_right 11 hj
      rw [Nat.succ_mul] at this
      omega
     have h8:(cur.toList.take (xs.length * 11))[j * 11+k]? = cur[j * 11+k]?:=by rw [List.getElem?_take_of_lt hlt]; simp
     rw [← h8,e7,QR xs HOR.out.Z j hj k hk]
    have HVB:Hid ((∀ b ∈ [(g,85,cur)] ++ nbs,w§≤b.1)∧w§≤wr§):=⟨fun b hb=>by
     rcases List.mem_append.1 hb with hb | hb
     ·rw [List.mem_singleton.1 hb]; exact HVR.out.2.2.1 g rfl
     ·exact HVR.out.2.1 b hb,HVR.out.2.2.2⟩
    have HRS2:Hid (Rels Rel al xs nbs∧xs.length=i):=⟨HRS.out,hxl⟩
    rw [hxl]
    clear hxl HOR HNN HRS HVR e2 e3 e4 e5 e6 e7
    go_wp2_with fail
    go_ret
    rw [HT2.out]
    exact⟨some ⟨g,0,none⟩,xs,[(g,85,cur)],nbs,rfl,HRS2.out.1,HRS2.out.2,HKP.out,HRD.out,HVB.out.1,HVB.out.2⟩
theorem Kq {mz:Nat}{α:Type}(st:RS→Int→Option (α × RS × Int)) (Rel:α→Array Value→List Bx→Prop) (mk:Array Value→Value) (Iq:Nat→RS→Prop) (R n:Nat) (bs:List Bx) (q:RS) (s:ByteArray) (p:Int) (w:World) (w0:World) (h:Rd w0 mz w R bs q s p) (hn:n≤100000) (hq0:Iq 0 q) (hmk:∀ a x nb,Rel a x nb→(mk x).cells=x) (hrel:∀ a x nb,Rel a x nb→x.size=5∧x.all (·.oneCell')=true) (hiq:∀ i q p a q' p',i < n→Iq i q→st q p=some (a,q',p')→Iq (i+1) q') (hst:∀ i V bs1 q p,i < n→Iq i q→(∀ b ∈ bs,b ∈ bs1)→Rd w0 V§ V R bs1 q s p→Calls zG 136 #[zP R] V (OutS w0 V§ R bs1 s Rel mk V§ (st q p))):Calls zG 135 #[zI n,.func (.func 136) #[zP R] #[]] w fun e w'=>OutL w0 mz R bs s Rel 5 n w§ (Qd st n q p) e w':=by
 have HMK:Hid (∀ a x nb,Rel a x nb→(mk x).cells=x):=hmk
 have HRL:Hid (∀ a x nb,Rel a x nb→x.size=5∧x.all (·.oneCell')=true):=hrel
 have HIQ:Hid (∀ i q p a q' p',i < n→Iq i q→st q p=some (a,q',p')→Iq (i+1) q'):=hiq
 have HST:Hid (∀ i V bs1 q p,i < n→Iq i q→(∀ b ∈ bs,b ∈ bs1)→Rd w0 V§ V R bs1 q s p→Calls zG 136 #[zP R] V (OutS w0 V§ R bs1 s Rel mk V§ (st q p))):=hst
 obtain⟨T,eT⟩:∃ T,Qd st n q p=T:=⟨_,rfl⟩
 rw [eT]
 have HT0:Hid (T=(Qd st (n - 0) q p).map fun r=>(([]:List α) ++ r.1,r.2)):=by
  show _=_
  rw [← eT,Nat.sub_zero]
  cases Qd st n q p with
  | none=>rfl
  | some r=>rfl
 have HW:Hid (w0§≤w§):=h.B.size
 have HMZ:Hid (mz≤w§):=h.M
 have HO0 : Hid (OwnK w0 w ((R, 148, rdA q s p) :: ([] ++ bs)) 68 5 (.slice none 0 0) []) := h.own ⟨by simp, .inl ⟨rfl, rfl⟩⟩ (by simp) (by simp [Value.ownBlock]) (by simp [Value.ownBlock])
 have HNR:Hid (∀ b ∈ bs,b.1≠R):=fun b hb=>(h.K b hb).2
 have hnm:(n:Int)≤9223372036854775807:=by omega
 have HI0:Hid (Iq 0 q):=hq0
 clear eT h hq0 hst hiq hrel hmk
 go_enter Tryz.func135,Tryz.ntmps135
 go_wp2_with fail
 go_loopw [5,7] (fun fv t wr=>∃ (i:Nat) (v:Value) (q:RS) (p:Int) (al:List α) (xs:List (Array Value)) (nbs:List Bx),i≤n∧fv=v∧t=zI i∧xs.length=i∧Hid (OwnK w0 wr ((R,148,rdA q s p) :: (nbs ++ bs)) 68 5 v xs)∧Hid (∀ b ∈ nbs ++ bs,b.1≠R)∧Hid (Rels Rel al xs nbs)∧Hid (Iq i q)∧Hid (T=(Qd st (n - i) q p).map fun r=>(al ++ r.1,r.2))∧Hid ((i=0→v=.slice none 0 0)∧(∀ b ∈ nbs,w§≤b.1)∧(∀ g,v.ownBlock=some g→w§≤g)∧w§≤wr§)) (fun _ t _=>n - (intOf t).toNat)
 case atStart=>exact⟨0,_,q,p,[],[],[],by omega,rfl,rfl,rfl,HO0,HNR,Rels.nil,HI0,HT0,fun _=>rfl,by simp,by simp [Value.ownBlock],Nat.le_refl _⟩
 case round =>
  obtain⟨i,v,q,p,al,xs,nbs,hi,rfl,rfl,hxl,HOR,HNN,HRS,HIR,HTR,HVR⟩:=hrel
  by_cases hlt:i < n
  ·have hlt':(i:Int) < (n:Int):=by omega
   have hmx:(i:Int)+1≤9223372036854775807:=by omega
   have HRD:=QW (mz:=wr§) HOR.out HNN.out (Nat.le_refl _)
   have cS:=HST.out i wr _ q p hlt HIR.out (fun b hb=>by simp [hb]) HRD
   have hni:n - i=(n - (i+1))+1:=by omega
   cases hS:st q p with
   | none =>
    rw [hS] at cS
    replace cS:Calls zG 136 #[zP R] wr (fun e w'=>e=pan pf∧Below w0§ w0 w'):=cS
    have HT2:Hid (T=none):=by show _=_; rw [HTR.out,hni]; show Option.map _ ((st q p).bind _)=_; rw [hS]; rfl
    clear HRD
    go_wp2_with fail
    refine cS.mono ?_
    rintro e w5 ⟨rfl,hb5⟩
    exact⟨rfl,by rw [HT2.out]; exact⟨rfl,hb5⟩⟩
   | some aq =>
    obtain⟨a,q2,p2⟩:=aq
    rw [hS] at cS
    replace cS:Calls zG 136 #[zP R] wr (fun e w'=>∃ x nb,e=.returned (mk x)∧Rel a x nb∧Rd w0 wr§ w' R (nb ++ (obx wr _ ++ (nbs ++ bs))) q2 s p2∧(∀ b ∈ nb,wr§≤b.1)∧wr§≤w'§):=cS
    have HT2:Hid (T=(Qd st (n - (i+1)) q2 p2).map fun r=>((al ++ [a]) ++ r.1,r.2)):=by
     show _=_
     rw [HTR.out,hni]
     show Option.map _ ((st q p).bind _)=_
     rw [hS,Option.bind_some,Option.map_map]
     congr 1
     funext r
     simp
    have HI2:Hid (Iq (i+1) q2):=HIQ.out i q p a q2 p2 hlt HIR.out hS
    clear HRD
    go_wp2_with fail
    refine cS.mono ?_
    rintro e w5 ⟨x,nb,rfl,hx,hr5,hf5,h55⟩
    have HO5:Hid (OwnK w0 w5 ((R,148,rdA q2 s p2) :: (nb ++ (nbs ++ bs))) 68 5 _ xs):=Jx HOR.out hr5 hf5
    have HN5:Hid (∀ b ∈ nb ++ (nbs ++ bs),b.1≠R):=fun b hb=>(hr5.K b (by rcases List.mem_append.1 hb with hb | hb <;> simp [hb])).2
    obtain⟨hxz,hxa⟩:=HRL.out a x nb hx
    have HXC:Hid ((mk x).cells=x):=HMK.out a x nb hx
    have HRS2:Hid (Rels Rel (al ++ [a]) (xs ++ [x]) (nb ++ nbs)):=Rels.snoc HRS.out hx
    have hv1:=HVR.out.2.1
    have hv2:=HVR.out.2.2.1
    have hv3:=HVR.out.2.2.2
    have HV2:Hid ((∀ b ∈ nb ++ nbs,w§≤b.1)∧w§≤w5§):=⟨fun b hb=>by rcases List.mem_append.1 hb with hb | hb; exact Nat.le_trans hv3 (hf5 b hb); exact hv1 b hb,by omega⟩
    clear cS hr5 hf5 HOR HNN HRS HIR HTR hx
    go_wp2_with (first | (refine QA rfl 69 68 (.tmp 11) rfl x mk rfl HXC.out 5 _ Tryz.underlying69 48 inf68 rfl hxz (by decide) (by decide) ?_) | (refine Jj HO5.out 69 x hxz hxa _ 48 Tryz.underlying69 inf68 rfl (by decide) (by omega) (by decide) rfl (.tmp 9) (.tmp 12) rfl rfl rfl ?_; intro g cap w8 HO8 hg8 hs8))
    have hgg:w§≤g:=by
     rcases hg8 with hg8 | hg8
     ·exact hv2 g hg8
     ·have:=HV2.out.2; omega
    refine⟨⟨i+1,.slice (some ⟨g,0,none⟩) (i+1) cap,q2,p2,al ++ [a],xs ++ [x],nb ++ nbs,hlt,rfl,rfl,by rw [List.length_append,hxl]; rfl,?_,?_,HRS2,HI2,HT2,⟨fun e=>by omega,HV2.out.1,fun g' hg'=>?_,by have:=HV2.out.2; omega⟩⟩,by simp only [intOf]; omega⟩
    ·rw [List.append_assoc,← hxl]; exact HO8
    ·rw [List.append_assoc]; exact HN5
    ·have:g=g':=by simpa [Value.ownBlock] using hg'
     omega
  ·obtain rfl:i=n:=by omega
   have hnot:¬ (i:Int) < (i:Int):=by omega
   have HT2:Hid (T=some (al,q,p)):=by show _=_; rw [HTR.out,Nat.sub_self]; show some (al ++ [],q,p)=_; rw [List.append_nil]
   rcases HOR.out.R.2 with ⟨e1,e2⟩ | ⟨g,cap,cur,e1,e2,e3,e4,e5,e6,e7⟩
   ·subst e1
    have hi0:i=0:=by omega
    subst hi0
    have HRD:Hid (Rd w0 mz wr R ([] ++ (nbs ++ bs)) q s p):=HOR.out.rd HNN.out (by have:=HVR.out.2.2.2; have:=HMZ.out; omega)
    go_wp2_with fail
    go_ret
    rw [HT2.out]
    exact⟨none,xs,[],nbs,rfl,HRS.out,hxl,fun V _=>⟨by omega,by omega,fun j hj=>by omega⟩,HRD.out,fun b hb=>HVR.out.2.1 b (by simpa using hb),HVR.out.2.2.2⟩
   ·subst e1
    have hci:i≤cap:=by omega
    have hcm:(i:Int)≤(cap:Int):=by omega
    have hc9:cap≤9223372036854775807:=by unfold maxLen at e5; omega
    have HRD:Hid (Rd w0 mz wr R ([(g,68,cur)] ++ (nbs ++ bs)) q s p):=by
     have hh:=QW (mz:=mz) HOR.out HNN.out (by have:=HVR.out.2.2.2; have:=HMZ.out; omega)
     have ho:obx wr (.slice (some ⟨g,0,none⟩) xs.length cap) = [(g,68,cur)]:=by
      show (match wr.heap[g]? with | some (.cells cur e _)=>[(g,e,cur)] | _=>[])=_
      rw [e3]
     rw [ho] at hh
     exact hh
    have HKP:Hid (Keep [(g,68,cur)] (fun V=>SlAt V 5 (some ⟨g,0,none⟩) i xs)):=fun V hV=>by
     have h3:=hV (g,68,cur) (List.mem_singleton.2 rfl)
     refine⟨by omega,by omega,fun j hj=>⟨g,0,rfl,fun k hk=>?_⟩⟩
     rw [Co h3,Nat.zero_add]
     have hlt:j * 5+k < xs.length * 5:=by
      have:=Nat.mul_le_mul_right 5 hj
      rw [Nat.succ_mul] at this
      omega
     have h8:(cur.toList.take (xs.length * 5))[j * 5+k]? = cur[j * 5+k]?:=by rw [List.getElem?_take_of_lt hlt]; simp
     rw [← h8,e7,QR xs HOR.out.Z j hj k hk]
    have HVB:Hid ((∀ b ∈ [(g,68,cur)] ++ nbs,w§≤b.1)∧w§≤wr§):=⟨fun b hb=>by
     rcases List.mem_append.1 hb with hb | hb
     ·rw [List.mem_singleton.1 hb]; exact HVR.out.2.2.1 g rfl
     ·exact HVR.out.2.1 b hb,HVR.out.2.2.2⟩
    have HRS2:Hid (Rels Rel al xs nbs∧xs.length=i):=⟨HRS.out,hxl⟩
    rw [hxl]
    clear hxl HOR HNN HRS HVR e2 e3 e4 e5 e6 e7
    go_wp2_with fail
    go_ret
    rw [HT2.out]
    exact⟨some ⟨g,0,none⟩,xs,[(g,68,cur)],nbs,rfl,HRS2.out.1,HRS2.out.2,HKP.out,HRD.out,HVB.out.1,HVB.out.2⟩
theorem Kr {mz:Nat}{α:Type}(st:RS→Int→Option (α × RS × Int)) (Rel:α→Array Value→List Bx→Prop) (mk:Array Value→Value) (Iq:Nat→RS→Prop) (R n:Nat) (bs:List Bx) (q:RS) (s:ByteArray) (p:Int) (w:World) (w0:World) (h:Rd w0 mz w R bs q s p) (hn:n≤100000) (hq0:Iq 0 q) (hmk:∀ a x nb,Rel a x nb→(mk x).cells=x) (hrel:∀ a x nb,Rel a x nb→x.size=1∧x.all (·.oneCell')=true) (hiq:∀ i q p a q' p',i < n→Iq i q→st q p=some (a,q',p')→Iq (i+1) q') (hst:∀ i V bs1 q p,i < n→Iq i q→(∀ b ∈ bs,b ∈ bs1)→Rd w0 V§ V R bs1 q s p→Calls zG 116 #[zP R] V (OutS w0 V§ R bs1 s Rel mk V§ (st q p))):Calls zG 115 #[zI n,.func (.func 116) #[zP R] #[]] w fun e w'=>OutL w0 mz R bs s Rel 1 n w§ (Qd st n q p) e w':=by
 have HMK:Hid (∀ a x nb,Rel a x nb→(mk x).cells=x):=hmk
 have HRL:Hid (∀ a x nb,Rel a x nb→x.size=1∧x.all (·.oneCell')=true):=hrel
 have HIQ:Hid (∀ i q p a q' p',i < n→Iq i q→st q p=some (a,q',p')→Iq (i+1) q'):=hiq
 have HST:Hid (∀ i V bs1 q p,i < n→Iq i q→(∀ b ∈ bs,b ∈ bs1)→Rd w0 V§ V R bs1 q s p→Calls zG 116 #[zP R] V (OutS w0 V§ R bs1 s Rel mk V§ (st q p))):=hst
 obtain⟨T,eT⟩:∃ T,Qd st n q p=T:=⟨_,rfl⟩
 rw [eT]
 have HT0:Hid (T=(Qd st (n - 0) q p).map fun r=>(([]:List α) ++ r.1,r.2)):=by
  show _=_
  rw [← eT,Nat.sub_zero]
  cases Qd st n q p with
  | none=>rfl
  | some r=>rfl
 have HW:Hid (w0§≤w§):=h.B.size
 have HMZ:Hid (mz≤w§):=h.M
 have HO0 : Hid (OwnK w0 w ((R, 148, rdA q s p) :: ([] ++ bs)) 69 1 (.slice none 0 0) []) := h.own ⟨by simp, .inl ⟨rfl, rfl⟩⟩ (by simp) (by simp [Value.ownBlock]) (by simp [Value.ownBlock])
 have HNR:Hid (∀ b ∈ bs,b.1≠R):=fun b hb=>(h.K b hb).2
 have hnm:(n:Int)≤9223372036854775807:=by omega
 have HI0:Hid (Iq 0 q):=hq0
 clear eT h hq0 hst hiq hrel hmk
 go_enter Tryz.func115,Tryz.ntmps115
 go_wp2_with fail
 go_loopw [5,7] (fun fv t wr=>∃ (i:Nat) (v:Value) (q:RS) (p:Int) (al:List α) (xs:List (Array Value)) (nbs:List Bx),i≤n∧fv=v∧t=zI i∧xs.length=i∧Hid (OwnK w0 wr ((R,148,rdA q s p) :: (nbs ++ bs)) 69 1 v xs)∧Hid (∀ b ∈ nbs ++ bs,b.1≠R)∧Hid (Rels Rel al xs nbs)∧Hid (Iq i q)∧Hid (T=(Qd st (n - i) q p).map fun r=>(al ++ r.1,r.2))∧Hid ((i=0→v=.slice none 0 0)∧(∀ b ∈ nbs,w§≤b.1)∧(∀ g,v.ownBlock=some g→w§≤g)∧w§≤wr§)) (fun _ t _=>n - (intOf t).toNat)
 case atStart=>exact⟨0,_,q,p,[],[],[],by omega,rfl,rfl,rfl,HO0,HNR,Rels.nil,HI0,HT0,fun _=>rfl,by simp,by simp [Value.ownBlock],Nat.le_refl _⟩
 case round =>
  obtain⟨i,v,q,p,al,xs,nbs,hi,rfl,rfl,hxl,HOR,HNN,HRS,HIR,HTR,HVR⟩:=hrel
  by_cases hlt:i < n
  ·have hlt':(i:Int) < (n:Int):=by omega
   have hmx:(i:Int)+1≤9223372036854775807:=by omega
   have HRD:=QW (mz:=wr§) HOR.out HNN.out (Nat.le_refl _)
   have cS:=HST.out i wr _ q p hlt HIR.out (fun b hb=>by simp [hb]) HRD
   have hni:n - i=(n - (i+1))+1:=by omega
   cases hS:st q p with
   | none =>
    rw [hS] at cS
    replace cS:Calls zG 116 #[zP R] wr (fun e w'=>e=pan pf∧Below w0§ w0 w'):=cS
    have HT2:Hid (T=none):=by show _=_; rw [HTR.out,hni]; show Option.map _ ((st q p).bind _)=_; rw [hS]; rfl
    clear HRD
    go_wp2_with fail
    refine cS.mono ?_
    rintro e w5 ⟨rfl,hb5⟩
    exact⟨rfl,by rw [HT2.out]; exact⟨rfl,hb5⟩⟩
   | some aq =>
    obtain⟨a,q2,p2⟩:=aq
    rw [hS] at cS
    replace cS:Calls zG 116 #[zP R] wr (fun e w'=>∃ x nb,e=.returned (mk x)∧Rel a x nb∧Rd w0 wr§ w' R (nb ++ (obx wr _ ++ (nbs ++ bs))) q2 s p2∧(∀ b ∈ nb,wr§≤b.1)∧wr§≤w'§):=cS
    have HT2:Hid (T=(Qd st (n - (i+1)) q2 p2).map fun r=>((al ++ [a]) ++ r.1,r.2)):=by
     show _=_
     rw [HTR.out,hni]
     show Option.map _ ((st q p).bind _)=_
     rw [hS,Option.bind_some,Option.map_map]
     congr 1
     funext r
     simp
    have HI2:Hid (Iq (i+1) q2):=HIQ.out i q p a q2 p2 hlt HIR.out hS
    clear HRD
    go_wp2_with fail
    refine cS.mono ?_
    rintro e w5 ⟨x,nb,rfl,hx,hr5,hf5,h55⟩
    have HO5:Hid (OwnK w0 w5 ((R,148,rdA q2 s p2) :: (nb ++ (nbs ++ bs))) 69 1 _ xs):=Jx HOR.out hr5 hf5
    have HN5:Hid (∀ b ∈ nb ++ (nbs ++ bs),b.1≠R):=fun b hb=>(hr5.K b (by rcases List.mem_append.1 hb with hb | hb <;> simp [hb])).2
    obtain⟨hxz,hxa⟩:=HRL.out a x nb hx
    have HXC:Hid ((mk x).cells=x):=HMK.out a x nb hx
    have HRS2:Hid (Rels Rel (al ++ [a]) (xs ++ [x]) (nb ++ nbs)):=Rels.snoc HRS.out hx
    have hv1:=HVR.out.2.1
    have hv2:=HVR.out.2.2.1
    have hv3:=HVR.out.2.2.2
    have HV2:Hid ((∀ b ∈ nb ++ nbs,w§≤b.1)∧w§≤w5§):=⟨fun b hb=>by rcases List.mem_append.1 hb with hb | hb; exact Nat.le_trans hv3 (hf5 b hb); exact hv1 b hb,by omega⟩
    clear cS hr5 hf5 HOR HNN HRS HIR HTR hx
    go_wp2_with (first | (refine QA rfl 24 69 (.tmp 11) rfl x mk rfl HXC.out 1 _ Tryz.underlying24 24 inf69 rfl hxz (by decide) (by decide) ?_) | (refine Jj HO5.out 24 x hxz hxa _ 24 Tryz.underlying24 inf69 rfl (by decide) (by omega) (by decide) rfl (.tmp 9) (.tmp 12) rfl rfl rfl ?_; intro g cap w8 HO8 hg8 hs8))
    have hgg:w§≤g:=by
     rcases hg8 with hg8 | hg8
     ·exact hv2 g hg8
     ·have:=HV2.out.2; omega
    refine⟨⟨i+1,.slice (some ⟨g,0,none⟩) (i+1) cap,q2,p2,al ++ [a],xs ++ [x],nb ++ nbs,hlt,rfl,rfl,by rw [List.length_append,hxl]; rfl,?_,?_,HRS2,HI2,HT2,⟨fun e=>by omega,HV2.out.1,fun g' hg'=>?_,by have:=HV2.out.2; omega⟩⟩,by simp only [intOf]; omega⟩
    ·rw [List.append_assoc,← hxl]; exact HO8
    ·rw [List.append_assoc]; exact HN5
    ·have:g=g':=by simpa [Value.ownBlock] using hg'
     omega
  ·obtain rfl:i=n:=by omega
   have hnot:¬ (i:Int) < (i:Int):=by omega
   have HT2:Hid (T=some (al,q,p)):=by show _=_; rw [HTR.out,Nat.sub_self]; show some (al ++ [],q,p)=_; rw [List.append_nil]
   rcases HOR.out.R.2 with ⟨e1,e2⟩ | ⟨g,cap,cur,e1,e2,e3,e4,e5,e6,e7⟩
   ·subst e1
    have hi0:i=0:=by omega
    subst hi0
    have HRD:Hid (Rd w0 mz wr R ([] ++ (nbs ++ bs)) q s p):=HOR.out.rd HNN.out (by have:=HVR.out.2.2.2; have:=HMZ.out; omega)
    go_wp2_with fail
    go_ret
    rw [HT2.out]
    exact⟨none,xs,[],nbs,rfl,HRS.out,hxl,fun V _=>⟨by omega,by omega,fun j hj=>by omega⟩,HRD.out,fun b hb=>HVR.out.2.1 b (by simpa using hb),HVR.out.2.2.2⟩
   ·subst e1
    have hci:i≤cap:=by omega
    have hcm:(i:Int)≤(cap:Int):=by omega
    have hc9:cap≤9223372036854775807:=by unfold maxLen at e5; omega
    have HRD:Hid (Rd w0 mz wr R ([(g,69,cur)] ++ (nbs ++ bs)) q s p):=by
     have hh:=QW (mz:=mz) HOR.out HNN.out (by have:=HVR.out.2.2.2; have:=HMZ.out; omega)
     have ho:obx wr (.slice (some ⟨g,0,none⟩) xs.length cap) = [(g,69,cur)]:=by
      show (match wr.heap[g]? with | some (.cells cur e _)=>[(g,e,cur)] | _=>[])=_
      rw [e3]
     rw [ho] at hh
     exact hh
    have HKP:Hid (Keep [(g,69,cur)] (fun V=>SlAt V 1 (some ⟨g,0,none⟩) i xs)):=fun V hV=>by
     have h3:=hV (g,69,cur) (List.mem_singleton.2 rfl)
     refine⟨by omega,by omega,fun j hj=>⟨g,0,rfl,fun k hk=>?_⟩⟩
     rw [Co h3,Nat.zero_add]
     have hlt:j * 1+k < xs.length * 1:=by
      have:=Nat.mul_le_mul_right 1 hj
      rw [Nat.succ_mul] at this
      omega
     have h8:(cur.toList.take (xs.length * 1))[j * 1+k]? = cur[j * 1+k]?:=by rw [List.getElem?_take_of_lt hlt]; simp
     rw [← h8,e7,QR xs HOR.out.Z j hj k hk]
    have HVB:Hid ((∀ b ∈ [(g,69,cur)] ++ nbs,w§≤b.1)∧w§≤wr§):=⟨fun b hb=>by
     rcases List.mem_append.1 hb with hb | hb
     ·rw [List.mem_singleton.1 hb]; exact HVR.out.2.2.1 g rfl
     ·exact HVR.out.2.1 b hb,HVR.out.2.2.2⟩
    have HRS2:Hid (Rels Rel al xs nbs∧xs.length=i):=⟨HRS.out,hxl⟩
    rw [hxl]
    clear hxl HOR HNN HRS HVR e2 e3 e4 e5 e6 e7
    go_wp2_with fail
    go_ret
    rw [HT2.out]
    exact⟨some ⟨g,0,none⟩,xs,[(g,69,cur)],nbs,rfl,HRS2.out.1,HRS2.out.2,HKP.out,HRD.out,HVB.out.1,HVB.out.2⟩
def mkS (x:Array Value):Value:=x.getD 0 undef
def RelI (n:Int) (x:Array Value) (nb:List Bx):Prop:=x=QF n∧nb = []
def RelD (d:InM) (x:Array Value) (nb:List Bx):Prop:=x=d.vals∧nb = []
def RelR (r:RowM) (x:Array Value) (nb:List Bx):Prop:=x=r.vals∧nb = []
def stI (l:List UInt8) (q:RS) (p:Int):Option (Int × RS × Int):=(signR l p).map fun n=>(n.1,q,n.2)
def stD (l:List UInt8) (q:RS) (p:Int):Option (InM × RS × Int):=(JX l p).map fun n=>(n.1,q,n.2)
def stR (l:List UInt8) (q:RS) (p:Int):Option (RowM × RS × Int):=rowR q l p
theorem stepI {R:Nat}{bs:List Bx}{q:RS}{s:ByteArray}{p:Int}{V w0:World}(h:Rd w0 V§ V R bs q s p) (hs:s.size≤1099511627776):Calls zG 112 #[zP R] V (OutS w0 V§ R bs s RelI mkS V§ (stI s.data.toList q p)):=by
 have c:=rsigned_any R bs q s p V w0 h hs
 unfold stI
 cases hS:signR s.data.toList p with
 | none=>rw [hS] at c; exact c
 | some n =>
  rw [hS] at c
  refine c.mono ?_
  rintro e w' ⟨rfl,hr⟩
  exact⟨QF n.1,[],rfl,⟨rfl,rfl⟩,hr,by simp,hr.M⟩
theorem stepD {R:Nat}{bs:List Bx}{q:RS}{s:ByteArray}{p:Int}{V w0:World}(h:Rd w0 V§ V R bs q s p) (hs:s.size≤1099511627776):Calls zG 114 #[zP R] V (OutS w0 V§ R bs s RelD Value.agg V§ (stD s.data.toList q p)):=by
 have c:=rinstr_any R bs q s p V w0 h hs
 unfold stD
 cases hS:JX s.data.toList p with
 | none=>rw [hS] at c; exact c
 | some n =>
  rw [hS] at c
  refine c.mono ?_
  rintro e w' ⟨rfl,hr⟩
  exact⟨n.1.vals,[],rfl,⟨rfl,rfl⟩,hr,by simp,hr.M⟩
theorem stepR {R:Nat}{bs:List Bx}{q:RS}{s:ByteArray}{p:Int}{V w0:World}(h:Rd w0 V§ V R bs q s p) (hs:s.size≤1099511627776) (hq:0≤q.sp∧q.sp≤500000000000):Calls zG 152 #[zP R] V (OutS w0 V§ R bs s RelR Value.agg V§ (stR s.data.toList q p)):=by
 have c:=rrow_any R bs q s p V w0 h hs hq
 unfold stR
 cases hS:rowR q s.data.toList p with
 | none=>rw [hS] at c; exact c
 | some n =>
  obtain⟨r,q2,p2⟩:=n
  rw [hS] at c
  refine c.mono ?_
  rintro e w' ⟨rfl,hr⟩
  exact⟨r.vals,[],rfl,⟨rfl,rfl⟩,hr,by simp,hr.M⟩
def QK (q q':RS):Prop:=q'.x0=q.x0∧q'.x1=q.x1∧q'.x2=q.x2∧q'.x3=q.x3∧q'.x4=q.x4∧q'.x5=q.x5
theorem QK.refl (q:RS):QK q q:=⟨rfl,rfl,rfl,rfl,rfl,rfl⟩
theorem QK.trans {a b c:RS}(h:QK a b) (k:QK b c):QK a c:=⟨k.1.trans h.1,k.2.1.trans h.2.1,k.2.2.1.trans h.2.2.1,k.2.2.2.1.trans h.2.2.2.1,k.2.2.2.2.1.trans h.2.2.2.2.1,k.2.2.2.2.2.trans h.2.2.2.2.2⟩
theorem lenR_6 {q q2:RS}{l:List UInt8}{p p2:Int}{d:Sp}(h:lenR q l p=some (d,q2,p2)):QK q q2∧q.sp≤q2.sp∧q2.sp≤q.sp+4096:=by
 refine⟨?_,lenR_bd h⟩
 unfold lenR at h
 obtain⟨⟨n,m⟩,h1,h2⟩:=Option.map_eq_some_iff.1 h
 have h5:spR q n=q2:=by injection h2 with a b; injection b
 rw [← h5]
 exact⟨rfl,rfl,rfl,rfl,rfl,rfl⟩
theorem spsR_6 {l:List UInt8}:∀ (b:List Bool) {q q2:RS}{p p2:Int}{x:List Sp},spsR b q l p=some (x,q2,p2)→QK q q2∧q.sp≤q2.sp∧q2.sp≤q.sp+4096 * b.length
 | [],q,q2,p,p2,x,h=>by
  have h1:q=q2:=by unfold spsR at h; injection h with h; injection h with a b; injection b
  rw [h1]
  exact⟨QK.refl _,Int.le_refl _,by simp⟩
 | c :: b,q,q2,p,p2,x,h=>by
  unfold spsR at h
  split at h
  ·obtain⟨⟨d,q1,p1⟩,h1,h2⟩:=Option.bind_eq_some_iff.1 h
   obtain⟨⟨y,q3,p3⟩,h3,h4⟩:=Option.map_eq_some_iff.1 h2
   have hq:q3=q2:=by injection h4 with a b; injection b
   subst hq
   obtain⟨a1,a2,a3⟩:=lenR_6 h1
   obtain⟨b1,b2,b3⟩:=spsR_6 b h3
   simp only at b1 b2 b3
   exact⟨a1.trans b1,by omega,by rw [List.length_cons]; omega⟩
  ·obtain⟨⟨y,q3,p3⟩,h3,h4⟩:=Option.map_eq_some_iff.1 h
   have hq:q3=q2:=by injection h4 with a b; injection b
   subst hq
   obtain⟨b1,b2,b3⟩:=spsR_6 b h3
   exact⟨b1,b2,by rw [List.length_cons]; omega⟩
theorem rowR_6 {q q2:RS}{l:List UInt8}{p p2:Int}{r:RowM}(h:rowR q l p=some (r,q2,p2)):QK q q2∧q.sp≤q2.sp∧q2.sp≤q.sp+16384:=by
 unfold rowR at h
 obtain⟨k,_,h⟩:=Option.bind_eq_some_iff.1 h
 obtain⟨o,_,h⟩:=Option.bind_eq_some_iff.1 h
 obtain⟨i,_,h⟩:=Option.bind_eq_some_iff.1 h
 obtain⟨⟨y,q3,p3⟩,h3,h4⟩:=Option.map_eq_some_iff.1 h
 have hq:q3=q2:=by injection h4 with a b; injection b
 subst hq
 have:=spsR_6 _ h3
 simpa [prts] using this
theorem rels_R {al:List RowM}{xs:List (Array Value)}{nbs:List Bx}(h:Rels RelR al xs nbs):xs=al.map RowM.vals∧nbs = []:=by
 induction h with
 | nil=>exact⟨rfl,rfl⟩
 | snoc _ k ih=>obtain⟨rfl,rfl⟩:=k; obtain⟨rfl,rfl⟩:=ih; exact⟨by simp,rfl⟩
theorem rels_I {al:List Int}{xs:List (Array Value)}{nbs:List Bx}(h:Rels RelI al xs nbs):xs=al.map QF∧nbs = []:=by
 induction h with
 | nil=>exact⟨rfl,rfl⟩
 | snoc _ k ih=>obtain⟨rfl,rfl⟩:=k; obtain⟨rfl,rfl⟩:=ih; exact⟨by simp,rfl⟩
theorem rels_D {al:List InM}{xs:List (Array Value)}{nbs:List Bx}(h:Rels RelD al xs nbs):xs=al.map InM.vals∧nbs = []:=by
 induction h with
 | nil=>exact⟨rfl,rfl⟩
 | snoc _ k ih=>obtain⟨rfl,rfl⟩:=k; obtain⟨rfl,rfl⟩:=ih; exact⟨by simp,rfl⟩
theorem Km {mz R n:Nat}{bs:List Bx}{q:RS}{s:ByteArray}{p:Int}{w w0:World}(h:Rd w0 mz w R bs q s p) (hs:s.size≤1099511627776) (hn:n≤8) (hq:0≤q.sp∧q.sp≤400000000000):Calls zG 151 #[zI n,.func (.func 152) #[zP R] #[]] w (OutL w0 mz R bs s RelR 11 n w§ (Qd (stR s.data.toList) n q p)) :=
 Kp (stR s.data.toList) RelR Value.agg (fun i q'=>0≤q'.sp∧q'.sp≤q.sp+16384 * i) R n bs q s p w w0 h (by omega) ⟨hq.1,by simp⟩ (fun a x nb _=>rfl) (fun a x nb hx=>by rw [hx.1]; exact⟨rfl,QQ a⟩)
  (fun i q1 p1 a q' p' hi hq1 hst=>by have:=rowR_6 hst; omega)
  (fun i V bs q1 p1 hi hq1 _ hV=>stepR hV hs ⟨hq1.1,by omega⟩)
theorem rguard_any (R:Nat) (bs:List Bx) (q:RS) (s:ByteArray) (p:Int) (x:Sp) (a:Option Addr) (c:Nat) (rs:List RowM) (t:TbM) (w:World) {mz:Nat}(w0:World) (h:Rd w0 mz w R bs q s p) (hq:q.x0=.string t.x∧q.x1=.slice t.ra t.rs.length t.rc∧q.x2=zI t.sl∧q.x3=.slice t.ca t.cs.length t.cc∧q.x4=.slice t.da t.ds.length t.dc∧q.x5=.slice t.ta t.ts.length t.tc) (bs0:List Bx) (hsub:∀ b ∈ bs0,b ∈ bs) (hK:Keep bs0 (fun V=>TbL V t)):Calls zG 150 #[zP R,.agg x.vals,.slice a rs.length c] w fun e w'=>e=.returned (.agg (GdM.vals ⟨x,(Ql t.ds x).1,(Ql t.ds x).2,a,c,rs⟩))∧Rd w0 mz w' R bs q s p:=by
 have hFR:=h.fresh
 have hb1:=Bn w (.cells x.vals 65)
 have hs1:=Sa w (.cells x.vals 65)
 have hR1:=h.add hb1 w§ 65 x.vals (Nat.le_refl _) (Hn _ _)
 have hf1:=hR1.fresh
 obtain⟨W1,e1⟩:∃ W,w.alloc (.cells x.vals 65)=W:=⟨_,rfl⟩
 have E1:=zH e1
 rw [e1] at hR1 hs1 hf1
 have hR2:=hR1.add (Bn W1 (.cells zA4 68)) W1§ 68 zA4 (Nat.le_refl _) (Hn _ _)
 obtain⟨W2,e2⟩:∃ W,W1.alloc (.cells zA4 68)=W:=⟨_,rfl⟩
 have E2:=zH e2
 rw [e2] at hR2
 obtain⟨g2,eg⟩:∃ g,w§+1=g:=⟨_,rfl⟩
 rw [hs1,eg] at hR2 hf1
 have HEG:Hid (w§+1=g2):=eg
 have HR2:=zH hR2
 have HG2:Hid (w0§≤g2∧∀ b ∈ ((w§,65,x.vals) :: bs:List Bx),b.1≠g2):=⟨by have:=h.B.size; omega,hf1⟩
 have HFA:Hid (∀ v:World,Below W2§ W2 v→v.cell? ⟨R,0,none⟩=some (.string t.x)∧v.cell? ⟨R,1,none⟩=some (.slice t.ra t.rs.length t.rc)∧v.cell? ⟨R,2,none⟩=some (zI t.sl)∧v.cell? ⟨R,3,none⟩=some (.slice t.ca t.cs.length t.cc)∧v.cell? ⟨R,4,none⟩=some (.slice t.da t.ds.length t.dc)∧v.cell? ⟨R,5,none⟩=some (.slice t.ta t.ts.length t.tc)∧v.cell? ⟨w§,0,none⟩=some (zI x.f)∧v.cell? ⟨w§,1,none⟩=some (zI x.t)):=fun v hv=>by
  have k:=HR2.out.on hv
  have g:=k.less.box
  obtain⟨y0,y1,y2,y3,y4,y5⟩:=hq
  exact⟨(Co k.H 0).trans (congrArg some y0),(Co k.H 1).trans (congrArg some y1),(Co k.H 2).trans (congrArg some y2),(Co k.H 3).trans (congrArg some y3),(Co k.H 4).trans (congrArg some y4),(Co k.H 5).trans (congrArg some y5),Co g 0,Co g 1⟩
 have HTB:Hid (TbL W2.drew t):=hK W2.drew fun b hb=>((HR2.out.less.less).K b (hsub b hb)).1
 have cR:=reads_any t x W2.drew HTB.out
 obtain⟨M,eM⟩:∃ M,Ql t.ds x=M:=⟨_,rfl⟩
 rw [eM] at cR ⊢
 unfold TbM.vals Sp.vals at cR
 clear h hR1 hR2 hs1 hb1 e1 e2 eg hf1 hFR eM hK hsub hq
 go_enter Tryz.func150,Tryz.ntmps150
 go_upto_region 1 with fail
 rw [E1.out,E2.out,HEG.out]
 clear E1 E2 HEG
 refine wp_region_held_drew (S:=fun v=>Below W2§ W2 v) zK ⟨rfl,rfl,rfl,Nat.le_refl _,fun _ _=>rfl⟩ (fun hHeld=>?_)
 refine wpAnyH_take (i:=0) (v:=?_) rfl zK zK zK (fun _ _ _ h=>h) (Or.inl ⟨by rfl,?_⟩) (by assumption) ?_
 rotate_left
 ·(intro v hv; go_simp; try (with_reducible rfl))
 try simp [Act.put]
 refine wpAnyH_take (i:=1) (v:=?_) rfl zK zK zK (fun _ _ _ h=>h) (Or.inl ⟨by rfl,?_⟩) (by assumption) ?_
 rotate_left
 ·(intro v hv; go_simp; try (with_reducible rfl))
 try simp [Act.put]
 refine wpAnyH_take (i:=2) (v:=?_) rfl zK zK zK (fun _ _ _ h=>h) (Or.inl ⟨by rfl,?_⟩) (by assumption) ?_
 rotate_left
 ·(intro v hv; go_simp; try (with_reducible rfl))
 try simp [Act.put]
 refine wpAnyH_take (i:=3) (v:=?_) rfl zK zK zK (fun _ _ _ h=>h) (Or.inl ⟨by rfl,?_⟩) (by assumption) ?_
 rotate_left
 ·(intro v hv; obtain⟨a0,a1,a2,a3,a4,a5,b0,b1⟩:=HFA.out v hv; go_simp; try (with_reducible rfl))
 try simp [Act.put]
 refine wpAnyH_take (i:=4) (v:=?_) rfl zK zK zK (fun _ _ _ h=>h) (Or.inl ⟨by rfl,?_⟩) (by assumption) ?_
 rotate_left
 ·(intro v hv; obtain⟨a0,a1,a2,a3,a4,a5,b0,b1⟩:=HFA.out v hv; go_simp; try (with_reducible rfl))
 try simp [Act.put]
 refine wpAnyH_ready (rs:=[5]) zK (by simp) ?_
 refine AllReadyH.cons rfl (fun K hK=>?_) AllReadyH.nil
 go_simp
 refine cR.mono ?_
 rintro e w5 ⟨rfl,hb5⟩
 have hB5:Below W2§ W2 w5:=⟨hb5.os,hb5.tape,hb5.output,hb5.size,hb5.block⟩
 refine hK.out _ _ hB5 (fun hHeld=>?_)
 clear hK K cR hb5
 try simp [Act.put]
 refine wpAnyH_take (i:=6) (v:=?_) rfl zK zK zK (fun _ _ _ h=>h) (Or.inl ⟨by rfl,?_⟩) (by assumption) ?_
 rotate_left
 ·(intro v hv; go_simp; try (with_reducible rfl))
 try simp [Act.put]
 refine wpAnyH_take (i:=7) (v:=?_) rfl zK zK zK (fun _ _ _ h=>h) (Or.inl ⟨by rfl,?_⟩) (by assumption) ?_
 rotate_left
 ·(intro v hv; go_simp; try (with_reducible rfl))
 try simp [Act.put]
 refine wpAnyH_take (i:=8) (v:=?_) rfl zK zK zK (fun _ _ _ h=>h) (Or.inl ⟨by rfl,?_⟩) (by assumption) ?_
 rotate_left
 ·(intro v hv; go_simp; try (with_reducible rfl))
 try simp [Act.put]
 refine wpAnyH_take (i:=9) (v:=?_) rfl zK zK zK (fun _ _ _ h=>h) (Or.inl ⟨by rfl,?_⟩) (by assumption) ?_
 rotate_left
 ·(intro v hv; go_simp; try (with_reducible rfl))
 try simp [Act.put]
 refine wpAnyH_take (i:=10) (v:=?_) rfl zK zK zK (fun _ _ _ h=>h) (Or.inl ⟨by rfl,?_⟩) (by assumption) ?_
 rotate_left
 ·(intro v hv; go_simp; try (with_reducible rfl))
 try simp [Act.put]
 refine wpAnyH_done zK ?_ _
 have HR5:=zH (HR2.out.on hB5)
 obtain⟨_,_,_,_,_,_,b0,b1⟩:=HFA.out w5 hB5
 have HN3:=zH HR5.out.box
 have HNR:=zH HR5.out.less.box
 have HRS:Hid (Rd w0 mz (w5.setRow g2 (GdM.vals ⟨x,M.1,M.2,a,c,rs⟩)) R bs q s p):=(HR5.out.row HG2.out.1 _ HG2.out.2).less
 have HNS:Hid ((w5.setRow g2 (GdM.vals ⟨x,M.1,M.2,a,c,rs⟩)).heap[g2]? = some (.cells (GdM.vals ⟨x,M.1,M.2,a,c,rs⟩) 68 (0,0))):=setRow_heap _ _ _ _ _ _ HN3.out
 clear HFA hB5 hHeld HR2 HTB
 go_wp2_with (refine wpList_store_row rfl 68 (.tmp 6) (.tmp 22) rfl g2 (GdM.vals ⟨x,M.1,M.2,a,c,rs⟩) rfl rfl 68 zA4 HN3.out QD rfl (allGd _) ?_)
 exact bodyPost_ret (results_cell_row rfl _ _ g2 68 (GdM.vals ⟨x,M.1,M.2,a,c,rs⟩) (0,0) _ rfl HNS.out Tryz.underlying68 rfl QD) rfl ⟨rfl,HRS.out⟩
end Go.Proofs.YteedmmljahgpjaaGreatDoor
