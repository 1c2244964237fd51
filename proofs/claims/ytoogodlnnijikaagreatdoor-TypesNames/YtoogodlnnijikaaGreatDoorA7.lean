import Derived.Test.YtoogodlnnijikaaGreatDoorA0
import Derived.Test.YtoogodlnnijikaaGreatDoorA6
import Derived.Defers
import Derived.Recover
import Derived.Laws.Pointers
namespace Go.Proofs.YtoogodlnnijikaaGreatDoor
set_option maxHeartbeats 4000000
set_option maxRecDepth 100000
open Go.RowKit
theorem dep_size:∀ m,dep m≤2 * size m:=by
 refine Nd.ind fun h a c ks ih=>?_
 have:∀ (l:List Nd) (i:Nat),(∀ k ∈ l,dep k≤2 * size k)→deps h i l≤2 * Jx l+2:=by
  intro l
  induction l with
  | nil=>intro i _; simp [deps]
  | cons k l ihl =>
   intro i hl
   have h1:=hl k (by simp)
   have h2:=ihl (i+1) fun x hx=>hl x (by simp [hx])
   have h3:∀ (b:Bool) d,inc b d≤d+1:=fun b d=>by unfold inc; split <;> omega
   have h4:=h3 (dwn h i) (inc (decide (lvl k.h < ask h i)) (dep k))
   have h5:=h3 (decide (lvl k.h < ask h i)) (dep k)
   have h6:1≤size k:=by cases k; simp [size]
   simp only [deps,Jx]
   have:=Nat.max_le.2 (⟨by omega,by omega⟩:inc (dwn h i) (inc (decide (lvl k.h < ask h i)) (dep k))≤2 * (size k+Jx l)+2∧deps h (i+1) l≤2 * (size k+Jx l)+2)
   exact this
 simp only [dep,size]
 have:=this ks 0 ih
 omega
structure KK (X:yW) (B Y:Nat) (m k:Nd):Prop where
 m:NdH X B m
 k:NdH X Y k
theorem NdH.eight {w:yW}{b:Nat}{m:Nd}(h:NdH w b m):w.cell? b¢0=some (zU m.h.k)∧w.cell? b¢1=some (zU m.h.o)∧w.cell? b¢2=some (zU m.h.t)∧w.cell? b¢3=some (zI m.h.n)∧w.cell? b¢4=some (zU m.h.f)∧w.cell? b¢5=some (.string m.h.x)∧w.cell? b¢6=some (.slice m.a m.ks.length m.c)∧w.cell? b¢7=some (zI m.h.p) :=
 ⟨Qa h 0,Qa h 1,Qa h 2,Qa h 3,Qa h 4,Qa h 5,Qa h 6,Qa h 7⟩
theorem size_mem:∀ {ks:List Nd}{k:Nd},k ∈ ks→size k≤Jx ks
 | [],_,h=>by cases h
 | j :: js,k,h=>by
  rcases List.mem_cons.1 h with e | e
  ·rw [e]; simp only [Jx]; omega
  ·have:=size_mem e; simp only [Jx]; omega
theorem len_sizes:∀ (ks:List Nd),ks.length≤Jx ks
 | []=>Nat.le_refl _
 | j :: js=>by
  have h1:=len_sizes js
  have h2:1≤size j:=by cases j; simp [size]
  simp only [Jx,List.length_cons]; omega
theorem KK.hid {X:yW}{B Y:Nat}{m k:Nd}(h:KK X B Y m k):Hid (KK X B Y m k):=h
theorem KK.keep {X v:yW}{B Y:Nat}{m k:Nd}(h:KK X B Y m k) (g:GB X v) :
  v.cell? B¢0=some (zU m.h.k)∧v.cell? B¢1=some (zU m.h.o)∧v.cell? B¢2=some (zU m.h.t)∧v.cell? B¢3=some (zI m.h.n)∧v.cell? B¢4=some (zU m.h.f)∧v.cell? B¢5=some (.string m.h.x)∧v.cell? B¢6=some (.slice m.a m.ks.length m.c)∧v.cell? B¢7=some (zI m.h.p) ∧
  v.cell? Y¢0=some (zU k.h.k)∧v.cell? Y¢1=some (zU k.h.o)∧v.cell? Y¢2=some (zU k.h.t)∧v.cell? Y¢3=some (zI k.h.n)∧v.cell? Y¢4=some (zU k.h.f)∧v.cell? Y¢5=some (.string k.h.x)∧v.cell? Y¢6=some (.slice k.a k.ks.length k.c)∧v.cell? Y¢7=some (zI k.h.p)∧GB X v:=by
 obtain⟨a0,a1,a2,a3,a4,a5,a6,a7⟩:=(h.m.on g).eight
 obtain⟨b0,b1,b2,b3,b4,b5,b6,b7⟩:=(h.k.on g).eight
 exact⟨a0,a1,a2,a3,a4,a5,a6,a7,b0,b1,b2,b3,b4,b5,b6,b7,g⟩
theorem maxv {D n:Nat}{y z:Int}(hy:(D:Int)=y) (hz:(n:Int)=z):Value.int .i64 (if y < z then z else y)=zI ((Nat.max D n:Nat):Int):=by
 congr 1
 rw [← hy,← hz]
 have h1:Nat.max D n=if D < n then n else D:=by
  show max D n=_
  split <;> omega
 rw [h1]
 by_cases h:D < n
 ·rw [if_pos h,if_pos (by omega)]
 ·rw [if_neg h,if_neg (by omega)]
theorem run_max (x y:Int):Builtin.max_ #[3,3] 3 #[zI x,zI y]=pure (zI (if y > x then y else x)):=by
 show (Builtin.max2 (zI x) (zI y) >>= fun v=>pure v)=_
 show (pure (Value.int .i64 (if y > x then y else x)) >>= fun v=>(pure v:Sem Value))=_
 rfl
theorem depth_any:∀ (m:Nd) (w:yW),Lies w m→size m≤1000000000000→Calls zG 116 #[.agg m.vals] w fun e w'=>e=.returned (zI (dep m))∧yD w w':=by
 refine Nd.ind fun h a c ks ih w hl hz=>?_
 have HI:Hid (∀ k ∈ ks,∀ (w:yW),Lies w k→size k≤1000000000000→Calls zG 116 #[.agg k.vals] w fun e w'=>e=.returned (zI (dep k))∧yD w w'):=ih
 have HL:=hl.hid
 have HZ:Hid (size (.mk h a c ks)≤1000000000000):=hz
 have cA:∀ (i:Nat),i≤9223372036854775000→∀ v,Calls zG 146 #[.agg (zX h a ks c),zI i] v fun e w'=>e=.returned (zI (ask h i))∧yD v w':=fun i hi v=>asked_any h a ks.length c i hi v
 have cG:∀ (i:Nat) v,Calls zG 147 #[.agg (zX h a ks c),zI i] v fun e w'=>e=.returned (.bool (dwn h i))∧yD v w':=fun i v=>goesDown_any h a ks.length c i v
 clear ih hl hz
 show Calls zG 116 #[.agg (zX h a ks c)] w _
 have HN0:Hid (NdH (w.alloc (.cells (zX h a ks c) 48)) w§ (.mk h a c ks)):=Qd w _
 go_enter Tryz.func116,Tryz.ntmps116
 go_wp2_with fail
 go_loopw [3,4,5,6,10] (fun d t4 t5 t6 t wr=>∃ (i D:Nat),i≤ks.length∧t=zI i∧d=zI D∧Below (w.alloc (.cells (zX h a ks c) 48))§ (w.alloc (.cells (zX h a ks c) 48)) wr∧Hid (deps h 0 ks=Nat.max D (deps h i (ks.drop i)))) (fun _ _ _ _ t _=>ks.length - (intOf t).toNat)
 case atStart=>exact⟨0,0,by omega,rfl,rfl,Below.refl _ _,by show _=_; simp⟩
 case round =>
  obtain⟨i,D,hi,rfl,rfl,hbr,HR⟩:=hrel
  have HBR:Hid (yD w wr):=Qs (Qc _ _) hbr
  have HNR:Hid (NdH wr w§ (.mk h a c ks)):=HN0.out.on hbr
  have HBr:Hid (Below (w.alloc (.cells (zX h a ks c) 48))§ (w.alloc (.cells (zX h a ks c) 48)) wr):=hbr
  clear hbr
  by_cases hlt:i < ks.length
  ·have hlt':(i:Int) < (ks.length:Int):=by omega
   have hmx:(i:Int)+1≤9223372036854775807:=by
    have h1:=HL.out.max
    have h2:=HL.out.cap
    simp only [Nd.ks,Nd.c] at h1 h2
    omega
   obtain⟨b,o,e,hat⟩:=(HL.out.on HBR.out).kid i hlt
   have e2:a=some b¢o:=e
   clear e
   subst e2
   have cI:=HI.out ks[i] (QS hlt)
   have HLk:Hid (Lies w ks[i]):=HL.out.sub ks[i] (QS hlt)
   have hsz:size ks[i]≤1000000000000:=by have h1:=size_mem (QS hlt); have h2:=HZ.out; simp only [size] at h2; omega
   have hdk:=dep_size ks[i]
   have HD:Hid (deps h 0 ks=Nat.max D (Nat.max (inc (dwn h i) (inc (decide (lvl ks[i].h < ask h i)) (dep ks[i]))) (deps h (i+1) (ks.drop (i+1))))):=by show _=_; rw [HR.out,KC hlt]; rfl
   obtain⟨k,ek⟩:∃ k,ks[i]=k:=⟨_,rfl⟩
   have hat2:NdAt wr b (o+i * 8) k:=by rw [← ek]; exact hat
   clear hat
   rw [ek] at cI HLk hsz HD hdk
   obtain⟨y0,y1,y2,y3,y4,y5,y6,y7⟩:=hat2
   obtain⟨d,ed⟩:∃ d,dep k=d:=⟨_,rfl⟩
   obtain⟨V,eV⟩:∃ V,lvl k.h=V:=⟨_,rfl⟩
   obtain⟨U,eU⟩:∃ U,ask h i=U:=⟨_,rfl⟩
   obtain⟨G,eG⟩:∃ G,dwn h i=G:=⟨_,rfl⟩
   have cL:∀ v,Calls zG 145 #[.agg (zV k)] v fun e w'=>e=.returned (zI V)∧yD v w':=fun v=>by rw [← eV]; exact level_any k.h k.a k.ks.length k.c v
   have hle:i≤1000000000000:=by have h1:=len_sizes ks; have h2:=HZ.out; simp only [size] at h2; omega
   have cA:=cA i (by omega)
   have cG:=cG i
   have hd0:(d:Int)+2≤9223372036854775807:=by omega
   rw [ed] at cI HD
   rw [eV,eU,eG] at HD
   rw [eU] at cA
   simp only [eG] at cG
   have cI:∀ v,Lies v k→Calls zG 116 #[.agg (zV k)] v fun e w'=>e=.returned (zI d)∧yD v w':=fun v hv=>cI v hv hsz
   have hd1:(d:Int)+1≤9223372036854775807:=by omega
   have hd2:(d:Int)+1+1≤9223372036854775807:=by omega
   clear ek eV eU eG ed HR hdk hsz hle hd0
   go_wp2_with (go_at_call 116; refine (cI _ (HLk.out.on (Qs HBR.out (Qc _ _)))).mono ?_; rintro e w5 ⟨rfl,hb5⟩)
   have HB5:Hid (yD w w5):=Qs (Qs HBR.out (Qc _ _)) hb5
   have HKX:Hid (KK w5 w§ wr§ (.mk h (some b¢o) c ks) k):=⟨HNR.out.on (Qs (Qc _ _) hb5),NdH.on (Qd wr _) hb5⟩
   have HB6:Hid (yD wr w5):=Qs (Qc _ _) hb5
   obtain⟨X,eX⟩:∃ X,w5=X:=⟨_,rfl⟩
   obtain⟨Y,eY⟩:∃ Y,wr§=Y:=⟨_,rfl⟩
   rw [eY] at HKX ⊢
   subst eX
   clear hb5 cI eY y0 y1 y2 y3 y4 y5 y6 y7
   go_region_held3 (fun v=>v.cell? w§¢0=some (zU h.k)∧v.cell? w§¢1=some (zU h.o)∧v.cell? w§¢2=some (zU h.t)∧v.cell? w§¢3=some (zI h.n)∧v.cell? w§¢4=some (zU h.f)∧v.cell? w§¢5=some (.string h.x)∧v.cell? w§¢6=some (.slice (some b¢o) ks.length c)∧v.cell? w§¢7=some (zI h.p)∧v.cell? Y¢0=some (zU k.h.k)∧v.cell? Y¢1=some (zU k.h.o)∧v.cell? Y¢2=some (zU k.h.t)∧v.cell? Y¢3=some (zI k.h.n)∧v.cell? Y¢4=some (zU k.h.f)∧v.cell? Y¢5=some (.string k.h.x)∧v.cell? Y¢6=some (.slice k.a k.ks.length k.c)∧v.cell? Y¢7=some (zI k.h.p)∧GB w5 v)
    (exact HKX.out.keep (by (repeat (first | with_reducible assumption | with_reducible exact GB.refl _ | with_reducible apply GB.drew | with_reducible apply GB.alloc | with_reducible refine GB.call (by with_reducible assumption) ?_))))
    (first
     | (go_at_call 145; refine (cL _).mono ?_; rintro e w6 ⟨rfl,hb6⟩)
     | (go_at_call 146; refine (cA _).mono ?_; rintro e w7 ⟨rfl,hb7⟩))
   all_goals
    refine abs_world (P:=fun V=>GB w5 V) (by (repeat (first | with_reducible assumption | with_reducible exact GB.refl _ | with_reducible apply GB.drew | with_reducible apply GB.alloc | with_reducible refine GB.call (by with_reducible assumption) ?_))) ?_
    intro Vw hv
    obtain⟨q0,q1,q2,q3,q4,q5,q6,q7,p0,p1,p2,p3,p4,p5,p6,p7,_⟩:=HKX.out.keep hv
    simp only [Nd.h,Nd.a,Nd.c,Nd.ks] at q0 q1 q2 q3 q4 q5 q6 q7
    have HV:Hid (yD w5 Vw):=hv
    clear hv p0 p1 p2 p3 p4 p5 p6 p7
    obtain⟨z,ez⟩:∃ z:Int,(d:Int)=z:=⟨_,rfl⟩
    obtain⟨z1,ez1⟩:∃ z1:Int,(d:Int)+1=z1:=⟨_,rfl⟩
    obtain⟨z2,ez2⟩:∃ z2:Int,(d:Int)+1+1=z2:=⟨_,rfl⟩
    have hw1:wrap64 (z+1)=z1:=by rw [← ez,ez1]; unfold wrap64; omega
    have hw2:wrap64 (z1+1)=z2:=by rw [← ez1,ez2]; unfold wrap64; omega
    obtain⟨y,ey⟩:∃ y:Int,(D:Int)=y:=⟨_,rfl⟩
    simp only [ez,ey]
    have EZ:Hid ((d:Int)=z∧(d:Int)+1=z1∧(d:Int)+1+1=z2∧(D:Int)=y):=⟨ez,ez1,ez2,ey⟩
    clear ez ey ez1 ez2 hd1 hd2 hmx
    by_cases hP:V < U
    ·cases G with
     | true =>
      have K9:Hid (inc true (inc (decide (V < U)) d)=d+1+1):=by show _=_; rw [decide_eq_true hP]; rfl
      go_wp2_with fail
      refine (cG _).mono ?_
      rintro e w8 ⟨rfl,hb8⟩
      have HB8:Hid (Below (w.alloc (.cells (zX h (some b¢o) ks c) 48))§ (w.alloc (.cells (zX h (some b¢o) ks c) 48)) w8):=Qs (Qs (Qs HBr.out HB6.out) HV.out) hb8
      clear hb8 q0 q1 q2 q3 q4 q5 q6 q7
      have hmm:=fun x=>run_max x
      have hmx:(i:Int)+1≤9223372036854775807:=by
       have h1:=HL.out.max
       have h2:=HL.out.cap
       simp only [Nd.ks,Nd.c] at h1 h2
       omega
      go_wp2_with fail
      rw [K9.out] at HD
      exact⟨⟨i+1,Nat.max D (d+1+1),hlt,rfl,maxv EZ.out.2.2.2 (by have:=EZ.out; omega),HB8.out,by show _=_; rw [HD.out]; exact (Nat.max_assoc _ _ _).symm⟩,by simp only [intOf]; omega⟩
     | false =>
      have K9:Hid (inc false (inc (decide (V < U)) d)=d+1):=by show _=_; rw [decide_eq_true hP]; rfl
      go_wp2_with fail
      refine (cG _).mono ?_
      rintro e w8 ⟨rfl,hb8⟩
      have HB8:Hid (Below (w.alloc (.cells (zX h (some b¢o) ks c) 48))§ (w.alloc (.cells (zX h (some b¢o) ks c) 48)) w8):=Qs (Qs (Qs HBr.out HB6.out) HV.out) hb8
      clear hb8 q0 q1 q2 q3 q4 q5 q6 q7
      have hmm:=fun x=>run_max x
      have hmx:(i:Int)+1≤9223372036854775807:=by
       have h1:=HL.out.max
       have h2:=HL.out.cap
       simp only [Nd.ks,Nd.c] at h1 h2
       omega
      go_wp2_with fail
      rw [K9.out] at HD
      exact⟨⟨i+1,Nat.max D (d+1),hlt,rfl,maxv EZ.out.2.2.2 (by have:=EZ.out; omega),HB8.out,by show _=_; rw [HD.out]; exact (Nat.max_assoc _ _ _).symm⟩,by simp only [intOf]; omega⟩
    ·cases G with
     | true =>
      have K9:Hid (inc true (inc (decide (V < U)) d)=d+1):=by show _=_; rw [decide_eq_false hP]; rfl
      go_wp2_with fail
      refine (cG _).mono ?_
      rintro e w8 ⟨rfl,hb8⟩
      have HB8:Hid (Below (w.alloc (.cells (zX h (some b¢o) ks c) 48))§ (w.alloc (.cells (zX h (some b¢o) ks c) 48)) w8):=Qs (Qs (Qs HBr.out HB6.out) HV.out) hb8
      clear hb8 q0 q1 q2 q3 q4 q5 q6 q7
      have hmm:=fun x=>run_max x
      have hmx:(i:Int)+1≤9223372036854775807:=by
       have h1:=HL.out.max
       have h2:=HL.out.cap
       simp only [Nd.ks,Nd.c] at h1 h2
       omega
      go_wp2_with fail
      rw [K9.out] at HD
      exact⟨⟨i+1,Nat.max D (d+1),hlt,rfl,maxv EZ.out.2.2.2 (by have:=EZ.out; omega),HB8.out,by show _=_; rw [HD.out]; exact (Nat.max_assoc _ _ _).symm⟩,by simp only [intOf]; omega⟩
     | false =>
      have K9:Hid (inc false (inc (decide (V < U)) d)=d):=by show _=_; rw [decide_eq_false hP]; rfl
      go_wp2_with fail
      refine (cG _).mono ?_
      rintro e w8 ⟨rfl,hb8⟩
      have HB8:Hid (Below (w.alloc (.cells (zX h (some b¢o) ks c) 48))§ (w.alloc (.cells (zX h (some b¢o) ks c) 48)) w8):=Qs (Qs (Qs HBr.out HB6.out) HV.out) hb8
      clear hb8 q0 q1 q2 q3 q4 q5 q6 q7
      have hmm:=fun x=>run_max x
      have hmx:(i:Int)+1≤9223372036854775807:=by
       have h1:=HL.out.max
       have h2:=HL.out.cap
       simp only [Nd.ks,Nd.c] at h1 h2
       omega
      go_wp2_with fail
      rw [K9.out] at HD
      exact⟨⟨i+1,Nat.max D (d),hlt,rfl,maxv EZ.out.2.2.2 (by have:=EZ.out; omega),HB8.out,by show _=_; rw [HD.out]; exact (Nat.max_assoc _ _ _).symm⟩,by simp only [intOf]; omega⟩
  ·obtain rfl:i=ks.length:=by omega
   have hnot:¬ (ks.length:Int) < (ks.length:Int):=by omega
   have HE:Hid (dep (.mk h a c ks)=D):=by show deps h 0 ks=_; rw [HR.out,List.drop_length]; show Nat.max D 0=D; simp
   clear HR
   go_wp2_with fail
   go_ret
   exact⟨by rw [HE.out]; rfl,HBR.out⟩
theorem assert_hit (v:Value) (w:yW):(Instr.typeAssert (.iface 28 v) 20 28 true).run Tryz.prog w=.ok (.tuple #[v,.bool true]) w:=by
 simp [Instr.typeAssert,run_underlying Tryz.underlying28,go_sem,Result.andThen]
theorem assert_nil (w:yW):(Instr.typeAssert .nilIface 20 28 true).run Tryz.prog w=.ok (.tuple #[zI 0,.bool false]) w:=by
 simp [Instr.typeAssert,run_underlying Tryz.underlying28,go_sem,Result.andThen]
theorem catch_p (p:Addr) (y no:Int) (older:List PanicEntry) (w:yW) (hc:w.cell? p=some (zI y)) (hz:w.frozen? p=false) :
  CallsD Tryz.prog 99 #[.pointer (some p)] (.panicking ({ v:=.iface 28 (zI no),recovered:=false } :: older)) w fun e u' w' =>
   e=.returned (.tuple #[])∧u'=.panicking ({ v:=.iface 28 (zI no),recovered:=true } :: older)∧w'=w.setCell p (zI no):=by
 refine callsD_of_wpS Tryz.func99 rfl fun c₀ cs hu=>?_
 apply wpS_region
 simp [wpOpsS,go_sem,recoverD,hu,Tryz.ntmps99,hc,hz,assert_hit,Result.andThen,bodyPostS,results,Tryz.results99]
theorem catch_i (p:Addr) (y:Int) (w:yW) (hc:w.cell? p=some (zI y)) (hz:w.frozen? p=false) :
  CallsD Tryz.prog 99 #[.pointer (some p)] .returning w fun e u' w'=>e=.returned (.tuple #[])∧u'=.returning∧w'=w.setCell p (zI 0):=by
 refine callsD_of_wpS Tryz.func99 rfl fun c₀ cs hu=>?_
 apply wpS_region
 simp [wpOpsS,go_sem,recoverD,hu,Tryz.ntmps99,hc,hz,assert_nil,Result.andThen]
 cases c₀
 simp_all [bodyPostS,results,Tryz.results99]
theorem found_any (F:Nat) (hE:∀ args v,Sem.run Tryz.prog (callFunc F args) v=.ok (.enter F args) v) (cap:Array Value) (E:Int) (w:yW)
  (cF:∀ v,yD w v→Calls zG F cap v fun e w'=>((E=0∧e=.returned (.tuple #[]))∨(¬ E=0∧e=.panicked [{ v:=.iface 28 (zI E),recovered:=false }]))∧yD v w') :
  Calls zG 64 #[.func (.func F) #[] cap] w fun e w'=>e=.returned (zI E)∧yD w w':=by
 have hmf:∀ (fn:Fn) (first cap:Array Value) (w:yW),(Instr.makeFunc fn first cap).run Tryz.prog w=.ok (.func fn first cap) w:=fun _ _ _ _=>rfl
 by_cases h:E=0
 ·subst h
  have cG:∀ v,yD w v→Calls zG F cap v fun e w'=>e=.returned (.tuple #[])∧yD v w':=fun v hv=>(cF v hv).mono (by
   rintro e w' ⟨h1 | h1,h2⟩
   ·exact⟨h1.2,h2⟩
   ·exact absurd rfl h1.1)
  clear cF
  go_enter_defers Tryz.func64,Tryz.ntmps64
  go_wp2_with fail
  refine (cG _ (Qc _ _)).mono ?_
  rintro e w1 ⟨rfl,hb1⟩
  have hbk:=(hb1.block w§ (by simp)).trans (Qd w _)
  have c0:w1.cell? w§¢0=some (zI 0):=Qa hbk 0
  have f0:w1.frozen? w§¢0=false:=Qb hbk 0
  have HB1:Hid (yD w w1):=(Qc _ _).trans (hb1.mono (by simp))
  have HK:Hid (w1.heap[w§]? = (zC #[zI 0] 28)):=hbk
  clear hbk hb1
  go_wp2_with fail
  refine leaves_cons (f:=99) (args:=#[zP w§]) (by simp) (by simp [go_sem]) ?_
  refine (catch_i w§¢0 0 _ (Qa (Qi _ HK.out) 0) (Qb (Qi _ HK.out) 0)).mono ?_
  rintro e u' w'' ⟨rfl,rfl,rfl⟩
  have h9:=Qi (j:=0) (zI 0) (Qi (j:=0) (zI 0) HK.out)
  have c9:((w1.setCell w§¢0 (zI 0)).setCell w§¢0 (zI 0)).cell? w§¢0=some (zI 0):=Qa h9 0
  have b9:yD w ((w1.setCell w§¢0 (zI 0)).setCell w§¢0 (zI 0)):=(HB1.out.setCell (p:=w§¢0) (Nat.le_refl _) _).setCell (p:=w§¢0) (Nat.le_refl _) _
  simp [Leaves,settle,results,Tryz.results64,go_sem,c9,b9]
 ·have cG:∀ v,yD w v→Calls zG F cap v fun e w'=>e=.panicked [{ v:=.iface 28 (zI E),recovered:=false }]∧yD v w':=fun v hv=>(cF v hv).mono (by
   rintro e w' ⟨h1 | h1,h2⟩
   ·exact absurd h1.1 h
   ·exact⟨h1.2,h2⟩)
  clear cF
  go_enter_defers Tryz.func64,Tryz.ntmps64
  go_wp2_with fail
  refine (cG _ (Qc _ _)).mono ?_
  rintro e w1 ⟨rfl,hb1⟩
  have hbk:=(hb1.block w§ (by simp)).trans (Qd w _)
  have c0:w1.cell? w§¢0=some (zI 0):=Qa hbk 0
  have f0:w1.frozen? w§¢0=false:=Qb hbk 0
  have HB1:Hid (yD w w1):=(Qc _ _).trans (hb1.mono (by simp))
  have HK:Hid (w1.heap[w§]? = (zC #[zI 0] 28)):=hbk
  clear hbk hb1
  go_wp2_with fail
  refine leaves_cons (f:=99) (args:=#[zP w§]) (by simp) (by simp [go_sem]) ?_
  refine (catch_p w§¢0 0 E [] _ c0 f0).mono ?_
  rintro e u' w'' ⟨rfl,rfl,rfl⟩
  have h9:=Qi (j:=0) (zI E) HK.out
  have c9:(w1.setCell w§¢0 (zI E)).cell? w§¢0=some (zI E):=Qa h9 0
  have b9:yD w (w1.setCell w§¢0 (zI E)):=HB1.out.setCell (p:=w§¢0) (Nat.le_refl _) _
  simp [Leaves,settle,results,Tryz.results64,go_sem,c9,b9]
theorem enter51 (args:Array Value) (v:yW):Sem.run Tryz.prog (callFunc 80 args) v=.ok (.enter 80 args) v:=by kernel_rfl
def QG (F:Nat) (args:Array Value) (w:yW) (E:Int):Prop:=Calls zG F args w fun e w'=>((E=0∧e=.returned (.tuple #[]))∨(¬ E=0∧e=.panicked [{ v:=.iface 28 (zI E),recovered:=false }]))∧yD w w'
def fE (m:Nd):Int:=if QW m=true then 0 else 120
theorem form_gives {m:Nd}{w:yW}(hl:Lies w m) (ht:Tab w):QG 114 #[.agg m.vals] w (fE m):=by
 refine (form_any m w hl ht).mono ?_
 rintro e w' ⟨rfl,hb⟩
 unfold fE endE
 cases QW m with
 | true=>exact⟨.inl ⟨rfl,rfl⟩,hb⟩
 | false=>exact⟨.inr ⟨by decide,rfl⟩,hb⟩
theorem QG.zero {F:Nat}{args:Array Value}{w:yW}(c:QG F args w 0):Calls zG F args w fun e w'=>e=.returned (.tuple #[])∧yD w w':=c.mono (by
 rintro e w' ⟨h1 | h1,h2⟩
 ·exact⟨h1.2,h2⟩
 ·exact absurd rfl h1.1)
theorem QG.some {F:Nat}{args:Array Value}{w:yW}{E:Int}(h:¬ E=0) (c:QG F args w E):Calls zG F args w fun e w'=>e=.panicked [{ v:=.iface 28 (zI E),recovered:=false }]∧yD w w':=c.mono (by
 rintro e w' ⟨h1 | h1,h2⟩
 ·exact absurd h1.1 h
 ·exact⟨h1.2,h2⟩)
def cE (m:Nd):Int:=if QW m=true then (if dep m≤24 then 0 else 122) else 120
theorem hbox (w:yW) (m:Nd):NdH (w.alloc (.cells m.vals 48)) w§ m:=Qd w _
theorem needExpr_any (m:Nd) (w:yW) (hl:Lies w m) (hz:size m≤1000000000000) (ht:Tab w):QG 81 #[.agg m.vals] w (cE m):=by
 have hN:=hbox w m
 have hb0:=Qc w (.cells m.vals 48)
 have c1:=form_gives (hl.on hb0) (ht.on hb0)
 have c2:=fun v (hv:yD w v)=>depth_any m v (hl.on hv) hz
 unfold QG cE
 unfold fE at c1
 have HN:=hN.hid
 clear hl hz ht hN hb0
 obtain⟨B,eB⟩:∃ B,QW m=B:=⟨_,rfl⟩
 rw [eB] at c1 ⊢
 obtain⟨d,ed⟩:∃ d,dep m=d:=⟨_,rfl⟩
 simp only [ed] at c2 ⊢
 clear ed eB
 unfold Nd.vals hdA at c1 c2 HN ⊢
 cases B with
 | false =>
  rw [if_neg (by decide)] at c1 ⊢
  have c3:=QG.some (by decide) c1
  clear c1
  go_enter Tryz.func81,Tryz.ntmps81
  go_wp2_with fail
  refine c3.mono ?_
  rintro e w1 ⟨rfl,hb⟩
  exact⟨rfl,.inr ⟨by decide,rfl⟩,(Qc _ _).trans (hb.mono (by simp))⟩
 | true =>
  rw [if_pos rfl] at c1
  have c3:=QG.zero c1
  clear c1
  by_cases h:d≤24
  ·have h':(d:Int)≤24:=by omega
   rw [if_pos rfl,if_pos h]
   go_enter Tryz.func81,Tryz.ntmps81
   go_wp2_with fail
   refine c3.mono ?_
   rintro e w1 ⟨rfl,hb⟩
   obtain⟨q0,q1,q2,q3,q4,q5,q6,q7⟩:=box8 hb
   have HB1:Hid (yD w w1):=(Qc _ _).trans (hb.mono (by simp))
   clear hb c3
   go_wp2_with (go_at_call 116; refine (c2 _ HB1.out).mono ?_; rintro e w2 ⟨rfl,hb2⟩)
   refine (need_t 122 _).mono ?_
   rintro e w3 ⟨rfl,e4⟩
   obtain rfl:=e4.symm
   go_wp2_with fail
   go_end0
   first | exact⟨.inl ⟨rfl,rfl⟩,HB1.out.trans (hb2.mono HB1.out.size)⟩ | exact⟨.inl ⟨trivial,rfl⟩,HB1.out.trans (hb2.mono HB1.out.size)⟩
  ·have h':¬ (d:Int)≤24:=by omega
   rw [if_pos rfl,if_neg h]
   go_enter Tryz.func81,Tryz.ntmps81
   go_wp2_with fail
   refine c3.mono ?_
   rintro e w1 ⟨rfl,hb⟩
   obtain⟨q0,q1,q2,q3,q4,q5,q6,q7⟩:=box8 hb
   have HB1:Hid (yD w w1):=(Qc _ _).trans (hb.mono (by simp))
   clear hb c3
   go_wp2_with (go_at_call 116; refine (c2 _ HB1.out).mono ?_; rintro e w2 ⟨rfl,hb2⟩)
   rw [show decide ((d:Int)≤24)=false from decide_eq_false (by omega)]
   refine (need_f 122 _).mono ?_
   rintro e w3 ⟨rfl,e4⟩
   obtain rfl:=e4.symm
   exact⟨rfl,.inr ⟨by decide,rfl⟩,HB1.out.trans (hb2.mono HB1.out.size)⟩
theorem look51 (m:Nd) (b:Nat) (w:yW) (hn:NdH w b m) (hl:Lies w m) (hz:size m≤1000000000000) (ht:Tab w):QG 80 #[zP b] w (cE m):=by
 obtain⟨y0,y1,y2,y3,y4,y5,y6,y7⟩:=hn.eight
 have c:=needExpr_any m w hl hz ht
 obtain⟨E,eE⟩:∃ E,cE m=E:=⟨_,rfl⟩
 rw [eE] at c ⊢
 unfold Nd.vals hdA at c
 clear eE hl ht hn hz
 by_cases h:E=0
 ·have c2:=(h ▸ c:QG 81 _ w 0).zero
  have HE:Hid (E=0):=h
  clear c h
  unfold QG
  go_enter Tryz.func80,Tryz.ntmps80
  go_wp2_with fail
  refine c2.mono ?_
  rintro e w1 ⟨rfl,hb⟩
  go_wp2_with fail
  go_end0
  exact⟨.inl ⟨HE.out,rfl⟩,hb⟩
 ·have c2:=c.some h
  have HE:Hid (¬ E=0):=h
  clear c h
  unfold QG
  go_enter Tryz.func80,Tryz.ntmps80
  go_wp2_with fail
  refine c2.mono ?_
  rintro e w1 ⟨rfl,hb⟩
  exact⟨rfl,.inr ⟨HE.out,rfl⟩,hb⟩
theorem checkExpr_any (m:Nd) (w:yW) (hl:Lies w m) (hz:size m≤1000000000000) (ht:Tab w):Calls zG 40 #[.agg m.vals] w fun e w'=>e=.returned (zI (cE m))∧yD w w':=by
 have hmf:∀ (fn:Fn) (first cap:Array Value) (w:yW),(Instr.makeFunc fn first cap).run Tryz.prog w=.ok (.func fn first cap) w:=fun _ _ _ _=>rfl
 have c:=found_any 80 enter51 #[zP w§] (cE m) (w.alloc (.cells m.vals 48)) (fun v hv=>look51 m w§ v ((hbox w m).on hv) ((hl.on (Qc w _)).on hv) hz ((ht.on (Qc w _)).on hv))
 clear hl hz ht
 unfold Nd.vals hdA at c ⊢
 go_enter Tryz.func40,Tryz.ntmps40
 go_wp2_with fail
 refine c.mono ?_
 rintro e w1 ⟨rfl,hb⟩
 go_wp2_with fail
 go_ret
 exact⟨rfl,(Qc _ _).trans (hb.mono (by simp))⟩
theorem alike_eq {g h:Hd}(e:JZ g h=true):J6 h=J6 g:=by
 unfold JZ at e
 simp only [Bool.and_eq_true,decide_eq_true_eq] at e
 obtain⟨e0,e1,e2,e3,e4,e5⟩:=e
 unfold J6
 rw [← e0,← e1,← e2,← e3,← e4,← e5]
theorem enter21 (args:Array Value) (v:yW):Sem.run Tryz.prog (callFunc 191 args) v=.ok (.enter 191 args) v:=by kernel_rfl
theorem eqf_any (js ks:List Nd) (a b:Option Addr) (c d:Nat) (hj:js.length≤c) (hjm:c≤9223372036854775807)
  (ih:∀ j ∈ js,∀ (k:Nd) (w:yW),Lies w j→Lies w k→Calls zG 191 #[.agg j.vals,.agg k.vals] w fun e w'=>e=.returned (.bool (J7 j k))∧yD w w')
  (g h:Hd) (w:yW) (hl:Lies w (.mk g a c js)) (hk:Lies w (.mk h b d ks)) :
  Calls zG 194 #[.slice a js.length c,.slice b ks.length d,.func (.func 191) #[] #[]] w fun e w'=>e=.returned (.bool (decide (js.length=ks.length) && Js js ks))∧yD w w':=by
 by_cases hn:js.length=ks.length
 ·rw [decide_eq_true hn,Bool.true_and]
  have hn':((js.length:Int) != (ks.length:Int))=false:=by simp; omega
  have hn2:(js.length:Int)=(ks.length:Int):=by omega
  have HN:Hid (js.length=ks.length):=hn
  have HL:=hl.hid
  have HK:=hk.hid
  have HI:Hid (∀ j ∈ js,∀ (k:Nd) (w:yW),Lies w j→Lies w k→Calls zG 191 #[.agg j.vals,.agg k.vals] w fun e w'=>e=.returned (.bool (J7 j k))∧yD w w'):=ih
  obtain⟨L,eL⟩:∃ L,ks.length=L:=⟨_,rfl⟩
  rw [eL] at hn hn' hn2 HN ⊢
  have HEL:Hid (ks.length=L):=eL
  have e1:js.length=L:=hn
  rw [e1] at hn' hn2 hj ⊢
  have HJL:Hid (js.length=L):=e1
  clear hl hk ih hn eL e1 HN hn2
  have hn':((L:Int) != (L:Int))=false:=by simp
  go_enter Tryz.func194,Tryz.ntmps194
  go_wp2_with fail
  go_loopw [7,8,9,17] (fun _ _ _ t wr=>∃ i:Nat,i≤L∧t=zI i∧yD w wr∧Hid (Js js ks=Js (js.drop i) (ks.drop i))) (fun _ _ _ t _=>L - (intOf t).toNat)
  case atStart=>exact⟨0,by omega,rfl,Below.refl _ _,by show _=_; simp⟩
  case round =>
   obtain⟨i,hi,rfl,hbr,HR⟩:=hrel
   have HBR:Hid (yD w wr):=hbr
   clear hbr
   by_cases hlt:i < L
   ·have hlt':(i:Int) < (L:Int):=by omega
    have h1:i < js.length:=by rw [HJL.out]; exact hlt
    have h2:i < ks.length:=by rw [HEL.out]; exact hlt
    obtain⟨b1,o1,e1,hat1⟩:=(HL.out.on HBR.out).kid i h1
    obtain⟨b2,o2,e2,hat2⟩:=(HK.out.on HBR.out).kid i h2
    have e1':a=some b1¢o1:=e1
    have e2':b=some b2¢o2:=e2
    have cI:=HI.out js[i] (QS h1) ks[i]
    have HLj:Hid (Lies w js[i]):=HL.out.sub js[i] (QS h1)
    have HLk:Hid (Lies w ks[i]):=HK.out.sub ks[i] (QS h2)
    have HD:Hid (Js js ks=(J7 js[i] ks[i] && Js (js.drop (i+1)) (ks.drop (i+1)))):=by show _=_; rw [HR.out,KC h1,KC h2]; rfl
    have hj1:NdAt wr b1 (o1+i * 8) js[i]:=hat1
    have hk1:NdAt wr b2 (o2+i * 8) ks[i]:=hat2
    clear hat1 hat2
    obtain⟨j,ej⟩:∃ j,js[i]=j:=⟨_,rfl⟩
    obtain⟨k,ek⟩:∃ k,ks[i]=k:=⟨_,rfl⟩
    rw [ej] at hj1 HD HLj cI
    rw [ek] at hk1 HD HLk cI
    clear e1 e2
    subst e1' e2'
    obtain⟨y0,y1,y2,y3,y4,y5,y6,y7⟩:=hj1
    have hat2':NdAt (wr.alloc (.cells (zV j) 48)) b2 (o2+i * 8) k:=hk1.on (Qc _ _)
    obtain⟨z0,z1,z2,z3,z4,z5,z6,z7⟩:=hat2'
    have hb2:=hk1.lt
    obtain⟨B,eB⟩:∃ B,J7 j k=B:=⟨_,rfl⟩
    rw [eB] at HD cI
    have hmx:(i:Int)+1≤9223372036854775807:=by omega
    have cI:∀ v,Lies v j→Lies v k→Calls zG 191 #[.agg (zV j),.agg (zV k)] v fun e w'=>e=.returned (.bool B)∧yD v w':=cI
    have hj21:=fun args v=>enter21 args v
    clear eB ej ek HR hk1 h1 h2
    cases B with
    | true =>
     go_wp2_with (with_reducible refine (cI _ (HLj.out.on (Qs HBR.out (Ql _ _ _))) (HLk.out.on (Qs HBR.out (Ql _ _ _)))).mono ?_; rintro e w5 ⟨rfl,hb5⟩)
     have HB5:Hid (yD w w5):=Qs (Qs HBR.out (Ql _ _ _)) hb5
     exact⟨⟨i+1,hlt,rfl,HB5.out,by show _=_; rw [HD.out]; rfl⟩,by simp only [intOf]; omega⟩
    | false =>
     go_wp2_with (with_reducible refine (cI _ (HLj.out.on (Qs HBR.out (Ql _ _ _))) (HLk.out.on (Qs HBR.out (Ql _ _ _)))).mono ?_; rintro e w5 ⟨rfl,hb5⟩)
     go_ret
     exact⟨by rw [HD.out]; rfl,Qs (Qs HBR.out (Ql _ _ _)) hb5⟩
   ·obtain rfl:i=L:=by omega
    have hnot:¬ (i:Int) < (i:Int):=by omega
    have HE:Hid (Js js ks=true):=by show _=_; rw [HR.out,← HJL.out,List.drop_length]; rfl
    clear HR
    go_wp2_with fail
    go_ret
    exact⟨by rw [HE.out]; rfl,HBR.out⟩
 ·rw [decide_eq_false hn,Bool.false_and]
  have hn':((js.length:Int) != (ks.length:Int))=true:=by simp; omega
  clear hl hk ih
  go_enter Tryz.func194,Tryz.ntmps194
  go_wp2_with fail
  go_ret
  exact⟨rfl,Below.refl _ _⟩
end Go.Proofs.YtoogodlnnijikaaGreatDoor
