import Derived.Test.YteedmmljahgpjaaGreatDoorA0
import Derived.Test.YteedmmljahgpjaaGreatDoorA3
namespace Go.Proofs.YteedmmljahgpjaaGreatDoor
set_option maxRecDepth 100000
set_option maxHeartbeats 4000000
open Go.RowKit
set_option linter.unusedVariables false
set_option linter.unusedSimpArgs false
theorem QC (l n m:Int) (w:World):Calls zG 94 #[zI l,zI n,zI m] w fun e w'=>e=.returned (.bool (Qb l n m))∧w'=w:=by
 unfold Qb
 cases h1:decide (l≤n) with
 | true =>
  go_enter Tryz.func94,Tryz.ntmps94
  go_wp2_with fail
  go_ret
  exact⟨rfl,rfl⟩
 | false =>
  go_enter Tryz.func94,Tryz.ntmps94
  go_wp2_with fail
  go_ret
  exact⟨rfl,rfl⟩
theorem ends_any (k:Int) (w:World):Calls zG 96 #[zU k] w fun e w'=>e=.returned (.bool (endsB k))∧w'=w:=by
 unfold endsB
 cases h1:(k == 5) with
 | true =>
  go_enter Tryz.func96,Tryz.ntmps96
  go_wp2_with fail
  go_ret
  exact⟨rfl,rfl⟩
 | false =>
  go_enter Tryz.func96,Tryz.ntmps96
  go_wp2_with fail
  go_ret
  exact⟨rfl,rfl⟩
theorem Kf (x:Sp) (h:I64 x.len) (w:World):Calls zG 71 #[.agg x.vals] w fun e w'=>e=.returned (zI x.len)∧Below w§ w w':=by
 have hb1:=Bn w (.cells x.vals 65)
 have hn1:=Hn w (.cells x.vals 65)
 obtain⟨W1,e1⟩:∃ W,w.alloc (.cells x.vals 65)=W:=⟨_,rfl⟩
 have E1:=zH e1
 rw [e1] at hb1 hn1
 have HB1:=zH hb1
 obtain⟨c0,c1⟩:=cl2 hn1
 clear hb1 e1 hn1
 go_enter Tryz.func71,Tryz.ntmps71
 go_upto_region 1 with fail
 rw [E1.out]
 clear E1
 unfold I64 Sp.len at h
 obtain⟨h1,h2⟩:=h
 go_wp2_with fail
 go_ret
 exact⟨rfl,HB1.out⟩
theorem orderFits_any (r:RowM) (w:World):Calls zG 124 #[.agg r.vals] w fun e w'=>e=.returned (.bool (Jl r))∧Below w§ w w':=by
 have hb1:=Bn w (.cells r.vals 85)
 have hn1:=Hn w (.cells r.vals 85)
 obtain⟨W1,e1⟩:∃ W,w.alloc (.cells r.vals 85)=W:=⟨_,rfl⟩
 have E1:=zH e1
 rw [e1] at hb1 hn1
 have HB1:=zH hb1
 have c0:W1.cell? ⟨w§,0,none⟩=some (zU r.k):=Co hn1 0
 have c1:W1.cell? ⟨w§,1,none⟩=some (zU r.o):=Co hn1 1
 clear hb1 e1 hn1
 unfold Jl
 cases h1:(r.k == 1) with
 | true =>
  simp only [if_true]
  cases h2:decide (1≤r.o) with
  | true =>
   go_enter Tryz.func124,Tryz.ntmps124
   go_upto_region 1 with fail
   rw [E1.out]
   clear E1
   go_wp2_with fail
   go_ret
   exact⟨rfl,HB1.out⟩
  | false =>
   go_enter Tryz.func124,Tryz.ntmps124
   go_upto_region 1 with fail
   rw [E1.out]
   clear E1
   go_wp2_with fail
   go_ret
   exact⟨rfl,HB1.out⟩
 | false =>
  rw [if_neg (by simp)]
  go_enter Tryz.func124,Tryz.ntmps124
  go_upto_region 1 with fail
  rw [E1.out]
  clear E1
  go_wp2_with fail
  go_ret
  exact⟨rfl,HB1.out⟩
theorem indexes_any (t:TbM) (k:Int) (w:World) (hl:TbL w t):Calls zG 123 #[.agg t.vals,zU k] w fun e w'=>e=.returned (.tuple #[zI (idxN t.sl t.rs.length t.ts.length k).1,zI (idxN t.sl t.rs.length t.ts.length k).2])∧Below w§ w w':=by
 obtain⟨hr1,hr2⟩:t.rs.length≤t.rc∧t.rc≤9223372036854775807:=by have:=hl.R; exact⟨by have:=this.1; rw [List.length_map] at this; exact this,this.2.1⟩
 obtain⟨ht1,ht2⟩:t.ts.length≤t.tc∧t.tc≤9223372036854775807:=by have:=hl.T; exact⟨by have:=this.1; rw [List.length_map] at this; exact this,this.2.1⟩
 have hb1:=Bn w (.cells t.vals 26)
 have hn1:=Hn w (.cells t.vals 26)
 obtain⟨W1,e1⟩:∃ W,w.alloc (.cells t.vals 26)=W:=⟨_,rfl⟩
 have E1:=zH e1
 rw [e1] at hb1 hn1
 have HB1:=zH hb1
 have c1:W1.cell? ⟨w§,1,none⟩=some (.slice t.ra t.rs.length t.rc):=Co hn1 1
 have c2:W1.cell? ⟨w§,2,none⟩=some (zI t.sl):=Co hn1 2
 have c5:W1.cell? ⟨w§,5,none⟩=some (.slice t.ta t.ts.length t.tc):=Co hn1 5
 clear hb1 e1 hn1
 unfold idxN
 cases h1:(k == 1) with
 | true =>
  go_enter Tryz.func123,Tryz.ntmps123
  go_upto_region 1 with fail
  rw [E1.out]
  clear E1
  go_wp2_with fail
  go_quiet (fail)
  go_wp2_with fail
  go_ret2
  exact⟨by simp [*],by first | exact HB1.out | exact Qz HB1.out _⟩
 | false =>
  cases h2:(k == 2) with
  | true =>
   go_enter Tryz.func123,Tryz.ntmps123
   go_upto_region 1 with fail
   rw [E1.out]
   clear E1
   go_wp2_with fail
   go_quiet (fail)
   go_wp2_with fail
   go_ret2
   exact⟨by simp [*],by first | exact HB1.out | exact Qz HB1.out _⟩
  | false =>
   cases h3:(k == 3) with
   | true =>
    go_enter Tryz.func123,Tryz.ntmps123
    go_upto_region 1 with fail
    rw [E1.out]
    clear E1
    go_wp2_with fail
    go_quiet (fail)
    go_wp2_with fail
    go_ret2
    exact⟨by simp [*],by first | exact HB1.out | exact Qz HB1.out _⟩
   | false =>
    cases h4:(k == 4) with
    | true =>
     go_enter Tryz.func123,Tryz.ntmps123
     go_upto_region 1 with fail
     rw [E1.out]
     clear E1
     go_wp2_with fail
     go_quiet (fail)
     go_wp2_with fail
     go_ret2
     exact⟨by simp [*],by first | exact HB1.out | exact Qz HB1.out _⟩
    | false =>
     cases h5:(k == 5) with
     | true =>
      go_enter Tryz.func123,Tryz.ntmps123
      go_upto_region 1 with fail
      rw [E1.out]
      clear E1
      go_wp2_with fail
      go_quiet (fail)
      go_wp2_with fail
      go_ret2
      exact⟨by simp [*],by first | exact HB1.out | exact Qz HB1.out _⟩
     | false =>
      cases h6:(k == 6) with
      | true =>
       go_enter Tryz.func123,Tryz.ntmps123
       go_upto_region 1 with fail
       rw [E1.out]
       clear E1
       go_wp2_with fail
       go_ret2
       exact⟨by simp [*],by first | exact HB1.out | exact Qz HB1.out _⟩
      | false =>
       go_enter Tryz.func123,Tryz.ntmps123
       go_upto_region 1 with fail
       rw [E1.out]
       clear E1
       go_wp2_with fail
       go_ret2
       exact⟨by simp [*],by first | exact HB1.out | exact Qz HB1.out _⟩
theorem Jh:(Tryz.prog.info? 216).map (·.size)=some 4:=by kernel_rfl
theorem size219':(Tryz.prog.info? 219).map (·.size)=some 8:=by kernel_rfl
theorem all4 (p:P4):p.vals.all (·.oneCell')=true:=by simp [P4.vals,Value.oneCell']
theorem Ko (k o:Int) (w:World):Calls zG 125 #[zU k,zU o] w fun e w'=>e=.returned (.agg (Qn k o).vals)∧Below w§ w w':=by
 have hb1:=Bn w (.cells zA5 216)
 have hn1:=Hn w (.cells zA5 216)
 obtain⟨W1,e1⟩:∃ W,w.alloc (.cells zA5 216)=W:=⟨_,rfl⟩
 have E1:=zH e1
 rw [e1] at hb1 hn1
 have HB1:=zH hb1
 have HN1:=zH hn1
 clear hb1 e1 hn1
 unfold Qn
 cases h1:(k == 1) with
 | true =>
  have HS:Hid ((W1.setRow w§ (P4.vals ⟨true,true,o != 2,false⟩)).heap[w§]? = some (.cells (P4.vals ⟨true,true,o != 2,false⟩) 216 (0,0))):=setRow_heap _ _ _ _ _ _ HN1.out
  have HBS:Hid (Below w§ w (W1.setRow w§ (P4.vals ⟨true,true,o != 2,false⟩))):=Qc HB1.out (Nat.le_refl _) _
  go_enter Tryz.func125,Tryz.ntmps125
  go_upto_region 1 with fail
  rw [E1.out]
  clear E1
  go_wp2_with (refine wpList_store_row rfl 216 (.tmp 4) (.tmp 10) rfl w§ (P4.vals ⟨true,true,o != 2,false⟩) rfl rfl 216 zA5 HN1.out Jh rfl (all4 _) ?_)
  exact bodyPost_ret (results_cell_row rfl _ _ w§ 216 (P4.vals ⟨true,true,o != 2,false⟩) (0,0) _ rfl HS.out Tryz.underlying216 rfl Jh) rfl ⟨by simp [*],HBS.out⟩
 | false =>
  cases h2:(k == 2) with
  | true =>
   have HS:Hid ((W1.setRow w§ (P4.vals ⟨false,true,true,false⟩)).heap[w§]? = some (.cells (P4.vals ⟨false,true,true,false⟩) 216 (0,0))):=setRow_heap _ _ _ _ _ _ HN1.out
   have HBS:Hid (Below w§ w (W1.setRow w§ (P4.vals ⟨false,true,true,false⟩))):=Qc HB1.out (Nat.le_refl _) _
   go_enter Tryz.func125,Tryz.ntmps125
   go_upto_region 1 with fail
   rw [E1.out]
   clear E1
   go_wp2_with (refine wpList_store_row rfl 216 (.tmp 4) (.tmp 13) rfl w§ (P4.vals ⟨false,true,true,false⟩) rfl rfl 216 zA5 HN1.out Jh rfl (all4 _) ?_)
   exact bodyPost_ret (results_cell_row rfl _ _ w§ 216 (P4.vals ⟨false,true,true,false⟩) (0,0) _ rfl HS.out Tryz.underlying216 rfl Jh) rfl ⟨by simp [*],HBS.out⟩
  | false =>
   cases h4:(k == 4) with
   | true =>
    have HS:Hid ((W1.setRow w§ (P4.vals ⟨false,false,false,true⟩)).heap[w§]? = some (.cells (P4.vals ⟨false,false,false,true⟩) 216 (0,0))):=setRow_heap _ _ _ _ _ _ HN1.out
    have HBS:Hid (Below w§ w (W1.setRow w§ (P4.vals ⟨false,false,false,true⟩))):=Qc HB1.out (Nat.le_refl _) _
    go_enter Tryz.func125,Tryz.ntmps125
    go_upto_region 1 with fail
    rw [E1.out]
    clear E1
    go_wp2_with (refine wpList_store_row rfl 216 (.tmp 4) (.tmp 16) rfl w§ (P4.vals ⟨false,false,false,true⟩) rfl rfl 216 zA5 HN1.out Jh rfl (all4 _) ?_)
    exact bodyPost_ret (results_cell_row rfl _ _ w§ 216 (P4.vals ⟨false,false,false,true⟩) (0,0) _ rfl HS.out Tryz.underlying216 rfl Jh) rfl ⟨by simp [*],HBS.out⟩
   | false =>
    have HS:Hid ((W1.setRow w§ (P4.vals ⟨false,false,false,false⟩)).heap[w§]? = some (.cells (P4.vals ⟨false,false,false,false⟩) 216 (0,0))):=setRow_heap _ _ _ _ _ _ HN1.out
    have HBS:Hid (Below w§ w (W1.setRow w§ (P4.vals ⟨false,false,false,false⟩))):=Qc HB1.out (Nat.le_refl _) _
    go_enter Tryz.func125,Tryz.ntmps125
    go_upto_region 1 with fail
    rw [E1.out]
    clear E1
    go_wp2_with (refine wpList_store_row rfl 216 (.tmp 4) (.tmp 17) rfl w§ (P4.vals ⟨false,false,false,false⟩) rfl rfl 216 zA5 HN1.out Jh rfl (all4 _) ?_)
    exact bodyPost_ret (results_cell_row rfl _ _ w§ 216 (P4.vals ⟨false,false,false,false⟩) (0,0) _ rfl HS.out Tryz.underlying216 rfl Jh) rfl ⟨by simp [*],HBS.out⟩
theorem all8 (r:RowM):(spV r).all (·.oneCell')=true:=by simp [spV,Value.oneCell']
theorem spansOf_any (r:RowM) (w:World):Calls zG 126 #[.agg r.vals] w fun e w'=>e=.returned (.agg (spV r))∧Below w§ w w':=by
 have hb1:=Bn w (.cells r.vals 85)
 have hn1:=Hn w (.cells r.vals 85)
 obtain⟨W1,e1⟩:∃ W,w.alloc (.cells r.vals 85)=W:=⟨_,rfl⟩
 have E1:=zH e1
 rw [e1] at hb1 hn1
 have HB1:=zH hb1
 have c3:W1.cell? ⟨w§,3,none⟩=some (zI r.sd.f):=Co hn1 3
 have c4:W1.cell? ⟨w§,4,none⟩=some (zI r.sd.t):=Co hn1 4
 have c5:W1.cell? ⟨w§,5,none⟩=some (zI r.qt.f):=Co hn1 5
 have c6:W1.cell? ⟨w§,6,none⟩=some (zI r.qt.t):=Co hn1 6
 have c7:W1.cell? ⟨w§,7,none⟩=some (zI r.pr.f):=Co hn1 7
 have c8:W1.cell? ⟨w§,8,none⟩=some (zI r.pr.t):=Co hn1 8
 have c9:W1.cell? ⟨w§,9,none⟩=some (zI r.vl.f):=Co hn1 9
 have c10:W1.cell? ⟨w§,10,none⟩=some (zI r.vl.t):=Co hn1 10
 have hsz:W1§=w§+1:=by rw [← e1]; exact Sa _ _
 have hb2:=Bn W1 (.cells zA2 219)
 have hn2:=Hn W1 (.cells zA2 219)
 have hk:(W1.alloc (.cells zA2 219)).heap[w§]? = W1.heap[w§]?:=hb2.block _ (by omega)
 obtain⟨W2,e2⟩:∃ W,W1.alloc (.cells zA2 219)=W:=⟨_,rfl⟩
 have E2:=zH e2
 rw [e2] at hb2 hn2 hk
 have d3:=(World.cell?_of_block (a:=⟨w§,3,none⟩) hk).trans c3
 have d4:=(World.cell?_of_block (a:=⟨w§,4,none⟩) hk).trans c4
 have d5:=(World.cell?_of_block (a:=⟨w§,5,none⟩) hk).trans c5
 have d6:=(World.cell?_of_block (a:=⟨w§,6,none⟩) hk).trans c6
 have d7:=(World.cell?_of_block (a:=⟨w§,7,none⟩) hk).trans c7
 have d8:=(World.cell?_of_block (a:=⟨w§,8,none⟩) hk).trans c8
 have d9:=(World.cell?_of_block (a:=⟨w§,9,none⟩) hk).trans c9
 have d10:=(World.cell?_of_block (a:=⟨w§,10,none⟩) hk).trans c10
 obtain⟨G,eG⟩:∃ G,w§+1=G:=⟨_,rfl⟩
 rw [hsz,eG] at hn2
 have HN2:=zH hn2
 have HS:Hid ((W2.setRow G (spV r)).heap[G]? = some (.cells (spV r) 219 (0,0))):=setRow_heap _ _ _ _ _ _ HN2.out
 have HBS:Hid (Below w§ w (W2.setRow G (spV r))):=Qc (Qa HB1.out hb2) (by omega) _
 have HG:Hid (w§+1=G):=eG
 clear hb1 hn1 e1 hb2 hn2 hk e2 hsz c3 c4 c5 c6 c7 c8 c9 c10 eG
 go_enter Tryz.func126,Tryz.ntmps126
 go_upto_region 1 with fail
 rw [E1.out,E2.out,HG.out]
 clear E1 E2 HG
 go_wp2_with (refine wpList_store_row rfl 219 (.tmp 2) (.tmp 11) rfl G (spV r) rfl rfl 219 zA2 HN2.out size219' rfl (all8 _) ?_)
 exact bodyPost_ret (results_cell_row rfl _ _ G 219 (spV r) (0,0) _ rfl HS.out Tryz.underlying219 rfl size219') rfl ⟨rfl,HBS.out⟩
theorem fold_size (n:Nat):∀ (l:List Value) (k:Nat) (a:Array Value),((l.zipIdx k).foldl (fun cs (q:Value × Nat)=>cs.setIfInBounds (0 * n+q.2) q.1) a).size=a.size
 | [],k,a=>rfl
 | c :: l,k,a=>by
  simp only [List.zipIdx_cons,List.foldl_cons]
  rw [fold_size n l (k+1)]
  simp
theorem fold_get (n:Nat):∀ (l:List Value) (k:Nat) (a:Array Value) (i:Nat),i < a.size→((l.zipIdx k).foldl (fun cs (q:Value × Nat)=>cs.setIfInBounds (0 * n+q.2) q.1) a)[i]? = if k≤i∧i < k+l.length then l[i - k]? else a[i]?
 | [],k,a,i,hi=>by
  rw [if_neg (by simp)]
  rfl
 | c :: l,k,a,i,hi=>by
  simp only [List.zipIdx_cons,List.foldl_cons]
  rw [fold_get n l (k+1) _ i (by simpa using hi)]
  simp only [List.length_cons,Nat.zero_mul,Nat.zero_add]
  by_cases h1:k+1≤i∧i < k+1+l.length
  ·rw [if_pos h1,if_pos (by omega),show i - k=(i - (k+1))+1 by omega]
   rfl
  ·rw [if_neg h1,Array.getElem?_setIfInBounds]
   by_cases h2:k=i
   ·subst h2
    rw [if_pos rfl,if_pos hi,if_pos (by omega),Nat.sub_self]
    rfl
   ·rw [if_neg h2,if_neg (by omega)]
theorem fold_all (n:Nat) (cs a:Array Value) (h:a.size=cs.size):cs.zipIdx.foldl (fun (x:Array Value) (q:Value × Nat)=>x.setIfInBounds (0 * n+q.2) q.1) a=cs:=by
 obtain⟨l⟩:=cs
 simp only [List.size_toArray] at h
 have e:(Array.mk l).zipIdx.foldl (fun (x:Array Value) (q:Value × Nat)=>x.setIfInBounds (0 * n+q.2) q.1) a=(l.zipIdx 0).foldl (fun (x:Array Value) (q:Value × Nat)=>x.setIfInBounds (0 * n+q.2) q.1) a:=by
  rw [← Array.foldl_toList]
  simp
 rw [e]
 apply Array.ext_getElem?
 intro i
 by_cases hi:i < a.size
 ·rw [fold_get n l 0 a i hi,if_pos (by omega)]
  simp
 ·rw [Array.getElem?_eq_none (by rw [fold_size]; omega),Array.getElem?_eq_none (by simp; omega)]
theorem QO {w:World}{ops:Array Oper}{rest:List Oper}{o:Oper}{a:Act}{Q:Exit→Act→World→Prop}(hgd:o.guard=none) (t e:TypeId) (x:Operand) (ho:o.op=.buildSlice t 1 #[(0,x)])
  (cs:Array Value) (hx:a.eval x=.agg cs) (n:Nat) (z:Value) (ht:Tryz.prog.underlying t=some (.slice e)) (by_:Nat) (hi:(Tryz.prog.info? e).map (fun i=>(i.zero,i.size,i.bytes))=some (some z,n,by_)) (hz:z.cells.size=n) (hn:cs.size=n) (h0:0 < n) (h1:n≤1000)
  (h:wpList Tryz.prog ops Q rest (a.put o.dst (.slice (some ⟨w§,0,none⟩) 1 1)) (w.alloc (.cells cs e))):wpList Tryz.prog ops Q (o :: rest) a w:=by
 refine wpList_plain hgd fun Kk hK=>?_
 obtain⟨i0,hi0,hz0,hz1,hz2⟩:=info_parts hi
 have hu:=run_underlying ht w
 have hf:Instr.fill (fun i=>some (i * n,n)) ((Array.range (1 * n)).map (z.cells[· % z.cells.size]!)) [(0,.agg cs)]=some cs:=by
  obtain⟨A,hA⟩:∃ A,(Array.range (1 * n)).map (z.cells[· % z.cells.size]!)=A:=⟨_,rfl⟩
  have hAs:A.size=n:=by rw [← hA]; simp
  rw [hA]
  have e3:Instr.fill (fun i=>some (i * n,n)) A [(0,.agg cs)]=if (decide (cs.size≠n) || decide (0 * n+cs.size > A.size))=true then none else some (cs.zipIdx.foldl (fun (x:Array Value) (q:Value × Nat)=>x.setIfInBounds (0 * n+q.2) q.1) A):=rfl
  rw [e3,if_neg (by simp; omega)]
  exact congrArg some (fold_all n cs _ (by omega))
 have hr:(Instr.buildSlice t 1 #[(0,.agg cs)]).run Tryz.prog w=.ok (.slice (some ⟨w§,0,none⟩) 1 1) (w.alloc (.cells cs e)):=by
  have e1:¬ n > 16777216:=by omega
  have e2:¬ n=0:=by omega
  rw [show (1 * n)=n from Nat.one_mul n] at hf
  simp [Instr.buildSlice,Sem.run_bind,hu,sizeOf,zeroValue,typeInfo,hi0,hz0,hz1,e1,e2,hf,newRow,newObj]
  rfl
 unfold Oper.wp execOp
 simp only [ho,List.map_toArray,List.map_cons,List.map_nil,hx,Sem.run_bind,hr,Result.andThen_ok]
 exact hK _ _ h
theorem owns_blk' {V V':World}{B:Nat}{e sz:Nat}{v:Value}{n:Nat}{xs:List Value}(h:V.ownsRow B e sz v n xs) (k:∀ g,v.ownBlock=some g→V'.heap[g]? = V.heap[g]?):V'.ownsRow B e sz v n xs:=by
 obtain⟨h1,h2⟩:=h
 refine⟨h1,?_⟩
 rcases h2 with h2 | ⟨g,cap,cur,hv,q1,q2,q3⟩
 ·exact .inl h2
 ·exact .inr ⟨g,cap,cur,hv,q1,(k g (by rw [hv]; rfl)).trans q2,q3⟩
theorem Qu {w:World}{ops:Array Oper}{rest:List Oper}{o:Oper}{a:Act}{Q:Exit→Act→World→Prop}(hgd:o.guard=none) (t:TypeId) (x y:Operand) (ho:o.op=.index t x y) (v u r:Value) (hx:a.eval x=v) (hy:a.eval y=u) (hr:∀ w,Sem.run Tryz.prog (Instr.index t v u) w=.ok r w)
  (h:wpList Tryz.prog ops Q rest (a.put o.dst r) w):wpList Tryz.prog ops Q (o :: rest) a w:=by
 refine wpList_plain hgd fun Kk hK=>?_
 unfold Oper.wp execOp
 simp only [ho,hx,hy,Sem.run_bind,hr,Result.andThen_ok]
 exact hK _ _ h
structure OwnK (w V:World) (bs:List (Nat × Nat × Array Value)) (e sz:Nat) (v:Value) (vs:List (Array Value)):Prop where
 R:V.ownsRow w§ e sz v vs.length (vs.map Array.toList).flatten
 Z:∀ x ∈ vs,x.size=sz
 B:Below w§ w V
 K:∀ p ∈ bs,V.heap[p.1]? = some (.cells p.2.2 p.2.1 (0,0))∧w§≤p.1∧v.ownBlock≠some p.1
theorem OwnK.lt {w V:World}{bs:List (Nat × Nat × Array Value)}{e sz:Nat}{v:Value}{vs:List (Array Value)}(h:OwnK w V bs e sz v vs):∀ g,v.ownBlock=some g→w§≤g∧g < V§:=fun g hg=>World.ownsRow.lt h.R g hg
theorem OwnK.on {w V V':World}{bs:List (Nat × Nat × Array Value)}{e sz:Nat}{v:Value}{vs:List (Array Value)}(h:OwnK w V bs e sz v vs) (k:Below V§ V V'):OwnK w V' bs e sz v vs :=
 ⟨owns_blk' h.R fun g hg=>k.block g (h.lt g hg).2,h.Z,Qa h.B k,fun p hp=>by
  obtain⟨h1,h2,h3⟩:=h.K p hp
  exact⟨(k.block _ (Array.getElem?_eq_some_iff.1 h1).1).trans h1,h2,h3⟩⟩
theorem OwnK.drew {w V:World}{bs:List (Nat × Nat × Array Value)}{e sz:Nat}{v:Value}{vs:List (Array Value)}(h:OwnK w V bs e sz v vs) (n:Nat):OwnK w (V.drewN n) bs e sz v vs:=h.on ⟨rfl,rfl,rfl,Nat.le_refl _,fun _ _=>rfl⟩
theorem OwnK.nil {w V:World}(h:Below w§ w V) (e sz:Nat):OwnK w V [] e sz (.slice none 0 0) []:=⟨⟨by simp,.inl ⟨rfl,rfl⟩⟩,by simp,h,by simp⟩
theorem OwnK.add {w V:World}{bs:List (Nat × Nat × Array Value)}{e sz:Nat}{v:Value}{vs:List (Array Value)}(h:OwnK w V bs e sz v vs) (b t:Nat) (cs:Array Value) (h1:V.heap[b]? = some (.cells cs t (0,0))) (h2:w§≤b) (h3:v.ownBlock≠some b):OwnK w V ((b,t,cs) :: bs) e sz v vs :=
 ⟨h.R,h.Z,h.B,fun p hp=>by
  rcases List.mem_cons.1 hp with rfl | hp
  ·exact⟨h1,h2,h3⟩
  ·exact h.K p hp⟩
theorem OwnK.less {w V:World}{bs:List (Nat × Nat × Array Value)}{q:Nat × Nat × Array Value}{e sz:Nat}{v:Value}{vs:List (Array Value)}(h:OwnK w V (q :: bs) e sz v vs):OwnK w V bs e sz v vs:=⟨h.R,h.Z,h.B,fun p hp=>h.K p (List.mem_cons_of_mem _ hp)⟩
theorem OwnK.box {w V:World}{bs:List (Nat × Nat × Array Value)}{q:Nat × Nat × Array Value}{e sz:Nat}{v:Value}{vs:List (Array Value)}(h:OwnK w V (q :: bs) e sz v vs):V.heap[q.1]? = some (.cells q.2.2 q.2.1 (0,0)):=(h.K q (List.mem_cons_self ..)).1
theorem QR {sz:Nat}:∀ (vs:List (Array Value)),(∀ x ∈ vs,x.size=sz)→∀ i (hi:i < vs.length) j,j < sz→(vs.map Array.toList).flatten[i * sz+j]? = vs[i][j]?
 | [],_,i,hi,_,_=>by simp at hi
 | x :: vs,hz,i,hi,j,hj=>by
  have hx:=hz x (List.mem_cons_self ..)
  simp only [List.map_cons,List.flatten_cons]
  cases i with
  | zero=>rw [List.getElem?_append_left (by simp; omega)]; simp
  | succ i =>
   rw [List.getElem?_append_right (by simp [hx]; rw [Nat.add_mul]; omega)]
   have:=QR vs (fun y hy=>hz y (List.mem_cons_of_mem _ hy)) i (by simpa using hi) j hj
   have e:(i+1) * sz+j - x.toList.length=i * sz+j:=by simp [hx]; rw [Nat.add_mul]; omega
   rw [e,this]
   simp
theorem flat_len {sz:Nat}:∀ (us:List (Array Value)),(∀ x ∈ us,x.size=sz)→(us.map Array.toList).flatten.length=us.length * sz
 | [],_=>by simp
 | y :: us,h=>by
  simp only [List.map_cons,List.flatten_cons,List.length_append,List.length_cons]
  rw [flat_len us (fun x hx=>h x (List.mem_cons_of_mem _ hx))]
  have:=h y (List.mem_cons_self ..)
  simp [this,Nat.add_mul]; omega
theorem OwnK.sl {w V:World}{bs:List (Nat × Nat × Array Value)}{e sz:Nat}{v:Value}{vs:List (Array Value)}(h:OwnK w V bs e sz v vs):∃ a c,v=.slice a vs.length c∧SlAt V sz a c vs:=by
 rcases h.R.2 with ⟨h1,h2⟩ | ⟨g,cap,cur,h1,h2,h3,h4,h5,h6,h7⟩
 ·refine⟨none,0,by rw [h1,h2],by omega,by omega,fun i hi=>by omega⟩
 ·refine⟨_,cap,h1,h4,by unfold maxLen at h5; omega,fun i hi=>⟨g,0,rfl,fun j hj=>?_⟩⟩
  rw [Co h3,Nat.zero_add]
  have hlt:i * sz+j < vs.length * sz:=by
   have:=Nat.mul_le_mul_right sz hi
   rw [Nat.succ_mul] at this
   omega
  have h8:(cur.toList.take (vs.length * sz))[i * sz+j]? = cur[i * sz+j]?:=by rw [List.getElem?_take_of_lt hlt]; simp
  rw [← h8,h7,QR vs h.Z i hi j hj]
theorem Je {w V:World}{bs:List (Nat × Nat × Array Value)}{e sz:Nat}{v:Value}{vs:List (Array Value)}(hL:OwnK w V bs e sz v vs) (t:TypeId) (cs:Array Value) (hcs:cs.size=sz) (h1:cs.all (·.oneCell')=true)
  (z:Value) (by_:Nat) (ht:Tryz.prog.underlying t=some (.slice e)) (hi:(Tryz.prog.info? e).map (fun i=>(i.zero,i.size,i.bytes))=some (some z,sz,by_)) (hz:z.cells.size=sz) (h0:0 < sz) (hn:vs.length≤1000000) (hby:by_≤1000)
  {ops:Array Oper}{rest:List Oper}{o:Oper}{a:Act}{Q:Exit→Act→World→Prop}(hgd:o.guard=none) (d x:Operand)
  (ho:o.op=.call { callee:=.builtin .append,args:=#[d,x],argTypes:=#[t,t] }) (hs:a.eval d=v) (hx:a.eval x=.slice (some ⟨V§,0,none⟩) 1 1)
  (h:∀ g cap w',OwnK w w' bs e sz (.slice (some ⟨g,0,none⟩) (vs.length+1) cap) (vs ++ [cs])→wpList Tryz.prog ops Q rest (a.put o.dst (.slice (some ⟨g,0,none⟩) (vs.length+1) cap)) w') :
  wpList Tryz.prog ops Q (o :: rest) a (V.alloc (.cells cs e)):=by
 obtain⟨i0,hi0,hz0,hz1,hz2⟩:=info_parts hi
 have hsz:=Sa V (.cells cs e)
 have hA:OwnK w (V.alloc (.cells cs e)) bs e sz v vs:=hL.on (Bn _ _)
 have hwV:=hL.B.size
 have hby2:(vs.length+1) * by_≤140737488355328:=by
  have:(vs.length+1) * by_≤1000001 * 1000:=Nat.mul_le_mul (by omega) hby
  omega
 refine wpList_append_lies _ hgd d x t ho w§ e i0 z sz by_ ht hi0 hz0 hz1 hz2 hz h0 v vs.length _ hs hA.R ⟨V§,0,none⟩ 1 1 cs.toList hx (by simp; exact hcs) (World.news_of_block (Hn V _)) (fun u hu=>(Array.all_eq_true_iff_forall_mem.1 h1) u (by simpa using hu)) (by decide) (by unfold maxLen; omega) hby2 (by omega) _ rfl ?_
 intro g cap w' h2 h3 h4 h5
 refine h g cap w' ⟨?_,?_,?_,?_⟩
 ·rw [List.length_append,List.length_singleton,List.map_append,List.flatten_append]
  simpa using h2
 ·intro y hy
  rcases List.mem_append.1 hy with hy | hy
  ·exact hL.Z y hy
  ·rw [List.mem_singleton.1 hy]; exact hcs
 ·exact hA.B.grown h3 (by omega) fun k hk=>(hA.lt k hk).1
 ·intro p hp
  obtain⟨q1,q2,q3⟩:=hA.K p hp
  have hl:=(Array.getElem?_eq_some_iff.1 q1).1
  refine⟨(h3.block _ hl (fun e=>q3 e.symm)).trans q1,q2,fun e=>?_⟩
  have hg:g=p.1:=by simpa [Value.ownBlock] using e
  rcases h4 with h4 | h4
  ·exact q3 (by rw [h4,hg])
  ·omega
theorem app_many {w V:World}{bs:List (Nat × Nat × Array Value)}{e sz:Nat}{v:Value}{vs:List (Array Value)}(hL:OwnK w V bs e sz v vs) (t:TypeId) (us:List (Array Value)) (hus:∀ x ∈ us,x.size=sz∧x.all (·.oneCell')=true) (ua:Option Addr) (uc:Nat) (hU:SlAt V sz ua uc us) (hnil:us = []→ua=none∧uc=0)
  (z:Value) (by_:Nat) (ht:Tryz.prog.underlying t=some (.slice e)) (hi:(Tryz.prog.info? e).map (fun i=>(i.zero,i.size,i.bytes))=some (some z,sz,by_)) (hz:z.cells.size=sz) (h0:0 < sz) (hn:vs.length+us.length≤1000000) (hby:by_≤1000)
  {ops:Array Oper}{rest:List Oper}{o:Oper}{a:Act}{Q:Exit→Act→World→Prop}(hgd:o.guard=none) (d x:Operand)
  (ho:o.op=.call { callee:=.builtin .append,args:=#[d,x],argTypes:=#[t,t] }) (hs:a.eval d=v) (hx:a.eval x=.slice ua us.length uc)
  (h:∀ v' w',OwnK w w' bs e sz v' (vs ++ us)→wpList Tryz.prog ops Q rest (a.put o.dst v') w') :
  wpList Tryz.prog ops Q (o :: rest) a V:=by
 obtain⟨i0,hi0,hz0,hz1,hz2⟩:=info_parts hi
 have hwV:=hL.B.size
 by_cases he:us = []
 ·obtain⟨rfl,rfl⟩:=hnil he
  subst he
  refine wpList_append_own_none hgd d x t ho w§ e i0 sz ht hi0 v vs.length _ hs hL.R (by simpa using hx) (h v V (by rw [List.append_nil]; exact hL))
 ·have hpos:0 < us.length:=List.length_pos_iff.2 he
  obtain⟨ub,uo,rfl,_⟩:=hU.2.2 0 hpos
  have hby2:(vs.length+us.length) * by_≤140737488355328:=by
   have:(vs.length+us.length) * by_≤1000000 * 1000:=Nat.mul_le_mul hn hby
   omega
  have hlen:=flat_len us fun x hx=>(hus x hx).1
  refine wpList_append_lies _ hgd d x t ho w§ e i0 z sz by_ ht hi0 hz0 hz1 hz2 hz h0 v vs.length _ hs hL.R ⟨ub,uo,none⟩ us.length uc (us.map Array.toList).flatten hx hlen ?_ ?_ hpos (by unfold maxLen; omega) hby2 (by omega) _ rfl ?_
  ·intro j u hu
   have hj:j < us.length * sz:=by rw [← hlen]; exact (List.getElem?_eq_some_iff.1 hu).1
   have hd:j / sz < us.length:=Nat.div_lt_of_lt_mul (by rw [Nat.mul_comm]; exact hj)
   obtain⟨b',o',e',hc⟩:=hU.2.2 (j / sz) hd
   obtain⟨rfl,rfl⟩:ub=b'∧uo=o':=by simpa using e'
   have hm:=Nat.mod_lt j h0
   have hc':=hc (j % sz) hm
   have hjj:j / sz * sz+j % sz=j:=by rw [Nat.mul_comm]; exact Nat.div_add_mod j sz
   rw [Addr.add_mid]
   rw [Nat.add_assoc,hjj] at hc'
   rw [hc',← QR us (fun x hx=>(hus x hx).1) (j / sz) hd (j % sz) hm,hjj]
   exact hu
  ·intro u hu
   obtain⟨l,hl,hul⟩:=List.mem_flatten.1 hu
   obtain⟨y,hy,rfl⟩:=List.mem_map.1 hl
   exact (Array.all_eq_true_iff_forall_mem.1 (hus y hy).2) u (by simpa using hul)
  ·intro g cap w' h2 h3 h4 h5
   refine h _ w' ⟨?_,?_,?_,?_⟩
   ·rw [List.length_append,List.map_append,List.flatten_append]
    exact h2
   ·intro y hy
    rcases List.mem_append.1 hy with hy | hy
    ·exact hL.Z y hy
    ·exact (hus y hy).1
   ·exact hL.B.grown h3 (by omega) fun k hk=>(hL.lt k hk).1
   ·intro p hp
    obtain⟨q1,q2,q3⟩:=hL.K p hp
    have hl:=(Array.getElem?_eq_some_iff.1 q1).1
    refine⟨(h3.block _ hl (fun e=>q3 e.symm)).trans q1,q2,fun e=>?_⟩
    have hg:g=p.1:=by simpa [Value.ownBlock] using e
    rcases h4 with h4 | h4
    ·exact q3 (by rw [h4,hg])
    ·omega
theorem inf65:(Tryz.prog.info? 65).map (fun i=>(i.zero,i.size,i.bytes))=some (some (.agg #[zI 0,zI 0]),2,16):=by kernel_rfl
theorem OwnK.sl2 {w V:World}{bs:List (Nat × Nat × Array Value)}{e sz:Nat}{v:Value}{vs:List (Array Value)}(h:OwnK w V bs e sz v vs):∃ a c,v=.slice a vs.length c∧SlAt V sz a c vs∧∀ b o,a=some ⟨b,o,none⟩→w§≤b∧b < V§:=by
 obtain⟨a,c,h1,h2⟩:=h.sl
 refine⟨a,c,h1,h2,fun b o e=>h.lt b ?_⟩
 rw [h1,e]; rfl
theorem OwnK.blk' {w V:World}{bs:List (Nat × Nat × Array Value)}{e sz:Nat}{v:Value}{vs:List (Array Value)}(h:OwnK w V bs e sz v vs) {g:Nat}(hg:v.ownBlock=some g):∃ cur,V.heap[g]? = some (.cells cur e (0,0)):=by
 rcases h.R.2 with ⟨h1,h2⟩ | ⟨g',cap,cur,h1,h2,h3,h4⟩
 ·rw [h1] at hg; cases hg
 ·rw [h1] at hg
  have:g'=g:=by simpa [Value.ownBlock] using hg
  subst this
  exact⟨cur,h3⟩
def prts (p:P4):List Bool:=[p.a,p.b,p.c,p.d]
def spL (r:RowM):List Sp:=[r.sd,r.qt,r.pr,r.vl]
def hasI (r:RowM) (i:Nat):List Sp:=(((prts (Qn r.k r.o)).zip (spL r)).take i).filterMap (fun q=>if q.1 then some q.2 else none)
def hasL (r:RowM):List Sp:=hasI r 4
def Z2:Array Value:=#[zI 0,zI 0]
theorem spV_ix (r:RowM) (i:Nat) (hi:i < 4) (w:World):Sem.run Tryz.prog (Instr.index 219 (.agg (spV r)) (zI i)) w=.ok (.agg (((spL r).getD i ⟨0,0⟩).vals)) w:=by
 obtain rfl | rfl | rfl | rfl:i=0∨i=1∨i=2∨i=3:=by omega
 ·kernel_rfl
 ·kernel_rfl
 ·kernel_rfl
 ·kernel_rfl
theorem p4_cell {w:World}{b:Nat}{p:P4}(h:w.heap[b]? = some (.cells p.vals 216 (0,0))) (i:Nat) (hi:i < 4):w.cell? ⟨b,i,none⟩=some (.bool ((prts p).getD i false)):=by
 match i,hi with
 | 0,_=>exact Co h 0
 | 1,_=>exact Co h 1
 | 2,_=>exact Co h 2
 | 3,_=>exact Co h 3
theorem hasI_s (r:RowM) (i:Nat) (hi:i < 4):hasI r (i+1)=hasI r i ++ (if (prts (Qn r.k r.o)).getD i false then [(spL r).getD i ⟨0,0⟩] else []):=by
 obtain⟨p,ep⟩:∃ p,Qn r.k r.o=p:=⟨_,rfl⟩
 unfold hasI
 rw [ep]
 match i,hi with
 | 0,_=>cases h:p.a <;> simp [prts,spL,h]
 | 1,_=>cases h:p.a <;> cases h2:p.b <;> simp [prts,spL,h,h2]
 | 2,_=>cases h:p.a <;> cases h2:p.b <;> cases h3:p.c <;> simp [prts,spL,h,h2,h3]
 | 3,_=>cases h:p.a <;> cases h2:p.b <;> cases h3:p.c <;> cases h4:p.d <;> simp [prts,spL,h,h2,h3,h4]
theorem Kg (r:RowM):∀ i,i≤4→(hasI r i).length≤i:=by
 intro i hi
 unfold hasI
 refine Nat.le_trans (List.length_filterMap_le _ _) ?_
 rw [List.length_take]; omega
theorem has_any (r:RowM) (w:World):Calls zG 97 #[.agg r.vals] w fun e w'=>∃ a c,e=.returned (.slice a (hasL r).length c)∧SlAt w' 2 a c ((hasL r).map Sp.vals)∧(hasL r = []→a=none∧c=0)∧(∀ b o,a=some ⟨b,o,none⟩→w§≤b∧∃ cur,w'.heap[b]? = some (.cells cur 65 (0,0)))∧Below w§ w w':=by
 have hb1:=Bn w (.cells r.vals 85)
 have hn1:=Hn w (.cells r.vals 85)
 obtain⟨W1,e1⟩:∃ W,w.alloc (.cells r.vals 85)=W:=⟨_,rfl⟩
 have E1:=zH e1
 rw [e1] at hb1 hn1
 have HB1:=zH hb1
 have c0:W1.cell? ⟨w§,0,none⟩=some (zU r.k):=Co hn1 0
 have c1:W1.cell? ⟨w§,1,none⟩=some (zU r.o):=Co hn1 1
 have HN1:=zH hn1
 have HS1:Hid (W1§=w§+1):=by show _=_; rw [← e1]; exact Sa _ _
 have cP:=Ko r.k r.o W1
 have hI:=hasI_s r
 clear hb1 e1 hn1
 obtain⟨p,ep⟩:∃ p,Qn r.k r.o=p:=⟨_,rfl⟩
 rw [ep] at cP hI
 have HI:=zH hI
 clear hI ep
 go_enter Tryz.func97,Tryz.ntmps97
 go_upto_region 1 with fail
 rw [E1.out]
 clear E1
 go_wp2_with fail
 refine cP.mono ?_
 rintro e w2 ⟨rfl,hb2⟩
 have HZ:Hid ((w2.alloc (.cells zA5 216)).heap[w2§]? = some (.cells zA5 216 (0,0))):=Hn _ _
 have hbx:Below w2§ w2 ((w2.alloc (.cells zA5 216)).setRow w2§ p.vals):=Qc (Bn _ _) (Nat.le_refl _) _
 have hnx:((w2.alloc (.cells zA5 216)).setRow w2§ p.vals).heap[w2§]? = some (.cells p.vals 216 (0,0)):=setRow_heap _ _ _ _ _ _ HZ.out
 have hsz:w§≤w2§:=by have:=hb2.size; rw [HS1.out] at this; omega
 have hlt:w§ < w2§:=by have:=hb2.size; rw [HS1.out] at this; omega
 have HN2:Hid (((w2.alloc (.cells zA5 216)).setRow w2§ p.vals).heap[w§]? = some (.cells r.vals 85 (0,0))):=(hbx.block _ hlt).trans ((hb2.block _ (by rw [HS1.out]; omega)).trans HN1.out)
 have hO:=((OwnK.nil (Qa (Qa HB1.out hb2) hbx) 65 2).add _ _ _ hnx hsz (by simp [Value.ownBlock]))
 obtain⟨b4,e4⟩:∃ b,w2§=b:=⟨_,rfl⟩
 have HO:Hid (OwnK w ((w2.alloc (.cells zA5 216)).setRow w2§ p.vals) [(b4,216,p.vals)] 65 2 (.slice none 0 0) []):=by rw [← e4]; exact hO
 have H4:Hid (w2§=b4):=e4
 clear hbx hnx hsz hlt hO hb2 cP c0 c1 HN1 HS1 HB1 e4
 go_upto_region 3 with (refine wpList_store_row rfl 216 (.tmp 4) (.tmp 11) rfl w2§ p.vals rfl rfl 216 zA5 HZ.out Jh rfl (all4 _) ?_)
 rw [H4.out] at HO HN2 ⊢
 generalize World.setRow _ _ _=W3 at HO HN2 ⊢
 clear HZ H4
 have cS:=spansOf_any r W3
 go_wp2_with (refine wpList_load_row rfl 85 (.tmp 1) rfl w§ rfl 85 r.vals (0,0) _ HN2.out Tryz.underlying85 rfl Qi ?_)
 refine cS.mono ?_
 rintro e w5 ⟨rfl,hb5⟩
 have HO5:=zH (HO.out.on hb5)
 clear cS hb5 HO HN2
 go_wp2_with fail
 go_loopw [3,14] (fun fv t wr=>∃ (v:Value) (i:Nat),i≤4∧fv=v∧t=zI i∧Hid (OwnK w wr [(b4,216,p.vals)] 65 2 v ((hasI r i).map Sp.vals))∧Hid (hasI r i = []→v=.slice none 0 0)) (fun _ t _=>4 - (intOf t).toNat)
 case atStart=>exact⟨_,0,by omega,rfl,rfl,HO5,fun _=>rfl⟩
 case round =>
  obtain⟨v,i,hi,rfl,rfl,HOR,HNR⟩:=hrel
  by_cases hlt:i < 4
  ·have hlt':(i:Int) < 4:=by omega
   have hmx:(i:Int)+1≤9223372036854775807:=by omega
   have HIX:=zH (spV_ix r i hlt)
   have HII:=zH (HI.out i hlt)
   have HLE:=zH (Kg r i hi)
   obtain⟨d,ed⟩:∃ d,(spL r).getD i ⟨0,0⟩=d:=⟨_,rfl⟩
   rw [ed] at HIX HII
   have HZ:Hid ((wr.alloc (.cells #[zI 0,zI 0] 65)).heap[wr§]? = some (.cells #[zI 0,zI 0] 65 (0,0))):=Hn _ _
   have HWX:Hid (Below wr§ wr ((wr.alloc (.cells #[zI 0,zI 0] 65)).setRow wr§ d.vals)):=Qc (Bn _ _) (Nat.le_refl _) _
   have HNX:Hid (((wr.alloc (.cells #[zI 0,zI 0] 65)).setRow wr§ d.vals).heap[wr§]? = some (.cells d.vals 65 (0,0))):=setRow_heap _ _ _ _ _ _ HZ.out
   clear ed
   go_upto_region 6 with (first | (refine Qu rfl 219 (.tmp 13) (.tmp 14) rfl _ (zI i) _ rfl rfl HIX.out ?_) | (refine wpList_store_row rfl 65 (.tmp 6) (.tmp 17) rfl wr§ d.vals rfl rfl 65 #[zI 0,zI 0] HZ.out Qt rfl (JF d) ?_))
   have HOX:=zH (HOR.out.on HWX.out)
   generalize World.setRow _ _ _=WX at HOX HNX HWX ⊢
   clear HZ HOR HWX HIX
   have cb:=p4_cell HOX.out.box i hlt
   cases hp:(prts p).getD i false with
   | true =>
    rw [hp] at cb HII
    have HIJ:Hid (hasI r (i+1)=hasI r i ++ [d]):=by rw [HII.out]; rfl
    clear HII
    go_wp2_with (first | (refine wpList_load_row rfl 65 (.tmp 6) rfl wr§ rfl 65 d.vals (0,0) _ HNX.out Tryz.underlying65 rfl Qt ?_) | (refine QO rfl 130 65 (.tmp 22) rfl d.vals rfl 2 _ Tryz.underlying130 16 inf65 rfl rfl (by decide) (by decide) ?_) | (refine Je HOX.out 130 d.vals rfl (JF d) _ 16 Tryz.underlying130 inf65 rfl (by decide) (by rw [List.length_map]; have:=HLE.out; omega) (by decide) rfl (.tmp 21) (.tmp 23) rfl rfl rfl ?_; intro g cap w8 HO8))
    exact⟨⟨_,i+1,hlt,rfl,rfl,by show OwnK _ _ _ _ _ _ _; rw [HIJ.out,List.map_append]; simpa using HO8,fun e=>by rw [HIJ.out] at e; simp at e⟩,by simp only [intOf]; omega⟩
   | false =>
    rw [hp] at cb HII
    have HIJ:Hid (hasI r (i+1)=hasI r i):=by show _=_; rw [HII.out]; simp
    clear HII
    go_wp2_with fail
    exact⟨⟨_,i+1,hlt,rfl,rfl,by rw [HIJ.out]; exact HOX,by rw [HIJ.out]; exact HNR⟩,by simp only [intOf]; omega⟩
  ·obtain rfl:i=4:=by omega
   have hnot:¬ ((4:Nat):Int) < 4:=by omega
   go_wp2_with fail
   go_ret
   obtain⟨a,c,h1,h2,h3⟩:=HOR.out.sl2
   refine⟨a,c,by rw [h1,List.length_map]; rfl,h2,fun e=>?_,fun b o e=>⟨(h3 b o e).1,(HOR.out.blk' (by rw [h1,e]; rfl))⟩,HOR.out.B⟩
   have:=HNR.out e
   rw [h1] at this
   simp at this
   exact⟨this.1,this.2.2⟩
def JT (x:Sp):Bool:=x.f == 0 && x.t == 0
def J5 (b:Bool) (x:Sp):Bool:=b || JT x
def Q4 (r:RowM) (i:Nat):Bool:=((((prts (Qn r.k r.o)).zip (spL r)).take i)).all (fun q=>J5 q.1 q.2)
def rowB (sl:Int) (nr ns:Nat) (r:RowM):Bool:=Jl r && Qb (idxN sl nr ns r.k).1 r.i (idxN sl nr ns r.k).2 && Q4 r 4
theorem Kb (r:RowM) (i:Nat) (hi:i < 4):Q4 r (i+1)=(Q4 r i && J5 ((prts (Qn r.k r.o)).getD i false) ((spL r).getD i ⟨0,0⟩)):=by
 unfold Q4
 obtain rfl | rfl | rfl | rfl:i=0∨i=1∨i=2∨i=3:=by omega
 ·simp [prts,spL]
 ·simp [prts,spL]
 ·simp [prts,spL,Bool.and_assoc]
 ·simp [prts,spL,Bool.and_assoc]
theorem rowPB_f (r:RowM) (i:Nat) (hi:i < 4) (h:J5 ((prts (Qn r.k r.o)).getD i false) ((spL r).getD i ⟨0,0⟩)=false):Q4 r 4=false:=by
 have h0:=Kb r 0 (by omega)
 have h1:=Kb r 1 (by omega)
 have h2:=Kb r 2 (by omega)
 have h3:=Kb r 3 (by omega)
 obtain rfl | rfl | rfl | rfl:i=0∨i=1∨i=2∨i=3:=by omega
 all_goals simp_all
theorem rowFits_any (t:TbM) (r:RowM) (w:World) (hl:TbL w t):Calls zG 95 #[.agg t.vals,.agg r.vals] w fun e w'=>e=.returned (.bool (rowB t.sl t.rs.length t.ts.length r))∧Below w§ w w':=by
 have hb1:=Bn w (.cells t.vals 26)
 have hn1:=Hn w (.cells t.vals 26)
 have hs1:=Sa w (.cells t.vals 26)
 obtain⟨W1,e1⟩:∃ W,w.alloc (.cells t.vals 26)=W:=⟨_,rfl⟩
 have E1:=zH e1
 rw [e1] at hb1 hn1 hs1
 have hb2:=Bn W1 (.cells r.vals 85)
 have hn2:=Hn W1 (.cells r.vals 85)
 obtain⟨W2,e2⟩:∃ W,W1.alloc (.cells r.vals 85)=W:=⟨_,rfl⟩
 have E2:=zH e2
 rw [e2] at hb2 hn2
 rw [hs1] at hn2
 have hk:W2.heap[w§]? = some (.cells t.vals 26 (0,0)):=(hb2.block _ (by omega)).trans hn1
 have HT2:=zH hk
 have HB2:=zH (Qa hb1 hb2)
 obtain⟨g3,e3⟩:∃ g,w§+1=g:=⟨_,rfl⟩
 rw [e3] at hn2
 have HN2:=zH hn2
 have HG3:Hid (w§+1=g3):=e3
 have c0:W2.cell? ⟨g3,0,none⟩=some (zU r.k):=Co hn2 0
 have cI:=indexes_any t r.k W2 (hl.on HB2.out)
 obtain⟨LO,eLO⟩:∃ q,(idxN t.sl t.rs.length t.ts.length r.k).1=q:=⟨_,rfl⟩
 obtain⟨HI,eHI⟩:∃ q,(idxN t.sl t.rs.length t.ts.length r.k).2=q:=⟨_,rfl⟩
 obtain⟨ANS,eA⟩:∃ q,rowB t.sl t.rs.length t.ts.length r=q:=⟨_,rfl⟩
 have HA:Hid (ANS=(Jl r && Qb LO r.i HI && Q4 r 4)):=by show _=_; rw [← eA,← eLO,← eHI]; rfl
 rw [eLO,eHI] at cI
 rw [eA]
 clear hb1 hn1 hs1 e1 hb2 hn2 e2 hk e3 hl eLO eHI eA
 go_enter Tryz.func95,Tryz.ntmps95
 go_upto_region 1 with fail
 rw [E1.out,E2.out,HG3.out]
 clear E1 E2
 go_wp2_with (refine wpList_load_row rfl 26 (.tmp 2) rfl w§ rfl 26 t.vals (0,0) _ HT2.out Tryz.underlying26 rfl Qe ?_)
 refine cI.mono ?_
 rintro e w3 ⟨rfl,hb3⟩
 have HB3:=zH (Qa HB2.out hb3)
 have HN3:Hid (w3.heap[g3]? = some (.cells r.vals 85 (0,0))):=(hb3.block _ (Array.getElem?_eq_some_iff.1 HN2.out).1).trans HN2.out
 have cO:=orderFits_any r w3
 clear cI hb3 HB2 HN2 HT2 c0
 go_wp2_with (refine wpList_load_row rfl 85 (.tmp 3) rfl g3 rfl 85 r.vals (0,0) _ HN3.out Tryz.underlying85 rfl Qi ?_)
 refine cO.mono ?_
 rintro e w4 ⟨rfl,hb4⟩
 have HB4:=zH (Qa HB3.out hb4)
 have HN4:Hid (w4.heap[g3]? = some (.cells r.vals 85 (0,0))):=(hb4.block _ (Array.getElem?_eq_some_iff.1 HN3.out).1).trans HN3.out
 have d0:w4.cell? ⟨g3,0,none⟩=some (zU r.k):=Co HN4.out 0
 have d1:w4.cell? ⟨g3,1,none⟩=some (zU r.o):=Co HN4.out 1
 have d2:w4.cell? ⟨g3,2,none⟩=some (zI r.i):=Co HN4.out 2
 clear cO hb4 HB3 HN3
 cases ho:Jl r with
 | false =>
  have HF:Hid (ANS=false):=by show _=_; rw [HA.out,ho]; rfl
  go_wp2_with fail
  go_ret
  exact⟨by rw [HF.out]; rfl,HB4.out⟩
 | true =>
  have cW:=QC LO r.i HI w4
  cases hw:Qb LO r.i HI with
  | false =>
   rw [hw] at cW
   have HF:Hid (ANS=false):=by show _=_; rw [HA.out,ho,hw]; rfl
   go_wp2_with fail
   refine cW.mono ?_
   rintro e w5 ⟨rfl,rfl⟩
   go_wp2_with fail
   go_ret
   exact⟨by rw [HF.out]; rfl,HB4.out⟩
  | true =>
   rw [hw] at cW
   have HF:Hid (ANS=Q4 r 4):=by show _=_; rw [HA.out,ho,hw]; rfl
   have cP:=Ko r.k r.o w4
   have hI:=Kb r
   have hf:=rowPB_f r
   obtain⟨p,ep⟩:∃ p,Qn r.k r.o=p:=⟨_,rfl⟩
   rw [ep] at cP hI hf
   have HII:=zH hI
   have HFF:=zH hf
   clear hI hf ep HA ho hw
   go_wp2_with fail
   refine cW.mono ?_
   rintro e w5 ⟨rfl,rfl⟩
   clear cW
   go_wp2_with fail
   refine cP.mono ?_
   rintro e w2 ⟨rfl,hb2⟩
   have HZ:Hid ((w2.alloc (.cells zA5 216)).heap[w2§]? = some (.cells zA5 216 (0,0))):=Hn _ _
   have hbx:Below w2§ w2 ((w2.alloc (.cells zA5 216)).setRow w2§ p.vals):=Qc (Bn _ _) (Nat.le_refl _) _
   have HNX:Hid (((w2.alloc (.cells zA5 216)).setRow w2§ p.vals).heap[w2§]? = some (.cells p.vals 216 (0,0))):=setRow_heap _ _ _ _ _ _ HZ.out
   have HBX:=zH (Qa (Qa HB4.out hb2) hbx)
   have hg4:=(Array.getElem?_eq_some_iff.1 HN4.out).1
   have HRX:Hid (((w2.alloc (.cells zA5 216)).setRow w2§ p.vals).heap[g3]? = some (.cells r.vals 85 (0,0))):=(hbx.block _ (by have:=hb2.size; omega)).trans ((hb2.block _ hg4).trans HN4.out)
   clear hbx hb2 cP d0 d1 d2 HB4 HN4 hg4
   go_upto_region 5 with (refine wpList_store_row rfl 216 (.tmp 7) (.tmp 32) rfl w2§ p.vals rfl rfl 216 zA5 HZ.out Jh rfl (all4 _) ?_)
   obtain⟨b4,e4⟩:∃ b,w2§=b:=⟨_,rfl⟩
   rw [e4] at HNX HBX HRX ⊢
   generalize World.setRow _ _ _=W3 at HNX HBX HRX ⊢
   clear HZ e4
   have cS:=spansOf_any r W3
   go_wp2_with (refine wpList_load_row rfl 85 (.tmp 3) rfl g3 rfl 85 r.vals (0,0) _ HRX.out Tryz.underlying85 rfl Qi ?_)
   refine cS.mono ?_
   rintro e w5 ⟨rfl,hb5⟩
   have HB5:=zH (Qa HBX.out hb5)
   have HP5:Hid (w5.heap[b4]? = some (.cells p.vals 216 (0,0))):=(hb5.block _ (Array.getElem?_eq_some_iff.1 HNX.out).1).trans HNX.out
   clear cS hb5 HBX HNX HRX
   go_wp2_with fail
   go_loopw [35] (fun t wr=>∃ (i:Nat),i≤4∧t=zI i∧Hid (Below w§ w wr)∧Hid (wr.heap[b4]? = some (.cells p.vals 216 (0,0)))∧Hid (Q4 r i=true)) (fun t _=>4 - (intOf t).toNat)
   case atStart=>exact⟨0,by omega,rfl,HB5,HP5,rfl⟩
   case round =>
    obtain⟨i,hi,rfl,HBR,HPR,HTR⟩:=hrel
    by_cases hlt:i < 4
    ·have hlt':(i:Int) < 4:=by omega
     have hmx:(i:Int)+1≤9223372036854775807:=by omega
     have HIX:=zH (spV_ix r i hlt)
     have HI1:=HII.out i hlt
     have HI2:=HFF.out i hlt
     obtain⟨d,ed⟩:∃ d,(spL r).getD i ⟨0,0⟩=d:=⟨_,rfl⟩
     rw [ed] at HIX HI1 HI2
     have HJ1:Hid (Q4 r (i+1)=J5 ((prts p).getD i false) d):=by show _=_; rw [HI1,HTR.out]; rfl
     have HJ2:=zH HI2
     have HZ:Hid ((wr.alloc (.cells #[zI 0,zI 0] 65)).heap[wr§]? = some (.cells #[zI 0,zI 0] 65 (0,0))):=Hn _ _
     have HWX:Hid (Below wr§ wr ((wr.alloc (.cells #[zI 0,zI 0] 65)).setRow wr§ d.vals)):=Qc (Bn _ _) (Nat.le_refl _) _
     have HNX:Hid (((wr.alloc (.cells #[zI 0,zI 0] 65)).setRow wr§ d.vals).heap[wr§]? = some (.cells d.vals 65 (0,0))):=setRow_heap _ _ _ _ _ _ HZ.out
     clear ed HI1 HI2
     go_upto_region 8 with (first | (refine Qu rfl 219 (.tmp 34) (.tmp 35) rfl _ (zI i) _ rfl rfl HIX.out ?_) | (refine wpList_store_row rfl 65 (.tmp 9) (.tmp 38) rfl wr§ d.vals rfl rfl 65 #[zI 0,zI 0] HZ.out Qt rfl (JF d) ?_))
     generalize World.setRow _ _ _=WX at HNX HWX ⊢
     have HBX:=zH (Qa HBR.out HWX.out)
     have HPX:Hid (WX.heap[b4]? = some (.cells p.vals 216 (0,0))):=(HWX.out.block _ (Array.getElem?_eq_some_iff.1 HPR.out).1).trans HPR.out
     have cb:=p4_cell HPX.out i hlt
     obtain⟨x0,x1⟩:=cl2 HNX.out
     clear HZ HIX HBR HPR HNX
     cases hp:(prts p).getD i false with
     | true =>
      rw [hp] at cb HJ1
      have HT:Hid (Q4 r (i+1)=true):=by show _=_; rw [HJ1.out]; rfl
      go_wp2_with fail
      exact⟨⟨i+1,hlt,rfl,HBX,HPX,HT⟩,by simp only [intOf]; omega⟩
     | false =>
      rw [hp] at cb HJ1 HJ2
      cases h0:(d.f == 0) with
      | false =>
       have HF2:Hid (ANS=false):=by show _=_; rw [HF.out]; exact HJ2.out (by simp [J5,JT,h0])
       go_wp2_with fail
       go_ret
       exact⟨by rw [HF2.out]; rfl,HBX.out⟩
      | true =>
       cases h1:(d.t == 0) with
       | false =>
        have HF2:Hid (ANS=false):=by show _=_; rw [HF.out]; exact HJ2.out (by simp [J5,JT,h0,h1])
        go_wp2_with fail
        go_ret
        exact⟨by rw [HF2.out]; rfl,HBX.out⟩
       | true =>
        have HT:Hid (Q4 r (i+1)=true):=by show _=_; rw [HJ1.out]; simp [J5,JT,h0,h1]
        go_wp2_with fail
        exact⟨⟨i+1,hlt,rfl,HBX,HPX,HT⟩,by simp only [intOf]; omega⟩
    ·obtain rfl:i=4:=by omega
     have hnot:¬ ((4:Nat):Int) < 4:=by omega
     have HT:Hid (ANS=true):=by show _=_; rw [HF.out]; exact HTR.out
     go_wp2_with fail
     go_ret
     exact⟨by rw [HT.out]; rfl,HBR.out⟩
def JS (sl:Int) (nr ns:Nat):List RowM→Bool
 | []=>true
 | r :: rs=>rowB sl nr ns r && !(!rs.isEmpty && endsB r.k) && JS sl nr ns rs
def rowsB (sl:Int) (nr ns:Nat) (rs:List RowM):Bool:=Qb 1 rs.length 8 && JS sl nr ns rs
def Qv:Int→List Sp→Option Int
 | a,[]=>some a
 | a,x :: l=>if x.f != a || decide (x.t≤x.f) then none else Qv x.t l
def gSp (g:GdM):List Sp:=g.wh :: (g.rs.map hasL).flatten
theorem SlAt.blk {w w':World}{n:Nat}{a:Option Addr}{c:Nat}{vs:List (Array Value)}(h:SlAt w n a c vs) (k:∀ b o,a=some ⟨b,o,none⟩→w'.heap[b]? = w.heap[b]?):SlAt w' n a c vs:=by
 refine⟨h.1,h.2.1,fun i hi=>?_⟩
 obtain⟨b,o,h1,h2⟩:=h.2.2 i hi
 exact⟨b,o,h1,fun j hj=>by rw [World.cell?_of_block (k b o h1)]; exact h2 j hj⟩
theorem sizesFit_any (t:TbM) (w:World):Calls zG 62 #[.agg t.vals] w fun e w'=>e=.returned (.bool (Q0 t))∧Below w§ w w':=by
 have hb1:=Bn w (.cells t.vals 26)
 have hn1:=Hn w (.cells t.vals 26)
 obtain⟨W1,e1⟩:∃ W,w.alloc (.cells t.vals 26)=W:=⟨_,rfl⟩
 have E1:=zH e1
 rw [e1] at hb1 hn1
 have HB1:=zH hb1
 have c1:W1.cell? ⟨w§,1,none⟩=some (.slice t.ra t.rs.length t.rc):=Co hn1 1
 have c2:W1.cell? ⟨w§,2,none⟩=some (zI t.sl):=Co hn1 2
 have c3:W1.cell? ⟨w§,3,none⟩=some (.slice t.ca t.cs.length t.cc):=Co hn1 3
 have c4:W1.cell? ⟨w§,4,none⟩=some (.slice t.da t.ds.length t.dc):=Co hn1 4
 have c5:W1.cell? ⟨w§,5,none⟩=some (.slice t.ta t.ts.length t.tc):=Co hn1 5
 clear hb1 e1 hn1
 have cW:=QC 0 t.sl 4 W1
 have cV:=QC 1 t.ts.length 12 W1
 unfold Q0
 cases h1:decide ((t.rs.length:Int)≤12) with
 | false =>
  go_enter Tryz.func62,Tryz.ntmps62
  go_upto_region 1 with fail
  rw [E1.out]
  clear E1
  go_wp2_with fail
  go_ret
  exact⟨rfl,HB1.out⟩
 | true =>
  cases h2:Qb 0 t.sl 4 with
  | false =>
   rw [h2] at cW
   go_enter Tryz.func62,Tryz.ntmps62
   go_upto_region 1 with fail
   rw [E1.out]
   clear E1
   go_wp2_with fail
   refine cW.mono ?_
   rintro e w5 ⟨rfl,rfl⟩
   go_wp2_with fail
   go_ret
   exact⟨rfl,HB1.out⟩
  | true =>
   rw [h2] at cW
   cases h3:decide ((t.cs.length:Int)≤1024) with
   | false =>
    go_enter Tryz.func62,Tryz.ntmps62
    go_upto_region 1 with fail
    rw [E1.out]
    clear E1
    go_wp2_with fail
    refine cW.mono ?_
    rintro e w5 ⟨rfl,rfl⟩
    go_wp2_with fail
    go_ret
    exact⟨rfl,HB1.out⟩
   | true =>
    cases h4:decide ((t.ds.length:Int)≤4096) with
    | false =>
     go_enter Tryz.func62,Tryz.ntmps62
     go_upto_region 1 with fail
     rw [E1.out]
     clear E1
     go_wp2_with fail
     refine cW.mono ?_
     rintro e w5 ⟨rfl,rfl⟩
     go_wp2_with fail
     go_ret
     exact⟨rfl,HB1.out⟩
    | true =>
     go_enter Tryz.func62,Tryz.ntmps62
     go_upto_region 1 with fail
     rw [E1.out]
     clear E1
     go_wp2_with fail
     refine cW.mono ?_
     rintro e w5 ⟨rfl,rfl⟩
     go_wp2_with fail
     refine cV.mono ?_
     rintro e w5 ⟨rfl,rfl⟩
     go_wp2_with fail
     go_ret
     exact⟨rfl,HB1.out⟩
theorem rowsFit_any (t:TbM) (rs:List RowM) (a:Option Addr) (c:Nat) (w:World) (hl:TbL w t) (hk:SlAt w 11 a c (rs.map RowM.vals)):Calls zG 63 #[.agg t.vals,.slice a rs.length c] w fun e w'=>e=.returned (.bool (rowsB t.sl t.rs.length t.ts.length rs))∧Below w§ w w':=by
 have hb1:=Bn w (.cells t.vals 26)
 have hn1:=Hn w (.cells t.vals 26)
 obtain⟨W1,e1⟩:∃ W,w.alloc (.cells t.vals 26)=W:=⟨_,rfl⟩
 have E1:=zH e1
 rw [e1] at hb1 hn1
 have HB1:=zH hb1
 have HN1:=zH hn1
 have HS1:Hid (W1§=w§+1):=by show _=_; rw [← e1]; exact Sa _ _
 clear hb1 e1 hn1
 have HSL:=zH hk
 have HTL:Hid (TbL w t):=hl
 have cW:=QC 1 rs.length 8 W1
 unfold rowsB
 clear hk hl
 cases hw:Qb 1 rs.length 8 with
 | false =>
  rw [hw] at cW
  go_enter Tryz.func63,Tryz.ntmps63
  go_upto_region 1 with fail
  rw [E1.out]
  clear E1
  go_wp2_with fail
  refine cW.mono ?_
  rintro e w5 ⟨rfl,rfl⟩
  go_wp2_with fail
  go_ret
  exact⟨rfl,HB1.out⟩
 | true =>
  rw [hw] at cW
  obtain⟨hn0,hn8⟩:(1:Int)≤rs.length∧(rs.length:Int)≤8:=by simpa [Qb] using hw
  obtain⟨R,eR⟩:∃ R,JS t.sl t.rs.length t.ts.length rs=R:=⟨_,rfl⟩
  rw [eR]
  have HR0:Hid (R=JS t.sl t.rs.length t.ts.length (rs.drop 0)):=by show _=_; rw [← eR]; rfl
  clear eR hw
  go_enter Tryz.func63,Tryz.ntmps63
  go_upto_region 1 with fail
  rw [E1.out]
  clear E1
  go_wp2_with fail
  refine cW.mono ?_
  rintro e w5 ⟨rfl,rfl⟩
  clear cW
  go_wp2_with fail
  go_loopw [13] (fun q wr=>∃ (i:Nat),i≤rs.length∧q=zI i∧Hid (Below w§ w wr)∧Hid (wr.heap[w§]? = some (.cells t.vals 26 (0,0)))∧Hid (R=JS t.sl t.rs.length t.ts.length (rs.drop i))) (fun q _=>rs.length - (intOf q).toNat)
  case atStart=>exact⟨0,by omega,rfl,HB1,HN1,HR0⟩
  case round =>
   obtain⟨i,hi,rfl,HBR,HPR,HRR⟩:=hrel
   by_cases hlt:i < rs.length
   ·have hlt':(i:Int) < (rs.length:Int):=by omega
    have hmx:(i:Int)+1≤9223372036854775807:=by have h1:=HSL.out.1; have h2:=HSL.out.2.1; rw [List.length_map] at h1; omega
    obtain⟨bb,o,ea,hat⟩:=(HSL.out.on (mapz RowM.sz _) HBR.out).2.2 i (by rw [List.length_map]; exact hlt)
    simp only [List.getElem_map] at hat
    have HMEM:Hid (rs[i] ∈ rs):=List.getElem_mem hlt
    have HD:Hid (R=(rowB t.sl t.rs.length t.ts.length rs[i] && !(!(rs.drop (i+1)).isEmpty && endsB rs[i].k) && JS t.sl t.rs.length t.ts.length (rs.drop (i+1)))):=by show _=_; rw [HRR.out,List.drop_eq_getElem_cons hlt]; rfl
    obtain⟨d,ed⟩:∃ d,rs[i]=d:=⟨_,rfl⟩
    rw [ed] at hat HMEM HD
    have HRG:Hid (wr.rangeAt bb (o+i * 11) d.vals.toList):=fun j v hv=>by
     have hj:j < 11:=(List.getElem?_eq_some_iff.1 hv).1
     rw [hat j hj,← hv]; simp
    have HZ:Hid ((wr.alloc (.cells zA1 85)).heap[wr§]? = some (.cells zA1 85 (0,0))):=Hn _ _
    have HWX:Hid (Below wr§ wr ((wr.alloc (.cells zA1 85)).setRow wr§ d.vals)):=Qc (Bn _ _) (Nat.le_refl _) _
    have HNX:Hid (((wr.alloc (.cells zA1 85)).setRow wr§ d.vals).heap[wr§]? = some (.cells d.vals 85 (0,0))):=setRow_heap _ _ _ _ _ _ HZ.out
    subst ea
    clear hat ed
    go_upto_region 6 with (first | (refine wpList_load_mid rfl 85 (.tmp 16) rfl bb (o+i * 11) rfl d.vals.toList _ HRG.out Tryz.underlying85 rfl (by show _=some 11; exact Qi) ?_; rw [Array.toArray_toList]) | (refine wpList_store_row rfl 85 (.tmp 6) (.tmp 17) rfl wr§ d.vals rfl rfl 85 zA1 HZ.out Qi rfl (QQ d) ?_))
    generalize World.setRow _ _ _=WX at HWX HNX ⊢
    clear HZ HRG
    have HBX:=zH (Qa HBR.out HWX.out)
    have HPX:Hid (WX.heap[w§]? = some (.cells t.vals 26 (0,0))):=(HWX.out.block _ (Array.getElem?_eq_some_iff.1 HPR.out).1).trans HPR.out
    have cR:=rowFits_any t d WX (HTL.out.on HBX.out)
    have hem:(rs.drop (i+1)).isEmpty = !decide ((i:Int) < (rs.length:Int) - 1):=by
     by_cases hq:(i:Int) < (rs.length:Int) - 1
     ·rw [decide_eq_true hq]
      have:(rs.drop (i+1)).length≠0:=by rw [List.length_drop]; omega
      cases hx:rs.drop (i+1) with
      | nil=>rw [hx] at this; simp at this
      | cons _ _=>rfl
     ·rw [decide_eq_false hq,List.drop_of_length_le (by omega)]; rfl
    rw [hem] at HD
    have HNX2:=zH HNX.out
    clear hem HRR HBR HPR HMEM
    go_wp2_with (first | (refine wpList_load_row rfl 26 (.tmp 2) rfl w§ rfl 26 t.vals (0,0) _ HPX.out Tryz.underlying26 rfl Qe ?_) | (refine wpList_load_row rfl 85 (.tmp 6) rfl wr§ rfl 85 d.vals (0,0) _ HNX2.out Tryz.underlying85 rfl Qi ?_))
    refine cR.mono ?_
    rintro e w5 ⟨rfl,hb5⟩
    have HB5:=zH (Qa HBX.out hb5)
    have HP5:Hid (w5.heap[w§]? = some (.cells t.vals 26 (0,0))):=(hb5.block _ (Array.getElem?_eq_some_iff.1 HPX.out).1).trans HPX.out
    have c0:w5.cell? ⟨wr§,0,none⟩=some (zU d.k):=by rw [World.cell?_of_block (hb5.block _ (Array.getElem?_eq_some_iff.1 HNX2.out).1)]; exact Co HNX2.out 0
    clear cR hb5 HBX HPX HNX HNX2 HWX
    cases hr:rowB t.sl t.rs.length t.ts.length d with
    | false =>
     have HF:Hid (R=false):=by show _=_; rw [HD.out,hr]; rfl
     go_wp2_with fail
     go_ret
     exact⟨by rw [HF.out]; rfl,HB5.out⟩
    | true =>
     cases hj:decide ((i:Int) < (rs.length:Int) - 1) with
     | false =>
      have HF:Hid (R=JS t.sl t.rs.length t.ts.length (rs.drop (i+1))):=by show _=_; rw [HD.out,hr,hj]; rfl
      go_wp2_with fail
      exact⟨⟨i+1,hlt,rfl,HB5,HP5,HF⟩,by simp only [intOf]; omega⟩
     | true =>
      have cE:=ends_any d.k w5
      cases hd:endsB d.k with
      | true =>
       rw [hd] at cE
       have HF:Hid (R=false):=by show _=_; rw [HD.out,hr,hj,hd]; rfl
       go_wp2_with fail
       refine cE.mono ?_
       rintro e w6 ⟨rfl,rfl⟩
       go_wp2_with fail
       go_ret
       exact⟨by rw [HF.out]; rfl,HB5.out⟩
      | false =>
       rw [hd] at cE
       have HF:Hid (R=JS t.sl t.rs.length t.ts.length (rs.drop (i+1))):=by show _=_; rw [HD.out,hr,hj,hd]; rfl
       go_wp2_with fail
       refine cE.mono ?_
       rintro e w6 ⟨rfl,rfl⟩
       go_wp2_with fail
       exact⟨⟨i+1,hlt,rfl,HB5,HP5,HF⟩,by simp only [intOf]; omega⟩
   ·obtain rfl:i=rs.length:=by omega
    have hnot:¬ (rs.length:Int) < (rs.length:Int):=by omega
    have HF:Hid (R=true):=by show _=_; rw [HRR.out,List.drop_length]; rfl
    go_wp2_with fail
    go_ret
    exact⟨by rw [HF.out]; rfl,HBR.out⟩
end Go.Proofs.YteedmmljahgpjaaGreatDoor
