import Derived.Test.YteedmmljahgpjaaGreatDoorA0
import Derived.Test.YteedmmljahgpjaaGreatDoorProg
import Derived.Test.YteedmmljahgpjaaGreatDoorA2
import Derived.Deep.QuietTactic
import Derived.BigQuiet
import Derived.Below
import Derived.WalkKit
import Derived.ProofKit
import Derived.Outline
import Derived.ArgAppend
import Derived.Laws.IdiomStrings
import Derived.OwnWalk
import Derived.OpenShut
import Derived.Deep.MidRow
import Derived.Deep.AppendLies
import Derived.Laws.AppendOwn
import Derived.Laws.AppendOwnNone
import Derived.Laws.Tables
import Derived.Laws.Rows
namespace Go.Proofs.YteedmmljahgpjaaGreatDoor
namespace W
open Go.RowKit
theorem retb {a b:Bool}(h:a=b):Ending.returned (.bool a)=.returned (.bool b):=by rw [h]
theorem ret1 {k:IntKind}{a b:Int}(h:a=b):Ending.returned (.int k a)=.returned (.int k b):=by rw [h]
theorem ret1s {a b:ByteArray}(h:a=b):Ending.returned (.string a)=.returned (.string b):=by rw [h]
def zigN (n:Int):Int:=if 0≤n then 2 * n else -2 * n - 1
def zagN (x:Int):Int:=if x % 2=0 then x / 2 else -(x / 2) - 1
theorem zigN_bd (n:Int) (h0:-9223372036854775808≤n) (h1:n≤9223372036854775807):0≤zigN n∧zigN n≤18446744073709551615:=by unfold zigN; split <;> omega
theorem zagN_bd (x:Int) (h0:0≤x) (h1:x≤18446744073709551615):-9223372036854775808≤zagN x∧zagN x≤9223372036854775807:=by unfold zagN; split <;> omega
theorem zig_any (n:Int) (h0:-9223372036854775808≤n) (h1:n≤9223372036854775807) (w:World) :
  Calls zG 106 #[zI n] w fun e w'=>e=.returned (.int .u64 (zigN n))∧w'=w:=by
 by_cases hn:n < 0
 ·have HN:Hid (bits .xor .u64 IntKind.u64.max (n % 18446744073709551616 * 2 % 18446744073709551616)=zigN n):=by
   show _=_
   rw [not64 _ (by omega) (by omega)]
   unfold zigN
   rw [if_neg (by omega)]
   omega
  go_enter Tryz.func106,Tryz.ntmps106
  go_wp2_with fail
  go_ret
  exact⟨ret1 (by simp only [IntKind.wrap_u64]; exact HN.out),rfl⟩
 ·go_enter Tryz.func106,Tryz.ntmps106
  go_wp2_with fail
  go_ret
  exact⟨ret1 (by unfold zigN; rw [if_pos (by omega)]; (try simp only [IntKind.wrap_u64]); omega),rfl⟩
theorem zag_any (x:Int) (h0:0≤x) (h1:x≤18446744073709551615) (w:World) :
  Calls zG 134 #[.int .u64 x] w fun e w'=>e=.returned (zI (zagN x))∧w'=w:=by
 have hand:=and1 x h0 h1
 have hnot:=noti64 (x / 2) (by omega) (by omega)
 by_cases hn:x % 2=1
 ·go_enter Tryz.func134,Tryz.ntmps134
  go_wp2_with fail
  go_ret
  exact⟨ret1 (by unfold zagN; rw [if_neg (by omega)]; try simp only [hnot]),rfl⟩
 ·go_enter Tryz.func134,Tryz.ntmps134
  go_wp2_with fail
  go_ret
  exact⟨ret1 (by unfold zagN; rw [if_pos (by omega)]),rfl⟩
theorem rzag_any (x:Int) (h0:0≤x) (h1:x≤18446744073709551615) (w:World) :
  Calls zG 87 #[.int .u64 x] w fun e w'=>e=.returned (zI (zagN x))∧w'=w:=by
 by_cases hn:x % 2=0
 ·go_enter Tryz.func87,Tryz.ntmps87
  go_wp2_with fail
  go_ret
  exact⟨ret1 (by unfold zagN; rw [if_pos (by omega)]),rfl⟩
 ·go_enter Tryz.func87,Tryz.ntmps87
  go_wp2_with fail
  go_ret
  exact⟨ret1 (by unfold zagN; rw [if_neg (by omega)]),rfl⟩
def endB (c i:Int):Bool:=decide (¬ ((i=9∧c≠1)∨(c=0∧0 < i)))
theorem endEq {P Q:Prop} [Decidable P] [Decidable Q] (h:P ↔ Q):decide P=decide Q:=by simp [h]
theorem mayEnd_any (c i:Int) (c0:0≤c) (c1:c≤255) (i0:0≤i) (i1:i≤9) (w:World) :
  Calls zG 148 #[zU c,zI i] w fun e w'=>e=.returned (.bool (endB c i))∧w'=w:=by
 by_cases hi:i=9
 ·by_cases hc:c=1
  ·subst hi hc
   go_enter Tryz.func148,Tryz.ntmps148
   go_wp2_with fail
   go_ret
   exact⟨retb (by decide),rfl⟩
  ·go_enter Tryz.func148,Tryz.ntmps148
   go_wp2_with fail
   go_ret
   exact⟨retb (endEq (by omega)),rfl⟩
 ·by_cases hc:c=0
  ·by_cases h0:i=0
   ·subst hc h0
    go_enter Tryz.func148,Tryz.ntmps148
    go_wp2_with fail
    go_ret
    exact⟨retb (by decide),rfl⟩
   ·go_enter Tryz.func148,Tryz.ntmps148
    go_wp2_with fail
    go_ret
    exact⟨retb (endEq (by omega)),rfl⟩
  ·go_enter Tryz.func148,Tryz.ntmps148
   go_wp2_with fail
   go_ret
   exact⟨retb (by unfold endB; exact (decide_eq_true (by omega)).symm),rfl⟩
theorem sum_step (c:Nat) (x:UInt8) (hc:c < 4294967296):bits .xor .u32 (c:Int) ((x.toNat:Int) % 4294967296) * 16777619 % 4294967296=((sumStep c x:Nat):Int):=by
 have hx:=x.toNat_lt
 rw [show (x.toNat:Int) % 4294967296=((x.toNat:Nat):Int) by omega,u32_xor_nat _ _ hc (by omega)]
 unfold sumStep
 omega
theorem rsum_step (c:Nat) (x:UInt8) (hc:c < 4294967296):(IntKind.u64.wrap (bits .xor .u64 (c:Int) (IntKind.u64.wrap (x.toNat:Int)) * 16777619)).tmod 4294967296=((sumStep c x:Nat):Int):=by
 have hx:=x.toNat_lt
 have h2:=xor_lt hc x
 have hw:IntKind.u64.wrap (x.toNat:Int)=((x.toNat:Nat):Int):=by rw [IntKind.wrap_u64]; omega
 rw [hw,u64_xor_nat _ _ (by omega) (by omega),IntKind.wrap_u64,Int.tmod_eq_emod_of_nonneg (by omega)]
 unfold sumStep
 omega
theorem sumL_nil:sumL []=2166136261:=by unfold sumL; exact List.foldl_nil
theorem sumL_start (l:List UInt8):(2166136261:Int)=((sumL (l.take 0):Nat):Int):=by
 have h:sumL (l.take 0)=2166136261:=sumL_nil
 omega
theorem sum_any (s:ByteArray) (hs:s.size≤140737488355328) (w:World) :
  Calls zG 105 #[.string s] w fun e w'=>e=.returned (.int .u32 (sumL s.data.toList:Nat))∧w'=w:=by
 go_enter Tryz.func105,Tryz.ntmps105
 go_wp2_with fail
 go_loop [3,7] (fun c i=>∃ (k:Nat) (d:Int),k≤s.size∧i=zI k∧c=.int .u32 d∧Hid (d=(sumL (s.data.toList.take k):Nat))) (fun _ i=>s.size - (intOf i).toNat)
 case atStart=>exact⟨0,2166136261,by omega,rfl,rfl,sumL_start _⟩
 case round =>
  obtain⟨k,d,hk,rfl,rfl,HD⟩:=hrel
  by_cases hlt:k < s.size
  ·have hstep:=sum_step (sumL (s.data.toList.take k)) s[k] (sumL_lt _)
   rw [← HD.out,← sumL_snoc,← take_at s k hlt] at hstep
   go_wp2_with fail
   go_round
   case rel=>exact⟨k+1,(sumL (s.data.toList.take (k+1)):Nat),by omega,by go_num,by rw [hstep],rfl⟩
   case measure=>simp [intOf]; omega
  ·go_wp2_with fail
   go_ret
   exact⟨ret1 (by rw [HD.out,List.take_of_length_le (by rw [len_of]; omega)]),rfl⟩
theorem rsum_any (s:ByteArray) (hs:s.size≤140737488355328) (w:World) :
  Calls zG 107 #[.string s] w fun e w'=>e=.returned (.int .u32 (sumL s.data.toList:Nat))∧w'=w:=by
 go_enter Tryz.func107,Tryz.ntmps107
 go_wp2_with fail
 go_loop [3,4] (fun c i=>∃ (k:Nat) (d:Int),k≤s.size∧i=zI k∧c=.int .u64 d∧Hid (d=(sumL (s.data.toList.take k):Nat))) (fun _ i=>s.size - (intOf i).toNat)
 case atStart=>exact⟨0,2166136261,by omega,rfl,rfl,sumL_start _⟩
 case round =>
  obtain⟨k,d,hk,rfl,rfl,HD⟩:=hrel
  have hlt2:=sumL_lt (s.data.toList.take k)
  have hd0:0≤d:=by rw [HD.out]; omega
  have hd1:d < 4294967296:=by rw [HD.out]; omega
  by_cases hlt:k < s.size
  ·have hstep:=rsum_step (sumL (s.data.toList.take k)) s[k] (sumL_lt _)
   rw [← HD.out,← sumL_snoc,← take_at s k hlt] at hstep
   go_wp2_with fail
   go_round
   case rel=>exact⟨k+1,(sumL (s.data.toList.take (k+1)):Nat),by omega,by go_num,rfl,rfl⟩
   case measure=>simp [intOf]; omega
  ·go_wp2_with fail
   go_ret
   exact⟨ret1 (by rw [HD.out,List.take_of_length_le (by rw [len_of]; omega)] ),rfl⟩
end W
namespace W
open Go.RowKit
theorem Tryz.info5:(Tryz.prog.info? 5).map (fun i=>(i.zero,i.size,i.bytes))=some (some (zU 0),1,1):=by kernel_rfl
def Buf (w:World) (base:Nat) (v:Value) (l:List UInt8):Prop :=
 ∃ g cap,v=.slice (some ⟨g,0,none⟩) l.length cap∧base≤g∧g < w§∧l.length≤cap ∧
  (∀ j (hj:j < l.length),w.cell? ⟨g,j,none⟩=some (zU (l[j].toNat:Int))) ∧
  ∀ j,l.length≤j→j < cap→(w.cell? ⟨g,j,none⟩).isSome=true∧w.frozen? ⟨g,j,none⟩=false
theorem Buf.on {w w':World}{base:Nat}{v:Value}{l:List UInt8}(h:Buf w base v l) (hb:Below w§ w w'):Buf w' base v l:=by
 obtain⟨g,cap,rfl,h1,h2,h3,h4,h5⟩:=h
 exact⟨g,cap,rfl,h1,Nat.lt_of_lt_of_le h2 hb.size,h3,fun j hj=>by rw [hb.cell h2]; exact h4 j hj,fun j a b=>by rw [hb.cell h2,hb.frozen h2]; exact h5 j a b⟩
theorem Buf.alloc {w:World}{base:Nat}{v:Value}{l:List UInt8}(h:Buf w base v l) (o:Obj):Buf (w.alloc o) base v l:=h.on ((Below.refl _ w).alloc (Nat.le_refl _) o)
theorem cell_row {w:World}{g j:Nat}{cur:Array Value}{e:TypeId}{fr:Nat × Nat}(h:w.heap[g]? = some (.cells cur e fr)):w.cell? ⟨g,j,none⟩=cur[j]?:=by
 unfold World.cell?
 rw [h]
 simp
theorem frozen_row {w:World}{g j:Nat}{cur:Array Value}{e:TypeId}{lo hi:Nat}(h:w.heap[g]? = some (.cells cur e (lo,hi))):w.frozen? ⟨g,j,none⟩=(decide (lo≤j) && decide (j < hi)):=by
 unfold World.frozen?
 rw [h]
theorem buf_start (s:ByteArray) (w:World):∃ v w',(convert 9 200 (.string s)).run Tryz.prog w=.ok v w'∧Buf w' w§ v s.data.toList∧Below w§ w w':=by
 refine⟨_,_,run_bytes_of_string (P:=Tryz.prog) w 9 200 5 s Tryz.underlying9 Tryz.underlying200 Tryz.underlying5,?_,?_⟩
 ·have hge:=grownCap_ge w s.size 0 5
  generalize hC:bytesRow s (grownCap w s.size 0 5)=C
  have hCs:C.size=grownCap w s.size 0 5:=by
   rw [← hC]; unfold bytesRow
   simp only [Array.size_append,Array.size_map,Array.size_replicate]
   have:s.data.size=s.size:=rfl
   omega
  have hrow:(w.drew.alloc (.cells C 5 (C.size,C.size+1))).heap[w§]? = some (.cells C 5 (C.size,C.size+1)):=by
   show (w.heap.push _)[w§]? = _
   simp
  refine⟨w§,grownCap w s.size 0 5,by rw [len_of],Nat.le_refl _,by show _ < (w.heap.push _).size; simp,by rw [len_of]; exact hge,?_,?_⟩
  ·intro j hj
   rw [cell_row hrow,← hC,bytesRow_at s _ j (by simpa using hj)]
   simp
  ·intro j h1 h2
   rw [cell_row hrow,frozen_row hrow]
   refine⟨by rw [Array.getElem?_eq_getElem (by omega)]; rfl,?_⟩
   have:decide (C.size≤j)=false:=decide_eq_false (by omega)
   rw [this]; rfl
 ·exact ((Below.refl _ w).drew).alloc (Nat.le_refl _) _
theorem buf_append {w:World}{base:Nat}{v:Value}{l:List UInt8}(h:Buf w base v l) (hbase:base≤w§) (ty:TypeId) (ad:Addr) (c:UInt8) (hc:w.cell? ad=some (zU (c.toNat:Int)))
  (hlen:l.length+1≤140737488355328) :
  ∃ v' w',(Builtin.append_ #[200,200] ty #[v,.slice (some ad) 1 1]).run Tryz.prog w=.ok v' w'∧Buf w' base v' (l ++ [c])∧Below base w w':=by
 obtain⟨i0,hi,hz0,hz1,hz2⟩:=info_parts Tryz.info5
 obtain⟨g,cap,rfl,hg,hlt,hle,hold,hsp⟩:=h
 have hnews:∀ j u,[Value.int .u8 (c.toNat:Int)][j]? = some u→w.cell? (ad.add j)=some u:=by
  intro j u hu
  match j,hu with
  | 0,hu =>
   simp at hu
   subst hu
   have:ad.add 0=ad:=by cases ad with | mk b o sp=>cases sp <;> simp [Addr.add]
   rw [this]; exact hc
 by_cases hr:l.length+1≤cap
 ·have hs:=hsp l.length (Nat.le_refl _) (by omega)
  have hrun:=run_append_room_cells (P:=Tryz.prog) w 200 ty 5 i0 Tryz.underlying200 hi g 0 l.length cap ad 1 1 [zU (c.toNat:Int)] (by rw [hz1]; rfl) hnews (by intro u hu; simp at hu; subst hu; rfl) hr
   (fun j hj=>by
    obtain rfl:j=0:=by simp at hj; exact hj
    rw [hz1]; simpa using hs.1)
   (fun j hj=>by
    obtain rfl:j=0:=by simp at hj; exact hj
    rw [hz1]; simpa using hs.2)
  refine⟨_,_,hrun,?_,?_⟩
  ·rw [hz1,Nat.mul_one,Nat.zero_add]
   refine⟨g,cap,by simp,hg,by show g < ((w.setCell ⟨g,l.length,none⟩ _).heap).size; simpa [World.setCell] using hlt,by simpa using hr,?_,?_⟩
   ·intro j hj
    by_cases hj':j < l.length
    ·rw [World.cell?_setCells_out g _ _ _ _ (fun _ _=>Or.inl hj'),List.getElem_append_left hj']
     exact hold j hj'
    ·obtain rfl:j=l.length:=by simp at hj; omega
     have:=World.cell?_setCells_in g [zU (c.toNat:Int)] l.length w (fun j hj=>by
      obtain rfl:j=0:=by simp at hj; exact hj
      simpa using hs.1) 0 (by simp)
     simpa using this
   ·intro j h1 h2
    simp only [List.length_append,List.length_cons,List.length_nil] at h1
    rw [World.cell?_setCells_out g _ _ _ _ (fun _ _=>Or.inr (by simp; omega)),World.frozen?_setCells]
    exact hsp j (by omega) h2
  ·exact (Below.refl base w).setCell (p:=⟨g,_,none⟩) hg _
 ·obtain⟨v',w',hrun,hown,hgr⟩:=run_append_arg_grows (P:=Tryz.prog) w 200 ty 5 i0 (zU 0) 1 1 Tryz.underlying200 hi hz0 hz1 hz2 rfl (by decide) ⟨g,0,none⟩ l.length cap (l.map fun c=>zU (c.toNat:Int)) (by simp)
   (fun j u hu=>by
    rw [Addr.add_lit,Nat.zero_add]
    have hj:j < l.length:=by have:=(List.getElem?_eq_some_iff.1 hu).1; simpa using this
    rw [hold j hj]
    simp [List.getElem?_eq_getElem hj] at hu
    rw [← hu]) ad 1 1 [zU (c.toNat:Int)] rfl hnews (by omega) (by unfold maxLen; omega) (by omega)
  refine⟨v',w',hrun,?_,(Below.refl base w).grown hgr hbase (fun k hk=>by cases hk)⟩
  rcases hown.2 with ⟨_,h0⟩ | ⟨g',cap',cur,rfl,hb',hg',hnc,_,hcs,htake⟩
  ·omega
  ·refine⟨g',cap',by simp,Nat.le_trans hbase hb',(Array.getElem?_eq_some_iff.1 hg').1,by simpa using hnc,?_,?_⟩
   ·intro j hj
    have hj':j < l.length+1:=by simpa using hj
    have hca:=hown.cellAt j (by omega)
    rw [hca]
    by_cases hl:j < l.length
    ·rw [List.getElem?_append_left (by simpa using hl)]
     simp [List.getElem_append_left hl,hl]
    ·obtain rfl:j=l.length:=by omega
     rw [List.getElem?_append_right (by simp)]
     simp
   ·intro j h1 h2
    rw [cell_row hg',frozen_row hg']
    refine⟨by rw [Array.getElem?_eq_getElem (by omega)]; rfl,?_⟩
    simp
theorem JP (w:World) {ops:Array Oper}{rest:List Oper}{o:Oper}{a:Act}{Q:Exit→Act→World→Prop}(hgd:o.guard=none) (s x:Operand)
  (ho:o.op=.call { callee:=.builtin .append,args:=#[s,x],argTypes:=#[200,200] })
  {base:Nat}{v:Value}{l:List UInt8}(hs:a.eval s=v) (h:Buf w base v l) (hbase:base≤w§) (ad:Addr) (c:UInt8) (hx:a.eval x=.slice (some ad) 1 1) (hc:w.cell? ad=some (zU (c.toNat:Int)))
  (hlen:l.length+1≤140737488355328)
  (hK:∀ v' w',Buf w' base v' (l ++ [c])→Below base w w'→wpList Tryz.prog ops Q rest (a.put o.dst v') w'):wpList Tryz.prog ops Q (o :: rest) a w:=by
 refine wpList_plain hgd fun K hK'=>?_
 obtain⟨v',w',hrun,r1,r2⟩:=buf_append h hbase o.type ad c hc hlen
 unfold Oper.wp
 simp [execOp,ho,resolve,invoke,builtin,hs,hx,hrun,Result.andThen]
 exact hK' _ _ (hK v' w' r1 r2)
theorem buf_string {w:World}{base:Nat}{v:Value}{l:List UInt8}(h:Buf w base v l):(convert 200 9 v).run Tryz.prog w=.ok (.string (bytes l)) w:=by
 obtain⟨g,cap,rfl,_,_,_,hold,_⟩:=h
 refine run_convert_bytes_back (P:=Tryz.prog) w 200 9 5 ⟨g,0,none⟩ cap l Tryz.underlying200 Tryz.underlying5 Tryz.underlying9 (fun j hj=>?_)
 rw [Addr.add_lit,Nat.zero_add]
 exact hold j hj
end W
namespace W
set_option maxHeartbeats 1000000
open Go.RowKit
def Lies (w:World) (ao:Option Addr) (len:Nat) (zs:List Int):Prop :=
 zs.length=len∧(ao=none→len=0)∧∀ ad,ao=some ad→∀ j,j < len→w.cell? (ad.add j)=some (.int .u64 (zs.getD j 0))
theorem Lies.below {w w':World}{ao:Option Addr}{len:Nat}{zs:List Int}(h:Lies w ao len zs) (hb:Below w§ w w'):Lies w' ao len zs:=by
 refine⟨h.1,h.2.1,fun ad had j hj=>?_⟩
 have hc:=h.2.2 ad had j hj
 rw [hb.cell (World.block_lt_of_cell? w _ hc)]
 exact hc
theorem Lies.addr {w:World}{ao:Option Addr}{len:Nat}{zs:List Int}(h:Lies w ao len zs) (h0:0 < len) :
  ∃ b off,ao=some ⟨b,off,none⟩∧b < w§∧∀ j,j < len→w.cell? ⟨b,off+j,none⟩=some (.int .u64 (zs.getD j 0)):=by
 cases ao with
 | none=>have:=h.2.1 rfl; omega
 | some ad =>
  have hc:=h.2.2 ad rfl
  obtain⟨b,off,rfl,hc'⟩:=ints_at (zs:=zs) (fun i hi=>hc i (by rw [← h.1]; exact hi)) (by rw [h.1]; exact h0)
  rw [h.1] at hc'
  exact⟨b,off,rfl,World.block_lt_of_cell? w _ (hc' 0 h0),hc'⟩
def Fits (zs:List Int):Prop:=∀ j:Nat,0≤zs.getD j 0∧zs.getD j 0≤18446744073709551615
def nats (zs:List Int):List Nat:=zs.map Int.toNat
theorem nats_take {zs:List Int}{k:Nat}(h:k < zs.length):nats (zs.take (k+1))=nats (zs.take k) ++ [(zs.getD k 0).toNat]:=by
 unfold nats
 rw [List.take_succ_eq_append_getElem h,List.map_append]
 simp [List.getD,h]
theorem nats_fit {zs:List Int}(h:Fits zs):∀ n ∈ nats zs,n < 18446744073709551616:=by
 intro n hn
 unfold nats at hn
 obtain⟨z,hz,rfl⟩:=List.mem_map.1 hn
 obtain⟨j,hj,rfl⟩:=List.mem_iff_getElem.1 hz
 have:=h j
 simp only [List.getD,List.getElem?_eq_getElem hj,Option.getD_some] at this
 omega
theorem putL_take {zs:List Int}{k:Nat}(h:k < zs.length):putL (nats (zs.take (k+1)))=putL (nats (zs.take k)) ++ put1 (zs.getD k 0).toNat:=by
 rw [nats_take h,putL_append,putL_one]
theorem putL_take_len {zs:List Int}(h:Fits zs) (k:Nat):(putL (nats (zs.take k))).length≤10 * zs.length:=by
 have h1:Fits (zs.take k):=by
  intro j
  by_cases hj:j < k
  ·have e:(zs.take k).getD j 0=zs.getD j 0:=by simp [List.getD,hj]
   rw [e]; exact h j
  ·have e:(zs.take k).getD j 0=0:=by simp [List.getD,List.getElem?_take,hj]
   rw [e]; omega
 have h2:=putL_len _ (nats_fit h1)
 have h3:(nats (zs.take k)).length≤zs.length:=by unfold nats; rw [List.length_map,List.length_take]; omega
 omega
theorem up {B:Nat}{w wr:World}(h:Below B w wr) (hB:B≤w§) (o:Obj):B≤(wr.alloc o)§:=by
 have h1:=h.size
 have h2:(wr.alloc o)§=wr§+1:=by show (wr.heap.push o).size=_; simp
 omega
theorem cell_new (w:World) {x:Int}{c:UInt8}(h:x=(c.toNat:Int)):(w.alloc (.cells #[zU x] 5)).cell? ⟨w§,0,none⟩=some (zU (c.toNat:Int)):=by
 rw [World.cell?_alloc_mark,← h]
 rfl
theorem byte_low (y:Int) (h0:0≤y) (h1:y < 128):((UInt8.ofNat y.toNat).toNat:Int)=y:=by rw [Q8 (by omega)]; omega
theorem byte_more (y:Int) (h0:0≤y):((UInt8.ofNat (y.toNat % 128+128)).toNat:Int)=y % 128+128:=by rw [Q8 (by omega)]; omega
theorem put_any (s:ByteArray) (b off len cap:Nat) (zs:List Int) (w:World) (hz:zs.length=len) (hmax:s.size+10 * len≤1099511627776) (hf:Fits zs) (hb:b < w§)
  (hcell:∀ j,j < len→w.cell? ⟨b,off+j,none⟩=some (.int .u64 (zs.getD j 0))) :
  Calls zG 79 #[.string s,.slice (some ⟨b,off,none⟩) len cap] w fun e w'=>e=.returned (.string (bytes (s.data.toList ++ putL (nats zs))))∧Below w§ w w':=by
 obtain⟨v0,w0,hconv,hbuf0,hbel0⟩:=buf_start s w
 have hsl:=len_of s
 go_enter Tryz.func79,Tryz.ntmps79
 go_wp2_with fail
 go_loopw [5,12] (fun v i wr=>∃ (k:Nat) (acc:List UInt8),k≤len∧i=zI k∧Buf wr w§ v acc∧Below w§ w wr∧Hid (acc=s.data.toList ++ putL (nats (zs.take k)))) (fun _ i _=>len - (intOf i).toNat)
 case atStart=>exact⟨0,_,Nat.zero_le _,rfl,hbuf0,hbel0,by show _=_; rw [List.take_zero]; exact (List.append_nil _).symm⟩
 case round =>
  obtain⟨k,acc,hk,rfl,hbuf,hbel,HA⟩:=hrel
  by_cases hlt:k < len
  ·have hlt':(k:Int) < (len:Int):=by omega
   obtain⟨z,ez⟩:∃ z,z=zs.getD k 0:=⟨_,rfl⟩
   have hz01:=hf k
   have hc:=hcell k hlt
   rw [← ez] at hz01 hc
   obtain⟨z0,z1⟩:=hz01
   have hT:Hid (acc ++ put1 z.toNat=s.data.toList ++ putL (nats (zs.take (k+1)))):=by show _=_; rw [HA.out,putL_take (by omega),List.append_assoc,ez]
   have hTl:(s.data.toList ++ putL (nats (zs.take (k+1)))).length≤1099511627776:=by
    have:=putL_take_len hf (k+1)
    rw [List.length_append]; omega
   obtain⟨T,eT⟩:∃ T,T=s.data.toList ++ putL (nats (zs.take (k+1))):=⟨_,rfl⟩
   have HT:Hid (T=s.data.toList ++ putL (nats (zs.take (k+1)))):=eT
   rw [← eT] at hT hTl
   have hcw:=hbel.cell (p:=⟨b,off+k,none⟩) hb
   rw [hc] at hcw
   clear hcell hc eT ez hf
   go_wp2_with fail
   go_loopw [5,7] (fun v t wr=>∃ (y:Int) (acc:List UInt8),0≤y∧y≤18446744073709551615∧t=.int .u64 y∧Buf wr w§ v acc∧Below w§ w wr∧Hid (acc ++ put1 y.toNat=T)) (fun _ t _=>(intOf t).toNat)
   case atStart=>exact⟨z,acc,z0,z1,rfl,hbuf,hbel,hT⟩
   case round =>
    clear hcw hbuf hbel HA hT acc
    obtain⟨y,acc,y0,y1,rfl,hbuf,hbel,hT⟩:=hrel
    have hal:acc.length+1≤1099511627776:=by
     have h1:=congrArg List.length hT.out
     have h2:=put1_pos y.toNat
     rw [List.length_append] at h1
     omega
    by_cases hy:y < 128
    ·have hy':¬ 128≤y:=by omega
     obtain⟨c,ec⟩:∃ c,c=UInt8.ofNat y.toNat:=⟨_,rfl⟩
     have hT2:Hid (acc ++ [c]=T):=by show _=_; rw [← hT.out,JL (by omega),ec]
     have hcy:y=(c.toNat:Int):=by rw [ec,byte_low y y0 hy]
     have HC:Hid (y=(c.toNat:Int)):=hcy
     clear ec hcy
     go_wp2_with (at_builtin; refine JP _ rfl (.tmp 27) (.tmp 30) rfl rfl (hbuf.alloc _) (up hbel (Nat.le_refl _) _) ⟨_,0,none⟩ c rfl (cell_new _ HC.out) (by omega) ?_; intro v' w' hbuf' hbel')
     go_round
     case rel=>exact⟨k+1,acc ++ [c],by omega,by go_num,hbuf',(hbel.alloc hbel.size _).trans hbel',by show _=_; rw [hT2.out,HT.out]⟩
     case measure=>simp [intOf]; omega
    ·have hy':128≤y:=by omega
     obtain⟨c,ec⟩:∃ c,c=UInt8.ofNat (y.toNat % 128+128):=⟨_,rfl⟩
     have hT2:Hid ((acc ++ [c]) ++ put1 (y / 128).toNat=T):=by
      show _=_
      rw [← hT.out,put1_step (n:=y.toNat) (by omega),ec,show (y / 128).toNat=y.toNat / 128 by omega,List.append_assoc]; rfl
     have HC:Hid (y % 128+128=(c.toNat:Int)):=by show _=_; rw [ec,byte_more y y0]
     have hand:=and127 y y0 y1
     have hor:=or128 (y % 128) (by omega) (by omega)
     clear ec
     go_wp2_with (at_builtin; refine JP _ rfl (.tmp 20) (.tmp 25) rfl rfl (hbuf.alloc _) (up hbel (Nat.le_refl _) _) ⟨_,0,none⟩ c rfl (cell_new _ HC.out) (by omega) ?_; intro v' w' hbuf' hbel')
     go_round
     case rel=>exact⟨y / 128,acc ++ [c],by omega,by omega,by go_num,hbuf',(hbel.alloc hbel.size _).trans hbel',hT2⟩
     case measure=>simp [intOf]; omega
  ·have hlt':¬ (k:Int) < (len:Int):=by omega
   have hback:=buf_string hbuf
   have HE:Hid (acc=s.data.toList ++ putL (nats zs)):=by show _=_; rw [HA.out,List.take_of_length_le (by omega)]
   clear hcell hf hbuf0 hconv
   go_wp2_with fail
   go_ret
   exact⟨ret1s (by rw [HE.out]),hbel⟩
theorem put_none (s:ByteArray) (ao:Option Addr) (cap:Nat) (w:World) :
  Calls zG 79 #[.string s, .slice ao 0 cap] w fun e w' => e = .returned (.string s) ∧ Below w§ w w' := by
 obtain⟨v0,w0,hconv,hbuf0,hbel0⟩:=buf_start s w
 have hback:=buf_string hbuf0
 have hlb:Hid (bytes s.data.toList=s):=Jm s
 go_enter Tryz.func79,Tryz.ntmps79
 go_wp2_with fail
 refine wp_loop_rounds 1 ?_
 rw [rounds_succ]
 go_wp2_with fail
 go_ret
 exact⟨ret1s hlb.out,hbel0⟩
theorem put_lies (s:ByteArray) (ao:Option Addr) (len cap:Nat) (zs:List Int) (w:World) (h:Lies w ao len zs) (hmax:s.size+10 * len≤1099511627776) (hf:Fits zs) :
  Calls zG 79 #[.string s,.slice ao len cap] w fun e w'=>e=.returned (.string (bytes (s.data.toList ++ putL (nats zs))))∧Below w§ w w':=by
 by_cases h0:len=0
 ·subst h0
  have hz:zs = []:=List.eq_nil_of_length_eq_zero h.1
  subst hz
  have e:bytes (s.data.toList ++ putL (nats []))=s:=by
   have:putL (nats []) = []:=rfl
   rw [this,List.append_nil,Jm]
  rw [e]
  exact put_none s ao cap w
 ·obtain⟨b,off,rfl,hb,hc⟩:=h.addr (by omega)
  exact put_any s b off len cap zs w h.1 hmax hf hb hc
theorem one_lies (w:World) (x:Int):Lies (w.alloc (.cells #[.int .u64 x] 104)) (some ⟨w§,0,none⟩) 1 [x]:=by
 refine⟨rfl,(fun h=>by cases h),fun ad had j hj=>?_⟩
 cases had
 obtain rfl:j=0:=by omega
 rw [Addr.add_lit,World.cell?_alloc_mark]
 rfl
theorem one_fits {x:Int}(h0:0≤x) (h1:x≤18446744073709551615):Fits [x]:=by
 intro j
 cases j with
 | zero=>exact⟨h0,h1⟩
 | succ j=>simp [List.getD]
theorem put_one (s:ByteArray) (x:Int) (h0:0≤x) (h1:x≤18446744073709551615) (hs:s.size≤549755813888) (w:World) :
  Calls zG 79 #[.string s,.slice (some ⟨w§,0,none⟩) 1 1] (w.alloc (.cells #[.int .u64 x] 104)) fun e w'=>e=.returned (.string (bytes (s.data.toList ++ put1 x.toNat)))∧Below (w§+1) (w.alloc (.cells #[.int .u64 x] 104)) w':=by
 refine (put_lies s _ 1 1 [x] _ (one_lies w x) (by omega) (one_fits h0 h1)).mono ?_
 rintro e w' ⟨rfl,hb⟩
 refine⟨ret1s (by rw [show nats [x] = [x.toNat] from rfl,putL_one]),?_⟩
 have:(w.alloc (.cells #[.int .u64 x] 104))§=w§+1:=by show (w.heap.push _).size=_; simp
 rwa [this] at hb
theorem below_one {w w':World}{x:Int}(h:Below (w§+1) (w.alloc (.cells #[.int .u64 x] 104)) w'):Below w§ w w' :=
 ((Below.refl _ w).alloc (Nat.le_refl _) _).trans (h.mono (by omega))
theorem putText_any (s t:ByteArray) (hs:s.size≤549755813888) (ht:t.size≤549755813888) (w:World) :
  Calls zG 74 #[.string s,.string t] w fun e w'=>e=.returned (.string (bytes (s.data.toList ++ text1 t.data.toList)))∧Below w§ w w':=by
 obtain⟨x,hx⟩:∃ x:Int,x=(t.size:Int):=⟨_,rfl⟩
 have hx0:0≤x:=by omega
 have hx1:x≤549755813888:=by omega
 obtain⟨P,eP⟩:∃ P,P=bytes (s.data.toList ++ put1 x.toNat):=⟨_,rfl⟩
 have hPs:P.size≤549755813898:=by
  rw [eP,bytes_size,List.length_append,len_of]
  have:=put1_ten (n:=x.toNat) (by omega)
  omega
 have HR:Hid (bytes (s.data.toList ++ text1 t.data.toList)=P ++ t):=by
  show _=_
  unfold text1
  rw [len_of,← List.append_assoc,← bytes_app,Jm,eP,hx]
  rfl
 have cP:=put_one s x hx0 (by omega) (by omega) w
 rw [← eP] at cP
 have hx':=hx.symm
 clear eP hx
 go_enter Tryz.func74,Tryz.ntmps74
 go_wp2_with (go_at_call 79; refine cP.mono ?_; rintro e w1 ⟨rfl,hb1⟩)
 go_ret
 exact⟨ret1s HR.out.symm,below_one hb1⟩
end W
namespace W
set_option maxRecDepth 100000
set_option maxHeartbeats 1000000
open Go.RowKit
def Goal (a:Int) (l:List UInt8) (i:Nat) (x n p e:Int):Prop :=
 e=((tk i l).1:Nat)∧((tk i l).1=0→n=x+((128 ^ i * (tk i l).2.2:Nat):Int)∧p=a+i+((tk i l).2.1:Nat))∧((tk i l).1≠0→n=0∧p=a)
theorem goal_start (l:List UInt8) (a:Int) (h0:0≤a) (h1:a≤l.length):Goal a (l.drop a.toNat) 0 0 (takeN l a:Nat) (takeP l a) (takeE l a:Nat):=by
 have hE:=takeE_in h0 h1
 refine⟨by rw [hE],fun h=>?_,fun h=>?_⟩
 ·rw [← hE] at h
  rw [takeN_ok h,takeP_ok h]
  simp
 ·rw [← hE] at h
  rw [takeN_no h,JJ h]
  exact⟨rfl,rfl⟩
theorem goal_nil {a:Int}{i:Nat}{x n p e:Int}(hi:i < 10) (h:Goal a [] i x n p e):n=0∧p=a∧e=30:=by
 unfold Goal at h
 rw [tk_nil hi] at h
 obtain⟨h1,_,h3⟩:=h
 have:=h3 (by decide)
 exact⟨this.1,this.2,h1⟩
theorem goal_ten {a:Int}{l:List UInt8}{i:Nat}{x n p e:Int}(hi:¬ i < 10) (h:Goal a l i x n p e):n=0∧p=a∧e=31:=by
 unfold Goal at h
 rw [tk_ten hi] at h
 obtain⟨h1,_,h3⟩:=h
 have:=h3 (by decide)
 exact⟨this.1,this.2,h1⟩
theorem goal_any {a:Int}{l:List UInt8}{i:Nat}{x y n p e:Int}(hi:¬ i < 10) (h:Goal a l i x n p e):Goal a l i y n p e:=by
 unfold Goal at h ⊢
 rw [tk_ten hi] at h ⊢
 exact⟨h.1,(fun hc=>by cases hc),h.2.2⟩
theorem goal_bad {a:Int}{c:UInt8}{l:List UInt8}{i:Nat}{x n p e:Int}(hi:i < 10) (hc:(c.toNat:Int) < 128) (hb:endB (c.toNat:Int) (i:Int)=false) (h:Goal a (c :: l) i x n p e):n=0∧p=a∧e=31:=by
 unfold Goal at h
 unfold endB at hb
 have hb:=of_decide_eq_false hb
 rw [tk_bad hi (by omega) (by omega)] at h
 obtain⟨h1,_,h3⟩:=h
 have:=h3 (by decide)
 exact⟨this.1,this.2,h1⟩
theorem goal_end {a:Int}{c:UInt8}{l:List UInt8}{i:Nat}{x n p e:Int}(hi:i < 10) (hc:(c.toNat:Int) < 128) (hb:endB (c.toNat:Int) (i:Int)=true) (h:Goal a (c :: l) i x n p e) :
  n=x+((128 ^ i * c.toNat:Nat):Int)∧p=a+i+1∧e=0:=by
 unfold Goal at h
 unfold endB at hb
 have hb:=of_decide_eq_true hb
 rw [tk_end hi (by omega) (by omega)] at h
 obtain⟨h1,h2,_⟩:=h
 have:=h2 rfl
 exact⟨this.1,this.2,h1⟩
theorem goal_more {a:Int}{c:UInt8}{l:List UInt8}{i:Nat}{x n p e:Int}(hi:i < 10) (hc:¬ (c.toNat:Int) < 128) (h:Goal a (c :: l) i x n p e) :
  Goal a l (i+1) (x+((128 ^ i * (c.toNat % 128):Nat):Int)) n p e:=by
 unfold Goal at h ⊢
 rw [tk_more hi (by omega)] at h
 dsimp only at h
 obtain⟨h1,h2,h3⟩:=h
 refine⟨h1,fun h0=>?_,h3⟩
 obtain⟨g1,g2⟩:=h2 h0
 refine⟨?_,by omega⟩
 rw [g1,Nat.mul_add,Nat.pow_succ,Nat.mul_assoc]
 omega
theorem or_group (x c i:Nat) (hx:x < 128 ^ i) (hc:c < 128) (hi:i < 9∨(i=9∧c=1)) :
  bits .or .u64 (x:Int) (IntKind.u64.wrap ((c:Int) * 2 ^ (7 * i)))=((x+128 ^ i * c:Nat):Int)∧x+128 ^ i * c < 18446744073709551616:=by
 have e128:128 ^ i=2 ^ (7 * i):=by rw [Nat.pow_mul]
 have hle:128 ^ i * c+128 ^ i≤18446744073709551616:=by
  rcases hi with h | ⟨h9,h1⟩
  ·have h8:128 ^ i≤128 ^ 8:=Nat.pow_le_pow_right (by omega) (by omega)
   have h7:128 ^ i * c≤128 ^ 8 * 127:=Nat.mul_le_mul h8 (by omega)
   have h6:128 ^ 8 * 127+128 ^ 8≤18446744073709551616:=by decide
   omega
  ·rw [h9,h1]; decide
 have hpos:0 < 128 ^ i:=Nat.pow_pos (by omega)
 have hcast:((c:Int) * 2 ^ (7 * i))=((c * 2 ^ (7 * i):Nat):Int):=by simp
 rw [e128] at hle hx hpos ⊢
 rw [Nat.mul_comm (2 ^ (7 * i)) c] at hle ⊢
 refine⟨?_,by omega⟩
 have hw:IntKind.u64.wrap ((c * 2 ^ (7 * i):Nat):Int)=((c * 2 ^ (7 * i):Nat):Int):=by rw [IntKind.wrap_u64]; omega
 rw [hcast,hw,or_above x c (7 * i) hx (by omega) (by omega)]
theorem ret3 {a b c d e f:Int}(h1:a=b) (h2:c=d) (h3:e=f):Ending.returned (.tuple #[.int .u64 a,zI c,zI e])=.returned (.tuple #[.int .u64 b,zI d,zI f]):=by rw [h1,h2,h3]
theorem take_in (s:ByteArray) (a:Nat) (hs:s.size≤1099511627776) (ha:a≤s.size) (n p e:Int) (hG:Goal a (s.data.toList.drop a) 0 0 n p e) (w:World) :
  Calls zG 132 #[.string s, zI a] w fun r w' => r = .returned (.tuple #[.int .u64 n, zI p, zI e]) ∧ w' = w := by
 have HG:Hid (Goal a (s.data.toList.drop a) 0 0 n p e):=hG
 clear hG
 have hd1:decide ((a:Int) < 0)=false:=decide_eq_false (by omega)
 have hd2:decide ((s.size:Int) < (a:Int))=false:=decide_eq_false (by omega)
 have hd3:decide (s.size < a)=false:=decide_eq_false (by omega)
 go_enter Tryz.func132,Tryz.ntmps132
 go_wp2_with fail
 go_loop [7,19] (fun t j=>∃ (i:Nat) (x:Int),i≤10∧a+i≤s.size∧0≤x∧x≤18446744073709551615∧Hid (i < 10→x.toNat < 128 ^ i)∧j=zI i∧t=.int .u64 x∧Hid (Goal a (s.data.toList.drop (a+i)) i x n p e)) (fun _ j=>10 - (intOf j).toNat)
 case atStart=>exact⟨0,0,by omega,by omega,by decide,by decide,fun _=>by decide,rfl,rfl,HG⟩
 case round =>
  obtain⟨i,x,hi,hai,hx0,hx1,hx2,rfl,rfl,HR⟩:=hrel
  by_cases h10:i < 10
  ·have h10':(i:Int) < 10:=by omega
   by_cases hend:a+i=s.size
   ·have hend':(a:Int)+(i:Int)=(s.size:Int):=by omega
    have HE:=HR.out
    rw [drop_end s _ (by omega)] at HE
    obtain⟨e1,e2,e3⟩:=goal_nil h10 HE
    have E1:Hid (n=0):=e1
    have E2:Hid (p=a):=e2
    have E3:Hid (e=30):=e3
    clear HE e1 e2 e3 hx2
    go_wp2_with fail
    go_ret3
    exact⟨ret3 E1.out.symm E2.out.symm E3.out.symm,rfl⟩
   ·have hend':¬ (a:Int)+(i:Int)=(s.size:Int):=by omega
    have hlt:a+i < s.size:=by omega
    obtain⟨X,hor⟩:∃ X,bits BinOp.or IntKind.u64 x (IntKind.u64.wrap (IntKind.u64.wrap (bits BinOp.and IntKind.u8 ((s[a+i].toNat:Nat):Int) 127) * 2 ^ (7 * i)))=X:=⟨_,rfl⟩
    have hX0:0≤X:=by rw [← hor]; exact bits_lo_u64 _ _ _
    have hX1:X≤18446744073709551615:=by rw [← hor]; exact bits_hi_u64 _ _ _
    have HX:Hid ((i < 9∨(i=9∧s[a+i].toNat % 128=1))→X=x+((128 ^ i * (s[a+i].toNat % 128):Nat):Int)∧(x.toNat+128 ^ i * (s[a+i].toNat % 128) < 18446744073709551616)):=by
     intro hh
     have hc:=s[a+i].toNat_lt
     have hg:=or_group x.toNat (s[a+i].toNat % 128) i (hx2.out h10) (by omega) hh
     rw [and127b _ (by omega) (by omega),show ((s[a+i].toNat:Nat):Int) % 128=((s[a+i].toNat % 128:Nat):Int) by omega,wr64 ((s[a+i].toNat % 128:Nat):Int) (by omega) (by omega),show x=((x.toNat:Nat):Int) by omega,hg.1] at hor
     refine⟨?_,hg.2⟩
     rw [← hor]
     omega
    have hc255:=s[a+i].toNat_lt
    have HD:=HR.out
    rw [drop_at s (a+i) hlt] at HD
    by_cases hc:((s[a+i].toNat:Nat):Int) < 128
    ·have hc':¬ 128≤((s[a+i].toNat:Nat):Int):=by omega
     cases hb:endB ((s[a+i].toNat:Nat):Int) (i:Int) with
     | false =>
      obtain⟨e1,e2,e3⟩:=goal_bad h10 hc hb HD
      have E1:Hid (n=0):=e1
      have E2:Hid (p=a):=e2
      have E3:Hid (e=31):=e3
      have HB:Hid (endB ((s[a+i].toNat:Nat):Int) (i:Int)=false):=hb
      clear e1 e2 e3 hb HD
      go_wp2_with (go_at_call 148; refine (mayEnd_any _ _ (by omega) (by omega) (by omega) (by omega) _).mono ?_; rw [HB.out]; rintro e w1 ⟨rfl,rfl⟩)
      go_ret3
      exact⟨ret3 E1.out.symm E2.out.symm E3.out.symm,rfl⟩
     | true =>
      obtain⟨e1,e2,e3⟩:=goal_end h10 hc hb HD
      have hbb:=of_decide_eq_true hb
      have E1:Hid (n=X):=by
       show _=_
       rw [e1]
       have:=HX.out (by omega)
       rw [show s[a+i].toNat % 128=s[a+i].toNat by omega] at this
       exact this.1.symm
      have E2:Hid (p=a+i+1):=e2
      have E3:Hid (e=0):=e3
      have HB:Hid (endB ((s[a+i].toNat:Nat):Int) (i:Int)=true):=hb
      clear e1 e2 e3 hb HD hbb
      go_wp2_with (go_at_call 148; refine (mayEnd_any _ _ (by omega) (by omega) (by omega) (by omega) _).mono ?_; rw [HB.out]; rintro e w1 ⟨rfl,rfl⟩)
      go_ret3
      exact⟨ret3 E1.out.symm E2.out.symm E3.out.symm,rfl⟩
    ·have hc':128≤((s[a+i].toNat:Nat):Int):=by omega
     have HM:=goal_more h10 hc HD
     have HN:Hid (Goal a (s.data.toList.drop (a+(i+1))) (i+1) X n p e∧(i+1 < 10→X.toNat < 128 ^ (i+1))):=by
      rw [← Nat.add_assoc]
      by_cases h9:i < 9
      ·have hx:=HX.out (.inl h9)
       rw [hx.1]
       refine⟨HM,fun _=>?_⟩
       have h1:=hx2.out h10
       have h2:128 ^ i * (s[a+i].toNat % 128)≤128 ^ i * 127:=Nat.mul_le_mul_left _ (by omega)
       rw [Nat.pow_succ]
       omega
      ·exact⟨goal_any (by omega) HM,fun h=>by omega⟩
     clear HD HM
     go_wp2_with fail
     go_round
     case rel=>exact⟨i+1,X,by omega,by omega,hX0,hX1,HN.out.2,by go_num,rfl,HN.out.1⟩
     case measure=>simp [intOf]; omega
  ·have h10':¬ (i:Int) < 10:=by omega
   obtain⟨e1,e2,e3⟩:=goal_ten h10 HR.out
   have E1:Hid (n=0):=e1
   have E2:Hid (p=a):=e2
   have E3:Hid (e=31):=e3
   clear e1 e2 e3 hx2
   go_wp2_with fail
   go_ret3
   exact⟨ret3 E1.out.symm E2.out.symm E3.out.symm,rfl⟩
theorem take_any (s:ByteArray) (a:Int) (hs:s.size≤1099511627776) (w:World) :
  Calls zG 132 #[.string s,zI a] w fun r w'=>r=.returned (.tuple #[.int .u64 (takeN s.data.toList a:Nat),zI (takeP s.data.toList a),zI (takeE s.data.toList a:Nat)])∧w'=w:=by
 have hl:=len_of s
 by_cases h0:a < 0
 ·have hE:takeE s.data.toList a=1:=takeE_arg (.inl h0)
  rw [hE,takeN_no (by rw [hE]; decide),JJ (by rw [hE]; decide)]
  go_enter Tryz.func132,Tryz.ntmps132
  go_wp2_with fail
  go_ret3
  exact⟨rfl,rfl⟩
 ·by_cases h1:(s.size:Int) < a
  ·have hE:takeE s.data.toList a=1:=takeE_arg (.inr (by rw [hl]; exact h1))
   rw [hE,takeN_no (by rw [hE]; decide),JJ (by rw [hE]; decide)]
   go_enter Tryz.func132,Tryz.ntmps132
   go_wp2_with fail
   go_ret3
   exact⟨rfl,rfl⟩
  ·obtain⟨k,rfl⟩:=Int.eq_ofNat_of_zero_le (show 0≤a by omega)
   have hG:=goal_start s.data.toList k (by omega) (by omega)
   rw [Int.toNat_natCast] at hG
   exact take_in s k hs (by omega) _ _ _ hG w
end W
namespace W
set_option maxRecDepth 100000
set_option maxHeartbeats 1000000
open Go.RowKit
theorem rtake_in (s:ByteArray) (a:Nat) (hs:s.size≤1099511627776) (ha:a≤s.size) (n p e:Int) (hG:Goal a (s.data.toList.drop a) 0 0 n p e) (w:World) :
  Calls zG 86 #[.string s, zI a] w fun r w' => r = .returned (.tuple #[.int .u64 n, zI p, zI e]) ∧ w' = w := by
 have HG:Hid (Goal a (s.data.toList.drop a) 0 0 n p e):=hG
 clear hG
 have hd1:decide ((a:Int) < 0)=false:=decide_eq_false (by omega)
 have hd2:decide ((s.size:Int) < (a:Int))=false:=decide_eq_false (by omega)
 have hd3:decide (s.size < a)=false:=decide_eq_false (by omega)
 go_enter Tryz.func86,Tryz.ntmps86
 go_wp2_with fail
 go_loop [7,8,9] (fun t u j=>∃ (i:Nat) (x S:Int),i≤9∧a+i≤s.size∧0≤x∧0≤S∧x < S∧S≤9223372036854775808∧Hid (S=((128 ^ i:Nat):Int))∧j=zI i∧t=.int .u64 x∧u=.int .u64 S∧Hid (Goal a (s.data.toList.drop (a+i)) i x n p e)) (fun _ _ j=>10 - (intOf j).toNat)
 case atStart=>exact⟨0,0,1,by omega,by omega,by decide,by decide,by decide,by decide,rfl,rfl,rfl,rfl,HG⟩
 case round =>
  obtain⟨i,x,S,hi,hai,hx0,hS0,hx1,hS1,HS,rfl,rfl,rfl,HR⟩:=hrel
  have h10:(i:Int) < 10:=by omega
  by_cases hend:a+i=s.size
  ·have hend':(a:Int)+(i:Int)=(s.size:Int):=by omega
   have HE:=HR.out
   rw [drop_end s _ (by omega)] at HE
   obtain⟨e1,e2,e3⟩:=goal_nil (by omega) HE
   have E1:Hid (n=0):=e1
   have E2:Hid (p=a):=e2
   have E3:Hid (e=30):=e3
   clear HE e1 e2 e3
   go_wp2_with fail
   go_ret3
   exact⟨ret3 E1.out.symm E2.out.symm E3.out.symm,rfl⟩
  ·have hend':¬ (a:Int)+(i:Int)=(s.size:Int):=by omega
   have hlt:a+i < s.size:=by omega
   obtain⟨c,Ec⟩:∃ c:Int,Hid (((s[a+i].toNat:Nat):Int)=c):=⟨((s[a+i].toNat:Nat):Int),(rfl:((s[a+i].toNat:Nat):Int)=_)⟩
   have hc255:=s[a+i].toNat_lt
   have ec:IntKind.u64.wrap ((s[a+i].toNat:Nat):Int)=c:=by rw [IntKind.wrap_u64,← Ec.out]; omega
   have hc0:0≤c:=by rw [← Ec.out]; omega
   have hc1:c≤255:=by rw [← Ec.out]; omega
   obtain⟨m,em⟩:∃ m:Int,c % 128=m:=⟨_,rfl⟩
   have em2:c.tmod 128=m:=by rw [Int.tmod_eq_emod_of_nonneg hc0,em]
   obtain⟨M,eM⟩:∃ M:Int,IntKind.u64.wrap (m * S)=M:=⟨_,rfl⟩
   obtain⟨Y,eY⟩:∃ Y:Int,IntKind.u64.wrap (x+M)=Y:=⟨_,rfl⟩
   obtain⟨S2,eS⟩:∃ S2:Int,IntKind.u64.wrap (S * 128)=S2:=⟨_,rfl⟩
   have HY:Hid ((i < 9∨(i=9∧s[a+i].toNat % 128=1))→Y=x+((128 ^ i * (s[a+i].toNat % 128):Nat):Int)):=by
    intro hh
    have hg:=or_group x.toNat (s[a+i].toNat % 128) i (by have:=HS.out; omega) (by omega) hh
    have hSm:m * S=((128 ^ i * (s[a+i].toNat % 128):Nat):Int):=by
     rw [HS.out,← em,← Ec.out,Nat.mul_comm]
     simp
    rw [← eY,← eM,hSm]
    rw [IntKind.wrap_u64,IntKind.wrap_u64]
    omega
   have HD:=HR.out
   rw [drop_at s (a+i) hlt] at HD
   by_cases h9:i=9
   ·have h9':((i:Int) == 9)=true:=by simp; omega
    by_cases hc:c=1
    ·have hb1:(c == 1)=true:=by simp [hc]
     have hb2:(c != 1)=false:=by simp [hc]
     have hb3:(c == 0)=false:=by simp [hc]
     have hb4:c < 128:=by omega
     obtain⟨e1,e2,e3⟩:=goal_end (by omega) (by rw [Ec.out]; omega) (by rw [Ec.out]; unfold endB; exact decide_eq_true (by omega)) HD
     have E1:Hid (n=Y):=by
      show _=_
      have h1:s[a+i].toNat=1:=by have:=Ec.out; omega
      have:=HY.out (.inr ⟨h9,by omega⟩)
      rw [show s[a+i].toNat % 128=s[a+i].toNat by omega] at this
      rw [e1,this]
     have E2:Hid (p=a+i+1):=e2
     have E3:Hid (e=0):=e3
     clear e1 e2 e3 HD hc h9
     go_wp2_with fail
     go_ret3
     exact⟨ret3 E1.out.symm E2.out.symm E3.out.symm,rfl⟩
    ·have hb1:(c == 1)=false:=by simp [hc]
     have hb2:(c != 1)=true:=by simp [hc]
     have HL:Hid (n=0∧p=a∧e=31):=by
      by_cases h128:c < 128
      ·exact goal_bad (by omega) (by rw [Ec.out]; omega) (by rw [Ec.out]; unfold endB; exact decide_eq_false (by omega)) HD
      ·exact goal_ten (by omega) (goal_more (by omega) (by rw [Ec.out]; omega) HD)
     clear HD hc h9
     go_wp2_with fail
     go_ret3
     exact⟨ret3 HL.out.1.symm HL.out.2.1.symm HL.out.2.2.symm,rfl⟩
   ·have h9':((i:Int) == 9)=false:=by simp; omega
    by_cases hc:c < 128
    ·by_cases hbad:c=0∧0 < i
     ·have hb3:(c == 0)=true:=by simp [hbad.1]
      have hb5:(0:Int) < (i:Int):=by omega
      have HL:Hid (n=0∧p=a∧e=31):=goal_bad (by omega) (by rw [Ec.out]; omega) (by rw [Ec.out]; unfold endB; exact decide_eq_false (by omega)) HD
      clear HD h9 hbad
      go_wp2_with fail
      go_ret3
      exact⟨ret3 HL.out.1.symm HL.out.2.1.symm HL.out.2.2.symm,rfl⟩
     ·obtain⟨e1,e2,e3⟩:=goal_end (by omega) (by rw [Ec.out]; omega) (by rw [Ec.out]; unfold endB; exact decide_eq_true (by omega)) HD
      have E1:Hid (n=Y):=by
       show _=_
       have:=HY.out (.inl (by omega))
       have h1:=Ec.out
       rw [show s[a+i].toNat % 128=s[a+i].toNat by omega] at this
       rw [e1,this]
      have E2:Hid (p=a+i+1):=e2
      have E3:Hid (e=0):=e3
      by_cases h0:c=0
      ·have hb3:(c == 0)=true:=by simp [h0]
       have hb5:¬ (0:Int) < (i:Int):=by omega
       have hb6:decide ((0:Int) < (i:Int))=false:=decide_eq_false hb5
       clear e1 e2 e3 HD h9 hbad h0
       go_wp2_with fail
       go_ret3
       exact⟨ret3 E1.out.symm E2.out.symm E3.out.symm,rfl⟩
      ·have hb3:(c == 0)=false:=by simp [h0]
       clear e1 e2 e3 HD h9 hbad h0
       go_wp2_with fail
       go_ret3
       exact⟨ret3 E1.out.symm E2.out.symm E3.out.symm,rfl⟩
    ·have hc':¬ c < 128:=hc
     have hc'':decide (c < 128)=false:=decide_eq_false hc
     have HM:=goal_more (by omega) (by rw [Ec.out]; omega) HD
     have hy:=HY.out (.inl (by omega))
     have hpow:(128 ^ (i+1):Nat)=128 ^ i * 128:=Nat.pow_succ _ _
     have hS8:S≤72057594037927936:=by
      rw [HS.out]
      have h8:128 ^ i≤128 ^ 8:=Nat.pow_le_pow_right (by omega) (by omega)
      have h7:128 ^ 8=72057594037927936:=by decide
      omega
     have hS2:S2=S * 128:=by rw [← eS,IntKind.wrap_u64]; omega
     have hSn:=HS.out
     have hY1:0≤Y:=by rw [hy]; omega
     have hY2:Y < S2:=by
      have h2:128 ^ i * (s[a+i].toNat % 128)≤128 ^ i * 127:=Nat.mul_le_mul_left _ (by omega)
      rw [hy,hS2]
      omega
     have hS3:S2≤9223372036854775808:=by omega
     have hS4:0≤S2:=by omega
     have HS2:Hid (S2=((128 ^ (i+1):Nat):Int)):=by show _=_; rw [hpow,hS2]; omega
     have HN:Hid (Goal a (s.data.toList.drop (a+(i+1))) (i+1) Y n p e):=by show Goal _ _ _ _ _ _ _; rw [← Nat.add_assoc,hy]; exact HM
     have hi9:i+1≤9:=by omega
     clear HD HM h9 hc hS2 hSn hpow hy
     go_wp2_with fail
     go_round
     case rel=>exact⟨i+1,Y,S2,hi9,by omega,hY1,hS4,hY2,hS3,HS2,by go_num,rfl,rfl,HN⟩
     case measure=>simp [intOf]; omega
theorem rtake_any (s:ByteArray) (a:Int) (hs:s.size≤1099511627776) (w:World) :
  Calls zG 86 #[.string s,zI a] w fun r w'=>r=.returned (.tuple #[.int .u64 (takeN s.data.toList a:Nat),zI (takeP s.data.toList a),zI (takeE s.data.toList a:Nat)])∧w'=w:=by
 have hl:=len_of s
 by_cases h0:a < 0
 ·have hE:takeE s.data.toList a=1:=takeE_arg (.inl h0)
  rw [hE,takeN_no (by rw [hE]; decide),JJ (by rw [hE]; decide)]
  go_enter Tryz.func86,Tryz.ntmps86
  go_wp2_with fail
  go_ret3
  exact⟨rfl,rfl⟩
 ·by_cases h1:(s.size:Int) < a
  ·have hE:takeE s.data.toList a=1:=takeE_arg (.inr (by rw [hl]; exact h1))
   rw [hE,takeN_no (by rw [hE]; decide),JJ (by rw [hE]; decide)]
   go_enter Tryz.func86,Tryz.ntmps86
   go_wp2_with fail
   go_ret3
   exact⟨rfl,rfl⟩
  ·obtain⟨k,rfl⟩:=Int.eq_ofNat_of_zero_le (show 0≤a by omega)
   have hG:=goal_start s.data.toList k (by omega) (by omega)
   rw [Int.toNat_natCast] at hG
   exact rtake_in s k hs (by omega) _ _ _ hG w
end W
open Go.RowKit
set_option linter.unusedVariables false
def B8 (i:Int):Prop:=0≤i∧i≤255
def U16 (i:Int):Prop:=0≤i∧i≤65535
def I64 (i:Int):Prop:=-9223372036854775808≤i∧i≤9223372036854775807
def SzX (x:ByteArray):Prop:=x.size≤140737488355328
def SlAt (w:World) (n:Nat) (a:Option Addr) (c:Nat) (vs:List (Array Value)):Prop :=
 vs.length≤c∧c≤9223372036854775807∧∀ i (hi:i < vs.length),∃ b o,a=some ⟨b,o,none⟩∧∀ j,j < n→w.cell? ⟨b,o+i * n+j,none⟩=vs[i][j]?
structure Sp where
 f:Int
 t:Int
structure RowM where
 k:Int
 o:Int
 i:Int
 sd:Sp
 qt:Sp
 pr:Sp
 vl:Sp
structure GdM where
 wh:Sp
 fd:Int
 rg:Int
 a:Option Addr
 c:Nat
 rs:List RowM
structure StM where
 a:Option Addr
 c:Nat
 gs:List GdM
structure InM where
 k:Int
 a:Int
structure TbM where
 x:ByteArray
 ra:Option Addr
 rc:Nat
 rs:List Int
 sl:Int
 ca:Option Addr
 cc:Nat
 cs:List Int
 da:Option Addr
 dc:Nat
 ds:List InM
 ta:Option Addr
 tc:Nat
 ts:List StM
def QF (n:Int):Array Value:=#[zI n]
def Sp.vals (x:Sp):Array Value:=#[zI x.f,zI x.t]
def RowM.vals (r:RowM):Array Value:=#[zU r.k,zU r.o,zI r.i,zI r.sd.f,zI r.sd.t,zI r.qt.f,zI r.qt.t,zI r.pr.f,zI r.pr.t,zI r.vl.f,zI r.vl.t]
def GdM.vals (g:GdM):Array Value:=#[zI g.wh.f,zI g.wh.t,.int .u16 g.fd,.int .u16 g.rg,.slice g.a g.rs.length g.c]
def StM.vals (s:StM):Array Value:=#[.slice s.a s.gs.length s.c]
def InM.vals (x:InM):Array Value:=#[zU x.k,zI x.a]
def TbM.vals (t:TbM):Array Value:=#[.string t.x,.slice t.ra t.rs.length t.rc,zI t.sl,.slice t.ca t.cs.length t.cc,.slice t.da t.ds.length t.dc,.slice t.ta t.ts.length t.tc]
def SpI (x:Sp):Prop:=I64 x.f∧I64 x.t
def RowI (r:RowM):Prop:=B8 r.k∧B8 r.o∧I64 r.i∧SpI r.sd∧SpI r.qt∧SpI r.pr∧SpI r.vl
def GdL (w:World) (g:GdM):Prop:=SpI g.wh∧U16 g.fd∧U16 g.rg∧SlAt w 11 g.a g.c (g.rs.map RowM.vals)∧∀ r ∈ g.rs,RowI r
def StL (w:World) (s:StM):Prop:=SlAt w 5 s.a s.c (s.gs.map GdM.vals)∧∀ g ∈ s.gs,GdL w g
structure TbL (w:World) (t:TbM):Prop where
 R:SlAt w 1 t.ra t.rc (t.rs.map QF)
 Ri:∀ n ∈ t.rs,I64 n
 S:I64 t.sl
 C:SlAt w 1 t.ca t.cc (t.cs.map QF)
 Ci:∀ n ∈ t.cs,I64 n
 D:SlAt w 2 t.da t.dc (t.ds.map InM.vals)
 Di:∀ d ∈ t.ds,B8 d.k∧I64 d.a
 T:SlAt w 1 t.ta t.tc (t.ts.map StM.vals)
 Ti:∀ s ∈ t.ts,StL w s
 X:SzX t.x
theorem SlAt.on {w w':World}{n:Nat}{a:Option Addr}{c:Nat}{vs:List (Array Value)}(h:SlAt w n a c vs) (hz:∀ x ∈ vs,n≤x.size) (k:Below w§ w w'):SlAt w' n a c vs:=by
 refine⟨h.1,h.2.1,fun i hi=>?_⟩
 obtain⟨b,o,h1,h2⟩:=h.2.2 i hi
 refine⟨b,o,h1,fun j hj=>?_⟩
 have hs:=hz _ (List.getElem_mem hi)
 have h3:=h2 j hj
 rw [Array.getElem?_eq_getElem (by omega)] at h3
 rw [World.cell?_of_block (k.block b (World.block_lt_of_cell? w _ h3))]
 rw [h3,Array.getElem?_eq_getElem (by omega)]
theorem mapz {α:Type}{f:α→Array Value}{n:Nat}(hf:∀ a,(f a).size=n) (l:List α):∀ x ∈ l.map f,n≤x.size:=by
 intro x hx
 obtain⟨a,_,rfl⟩:=List.mem_map.1 hx
 rw [hf a]
 exact Nat.le_refl _
theorem Q9 (n:Int):(QF n).size=1:=rfl
theorem Sp.sz (x:Sp):x.vals.size=2:=rfl
theorem RowM.sz (x:RowM):x.vals.size=11:=rfl
theorem GdM.sz (x:GdM):x.vals.size=5:=rfl
theorem StM.sz (x:StM):x.vals.size=1:=rfl
theorem InM.sz (x:InM):x.vals.size=2:=rfl
theorem TbM.sz (x:TbM):x.vals.size=6:=rfl
theorem GdL.on {w w':World}{g:GdM}(h:GdL w g) (k:Below w§ w w'):GdL w' g:=⟨h.1,h.2.1,h.2.2.1,h.2.2.2.1.on (mapz RowM.sz _) k,h.2.2.2.2⟩
theorem StL.on {w w':World}{g:StM}(h:StL w g) (k:Below w§ w w'):StL w' g:=⟨h.1.on (mapz GdM.sz _) k,fun x hx=>(h.2 x hx).on k⟩
theorem TbL.on {w w':World}{t:TbM}(h:TbL w t) (k:Below w§ w w'):TbL w' t :=
 ⟨h.R.on (mapz Q9 _) k,h.Ri,h.S,h.C.on (mapz Q9 _) k,h.Ci,h.D.on (mapz InM.sz _) k,h.Di,h.T.on (mapz StM.sz _) k,fun x hx=>(h.Ti x hx).on k,h.X⟩
theorem Qa {w w1 w2:World}(h1:Below w§ w w1) (h2:Below w1§ w1 w2):Below w§ w w2:=h1.trans (h2.mono h1.size)
theorem Mv.ofBelow {w w':World}{F:Nat→Prop}(h:Below w§ w w'):Mv w w' F:=⟨h.os,h.tape,h.output,h.size,fun k hk _=>h.block k hk⟩
theorem Qz {w w1:World}(h1:Below w§ w w1) (n:Nat):Below w§ w (w1.drewN n):=h1.trans ⟨rfl,rfl,rfl,Nat.le_refl _,fun _ _=>rfl⟩
theorem Qc {w V:World}(h:Below w§ w V) {R:Nat}(hR:w§≤R) (cs:Array Value):Below w§ w (V.setRow R cs):=by
 have m:Mv w V (fun _=>False):=Mv.ofBelow h
 have hsz:(V.setRow R cs)§=V§:=by unfold World.setRow; simp
 have m2:Mv w (V.setRow R cs) (fun _=>False):=⟨m.os,m.tape,m.output,by rw [hsz]; exact m.size,fun k hk hn'=>by
  rw [setRow_other _ _ _ _ (show k≠R by omega)]
  exact m.block k hk hn'⟩
 exact m2.below (Nat.le_refl _) (fun _ e=>e.elim)
theorem Qt:(Tryz.prog.info? 65).map (·.size)=some 2:=by kernel_rfl
theorem Qi:(Tryz.prog.info? 85).map (·.size)=some 11:=by kernel_rfl
theorem QD:(Tryz.prog.info? 68).map (·.size)=some 5:=by kernel_rfl
theorem Jq:(Tryz.prog.info? 61).map (·.size)=some 2:=by kernel_rfl
theorem Qe:(Tryz.prog.info? 26).map (·.size)=some 6:=by kernel_rfl
theorem JF (r:Sp):r.vals.all (·.oneCell')=true:=by simp [Sp.vals,Value.oneCell']
theorem QQ (r:RowM):r.vals.all (·.oneCell')=true:=by simp [RowM.vals,Value.oneCell']
theorem allGd (r:GdM):r.vals.all (·.oneCell')=true:=by simp [GdM.vals,Value.oneCell']
theorem allIn (r:InM):r.vals.all (·.oneCell')=true:=by simp [InM.vals,Value.oneCell']
theorem JN (r:TbM):r.vals.all (·.oneCell')=true:=by simp [TbM.vals,Value.oneCell']
-- ---------- plain
def Qb (l n m:Int):Bool:=decide (l≤n) && decide (n≤m)
def endsB (k:Int):Bool:=k == 5 || k == 6
def Sp.len (x:Sp):Int:=x.t - x.f
def Jl (r:RowM):Bool:=if r.k == 1 then decide (1≤r.o) && decide (r.o≤5) else r.o == 0
def idxN (sl:Int) (nr ns:Nat) (k:Int):Int × Int :=
 if k == 1 then (0,sl) else if k == 2 then (1,sl) else if k == 3 then (1,sl) else if k == 4 then (0,(nr:Int) - 1) else if k == 5 then (0,(ns:Int) - 1) else if k == 6 then (0,0) else (0,-1)
structure P4 where
 a:Bool
 b:Bool
 c:Bool
 d:Bool
def P4.vals (p:P4):Array Value:=#[.bool p.a,.bool p.b,.bool p.c,.bool p.d]
def Qn (k o:Int):P4:=if k == 1 then ⟨true,true,o != 2,false⟩ else if k == 2 then ⟨false,true,true,false⟩ else if k == 4 then ⟨false,false,false,true⟩ else ⟨false,false,false,false⟩
def spV (r:RowM):Array Value:=#[zI r.sd.f,zI r.sd.t,zI r.qt.f,zI r.qt.t,zI r.pr.f,zI r.pr.t,zI r.vl.f,zI r.vl.t]
def Q0 (t:TbM):Bool:=decide ((t.rs.length:Int)≤12) && Qb 0 t.sl 4 && decide ((t.cs.length:Int)≤1024) && decide ((t.ds.length:Int)≤4096) && Qb 1 t.ts.length 12
end Go.Proofs.YteedmmljahgpjaaGreatDoor
