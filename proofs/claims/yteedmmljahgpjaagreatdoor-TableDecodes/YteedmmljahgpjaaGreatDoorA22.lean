import Derived.Test.YteedmmljahgpjaaGreatDoorA0
import Derived.Test.YteedmmljahgpjaaGreatDoorA3
import Derived.Deep.Slices
import Derived.ProofKit
import Derived.OpenShut
import Derived.ChangeArms
import Derived.SizedLaws
import Derived.Test.YteedmmljahgpjaaGreatDoorA21
namespace Go.Proofs.YteedmmljahgpjaaGreatDoor
set_option maxRecDepth 100000
set_option maxHeartbeats 4000000
open Go.RowKit
set_option linter.unusedVariables false
set_option linter.unusedSimpArgs false
theorem J9 {w V:World}{a b:Array Value}{ta tb:TypeId}(e:(w.alloc (.cells a ta)).alloc (.cells b tb)=V):V.heap[w§]? = some (.cells a ta (0,0))∧V.heap[w§+1]? = some (.cells b tb (0,0))∧Below w§ w V∧V§=w§+2:=by
 subst e
 refine⟨by rw [JZ,if_neg (by rw [Sa]; omega)]; exact Hn _ _,by rw [← Sa w (.cells a ta)]; exact Hn _ _,Qa (Bn _ _) (Bn _ _),by rw [Sa,Sa]⟩
def idxB (t:TbM) (r:RowM):Bool:=Qb (idxN t.sl t.rs.length t.ts.length r.k).1 r.i (idxN t.sl t.rs.length t.ts.length r.k).2
theorem rindex_any (t : TbM) (r : RowM) (w : World) : Calls zG 131 #[.agg t.vals, .agg r.vals] w fun e w' => e = .returned (.bool (idxB t r)) ∧ Below w§ w w' := by
 obtain ⟨W2, e2⟩ : ∃ W, (w.alloc (.cells t.vals 26)).alloc (.cells r.vals 85) = W := ⟨_, rfl⟩
 have E2 : Hid ((w.alloc (.cells t.vals 26)).alloc (.cells r.vals 85) = W2) := e2
 obtain ⟨hn1, hn2, hb2, hs2⟩ := J9 e2
 have HB2 : Hid (Below w§ w W2) := hb2
 have HN1 : Hid (W2.heap[w§]? = some (.cells t.vals 26 (0, 0))) := hn1
 have HN2 : Hid (W2.heap[w§ + 1]? = some (.cells r.vals 85 (0, 0))) := hn2
 clear e2
 have c1 : W2.cell? ⟨w§, 1, none⟩ = some (.slice t.ra t.rs.length t.rc) := Co hn1 1
 have c2 : W2.cell? ⟨w§, 2, none⟩ = some (zI t.sl) := Co hn1 2
 have c5 : W2.cell? ⟨w§, 5, none⟩ = some (.slice t.ta t.ts.length t.tc) := Co hn1 5
 have k0 : W2.cell? ⟨w§ + 1, 0, none⟩ = some (zU r.k) := Co hn2 0
 have k2 : W2.cell? ⟨w§ + 1, 2, none⟩ = some (zI r.i) := Co hn2 2
 clear hn1 hn2 hb2 hs2 HN1 HN2
 go_enter Tryz.func131, Tryz.ntmps131
 go_upto_region 1 with fail
 rw [E2.out]
 clear E2
 generalize w§ + 1 = B1 at *
 cases h1 : (r.k == 1) with
 | true =>
  by_cases hA : r.i ≥ 0
  ·by_cases hC : r.i ≤ t.sl
   ·have hC' := hC
    go_wp2_with fail
    go_ret
    exact ⟨retB (by first | (simp [idxB, idxN, Qb, *]; done) | (simp [idxB, idxN, Qb, *] <;> omega)), HB2.out⟩
   ·have hC' := hC
    go_wp2_with fail
    go_ret
    exact ⟨retB (by first | (simp [idxB, idxN, Qb, *]; done) | (simp [idxB, idxN, Qb, *] <;> omega)), HB2.out⟩
  ·have hA' := hA
   go_wp2_with fail
   go_ret
   exact ⟨retB (by first | (simp [idxB, idxN, Qb, *]; done) | (simp [idxB, idxN, Qb, *] <;> omega)), HB2.out⟩
 | false =>
  cases h2 : (r.k == 2) with
  | true =>
   by_cases hA : r.i ≥ 1
   ·by_cases hC : r.i ≤ t.sl
    ·have hC' := hC
     go_wp2_with fail
     go_ret
     exact ⟨retB (by first | (simp [idxB, idxN, Qb, *]; done) | (simp [idxB, idxN, Qb, *] <;> omega)), HB2.out⟩
    ·have hC' := hC
     go_wp2_with fail
     go_ret
     exact ⟨retB (by first | (simp [idxB, idxN, Qb, *]; done) | (simp [idxB, idxN, Qb, *] <;> omega)), HB2.out⟩
   ·have hA' := hA
    go_wp2_with fail
    go_ret
    exact ⟨retB (by first | (simp [idxB, idxN, Qb, *]; done) | (simp [idxB, idxN, Qb, *] <;> omega)), HB2.out⟩
  | false =>
   cases h3 : (r.k == 3) with
   | true =>
    by_cases hA : r.i ≥ 1
    ·by_cases hC : r.i ≤ t.sl
     ·have hC' := hC
      go_wp2_with fail
      go_ret
      exact ⟨retB (by first | (simp [idxB, idxN, Qb, *]; done) | (simp [idxB, idxN, Qb, *] <;> omega)), HB2.out⟩
     ·have hC' := hC
      go_wp2_with fail
      go_ret
      exact ⟨retB (by first | (simp [idxB, idxN, Qb, *]; done) | (simp [idxB, idxN, Qb, *] <;> omega)), HB2.out⟩
    ·have hA' := hA
     go_wp2_with fail
     go_ret
     exact ⟨retB (by first | (simp [idxB, idxN, Qb, *]; done) | (simp [idxB, idxN, Qb, *] <;> omega)), HB2.out⟩
   | false =>
    cases h4 : (r.k == 4) with
    | true =>
     by_cases hA : r.i ≥ 0
     ·by_cases hC : r.i < (t.rs.length : Int)
      ·have hC' := hC
       go_wp2_with fail
       go_ret
       exact ⟨retB (by first | (simp [idxB, idxN, Qb, *]; done) | (simp [idxB, idxN, Qb, *] <;> omega)), HB2.out⟩
      ·have hC' := hC
       go_wp2_with fail
       go_ret
       exact ⟨retB (by first | (simp [idxB, idxN, Qb, *]; done) | (simp [idxB, idxN, Qb, *] <;> omega)), HB2.out⟩
     ·have hA' := hA
      go_wp2_with fail
      go_ret
      exact ⟨retB (by first | (simp [idxB, idxN, Qb, *]; done) | (simp [idxB, idxN, Qb, *] <;> omega)), HB2.out⟩
    | false =>
     cases h5 : (r.k == 5) with
     | true =>
      by_cases hA : r.i ≥ 0
      ·by_cases hC : r.i < (t.ts.length : Int)
       ·have hC' := hC
        go_wp2_with fail
        go_ret
        exact ⟨retB (by first | (simp [idxB, idxN, Qb, *]; done) | (simp [idxB, idxN, Qb, *] <;> omega)), HB2.out⟩
       ·have hC' := hC
        go_wp2_with fail
        go_ret
        exact ⟨retB (by first | (simp [idxB, idxN, Qb, *]; done) | (simp [idxB, idxN, Qb, *] <;> omega)), HB2.out⟩
      ·have hA' := hA
       go_wp2_with fail
       go_ret
       exact ⟨retB (by first | (simp [idxB, idxN, Qb, *]; done) | (simp [idxB, idxN, Qb, *] <;> omega)), HB2.out⟩
     | false =>
      cases h6 : (r.k == 6) with
      | true =>
       cases h7 : (r.i == 0) with
       | true =>
        go_wp2_with fail
        go_ret
        exact ⟨retB (by simp [idxB, idxN, Qb, *]; have : r.i = 0 := (by simpa using h7); omega), HB2.out⟩
       | false =>
        go_wp2_with fail
        go_ret
        exact ⟨retB (by simp [idxB, idxN, Qb, *]; have : ¬ r.i = 0 := (by simpa using h7); omega), HB2.out⟩
      | false =>
       go_wp2_with fail
       go_ret
       exact ⟨retB (by simp [idxB, idxN, Qb, *]; omega), HB2.out⟩
theorem JK (r:RowM) (w:World):Calls zG 70 #[.agg r.vals] w fun e w'=>∃ B,e=.returned (.slice (some ⟨B,0,none⟩) 4 4)∧w'.heap[B]? = some (.cells (Qn r.k r.o).vals 4 (0,0))∧w§≤B∧Below w§ w w':=by
 have hb1:=Bn w (.cells r.vals 85)
 have hn1:=Hn w (.cells r.vals 85)
 have hs1:=Sa w (.cells r.vals 85)
 obtain⟨W1,e1⟩:∃ W,w.alloc (.cells r.vals 85)=W:=⟨_,rfl⟩
 have E1:=zH e1
 rw [e1] at hb1 hn1 hs1
 have HB1:=zH hb1
 have HS1:Hid (w§≤W1§):=by show _≤_; omega
 have k0:W1.cell? ⟨w§,0,none⟩=some (zU r.k):=Co hn1 0
 have k1:W1.cell? ⟨w§,1,none⟩=some (zU r.o):=Co hn1 1
 clear hn1 hb1 hs1 e1
 go_enter Tryz.func70,Tryz.ntmps70
 go_upto_region 1 with fail
 rw [E1.out]
 clear E1
 cases h1:(r.k == 1) with
 | true =>
  have h2:(r.k == 2)=false:=by have:r.k=1:=(by simpa using h1); rw [this]; rfl
  have h4:(r.k == 4)=false:=by have:r.k=1:=(by simpa using h1); rw [this]; rfl
  cases h7:(r.o != 2) with
  | true =>
   go_wp2_with fail
   go_ret
   exact ⟨W1§, rfl, (Hn _ _).trans (by simp [Qn, P4.vals, *]), HS1.out, Qa HB1.out (Bn _ _)⟩
  | false =>
   go_wp2_with fail
   go_ret
   exact ⟨W1§, rfl, (Hn _ _).trans (by simp [Qn, P4.vals, *]), HS1.out, Qa HB1.out (Bn _ _)⟩
 | false =>
  cases h2:(r.k == 2) with
  | true =>
   have h4:(r.k == 4)=false:=by have:r.k=2:=(by simpa using h2); rw [this]; rfl
   go_wp2_with fail
   go_ret
   exact ⟨W1§, rfl, (Hn _ _).trans (by simp [Qn, P4.vals, *]), HS1.out, Qa HB1.out (Bn _ _)⟩
  | false =>
   cases h4:(r.k == 4) with
   | true =>
    go_wp2_with fail
    go_ret
    exact ⟨W1§, rfl, (Hn _ _).trans (by simp [Qn, P4.vals, *]), HS1.out, Qa HB1.out (Bn _ _)⟩
   | false =>
    go_wp2_with fail
    go_ret
    exact ⟨W1§, rfl, (Hn _ _).trans (by simp [Qn, P4.vals, *]), HS1.out, Qa HB1.out (Bn _ _)⟩
def lsW (B:Nat):TbM:={ lsT B with ds:=[⟨3,1⟩,⟨6,4⟩,⟨1,0⟩,⟨5,6⟩] }
def lsK (B:Nat):TbM:={ lsT B with ts:=[⟨some ⟨B+5,0,none⟩,1,[{ lsG B with fd:=0 }]⟩] }
theorem ls_check (B:Nat):Qp (lsT B)=0:=by kernel_rfl
theorem lw_check (B:Nat):Qp (lsW B)=192:=by kernel_rfl
theorem lk_check (B:Nat):Qp (lsK B)=193:=by kernel_rfl
theorem ls_encE (B:Nat):encE (lsT B)=0:=by kernel_rfl
theorem ls_size (B:Nat):(encS (lsT B)).size=27:=by kernel_rfl
theorem ls_bound (B:Nat):boundN (lsT B)=(4,0):=by kernel_rfl
theorem ls_reads (B:Nat):Ql (lsT B).ds ⟨0,9⟩=(2,0):=by kernel_rfl
def lsP:TbP:=⟨⟨#[115]⟩,[],0,[1],[⟨3,1⟩,⟨6,4⟩,⟨1,0⟩,⟨5,2⟩],[[⟨⟨0,4⟩,2,0,[lsR]⟩]]⟩
theorem ls_un (B:Nat):unR (encS (lsT B))=some lsP:=by kernel_rfl
theorem is_ls {t:TbM}(h:Is lsP t):Qp t=0∧∀ C,JU t (lsT C):=by
 obtain⟨x,ra,rc,rs,sl,ca,cc,cs,da,dc,ds,ta,tc,ts⟩:=t
 obtain⟨h1,h2,h3,h4,h5,h6⟩:=h
 simp only at h1 h2 h3 h4 h5 h6
 subst h1 h2 h3 h4 h5
 match ts,h6 with
 | [⟨a,c,[⟨wh,fd,rg,a1,c1,rs1⟩]⟩],h6 =>
  simp only [List.map_cons,List.map_nil,lsP,plG,List.cons.injEq,GdP.mk.injEq,and_true] at h6
  obtain⟨rfl,rfl,rfl,rfl⟩:=h6
  refine⟨by kernel_rfl,fun C=>⟨rfl,rfl,rfl,rfl,rfl,rfl,fun i h1 h2 h3=>?_⟩⟩
  obtain rfl:i=0:=by simp at h3; omega
  refine⟨rfl,fun j h3 h4=>?_⟩
  obtain rfl:j=0:=by simp at h3; omega
  exact⟨rfl,rfl,rfl,rfl,rfl⟩
 | [],h6=>simp [lsP] at h6
 | ⟨a,c,[]⟩ :: l,h6=>simp [lsP] at h6
 | ⟨a,c,g1 :: g2 :: l2⟩ :: l,h6=>simp [lsP] at h6
 | s1 :: s2 :: l,h6=>simp [lsP] at h6
theorem decode_z {Z:ByteArray}(hz:Z.size=27) (hu:unR Z=some lsP) (w:World) (htb:Tab w):Calls zG 18 #[.string Z] w fun e w'=>∃ t nb,e=.returned (.tuple #[.agg t.vals,zI 0])∧Bxs w w' t nb∧(∀ C,JU t (lsT C))∧Below w§ w w':=by
 refine (Kh Z w (by rw [hz]; decide) htb).mono ?_
 intro e w' h
 rw [hu] at h
 obtain⟨t,nb,h1,h2,h3⟩:=h
 obtain⟨k1,k2⟩:=is_ls h1
 rw [k1] at h2
 exact⟨t,nb,h2.1,h2.2,k2,h3⟩
theorem decode_least (B:Nat) (w:World) (htb:Tab w):Calls zG 18 #[.string (encS (lsT B))] w fun e w'=>∃ t nb,e=.returned (.tuple #[.agg t.vals,zI 0])∧Bxs w w' t nb∧(∀ C,JU t (lsT C))∧Below w§ w w':=decode_z (ls_size B) (ls_un B) w htb
theorem yl_row {P:Program}{ops:Array Oper}{S:World→Prop}{op:Oper}{a:Act}(hw:Region.wanted op (yielded ops a.tmps)=true) (ty:TypeId) (x:Operand) (ho:op.op=.load ty x)
  (g:Nat) (hx:a.eval x=zP g) (t:TypeId) (cs:Array Value) (fr:Nat × Nat) (d:TypeDesc) (hS:∀ w,S w→w.heap[g]? = some (.cells cs t fr))
  (hu:P.underlying ty=some d) (hd:(match d with | .struct _ | .array _ _=>true | _=>false)=true) (hi:(P.info? ty).map (·.size)=some cs.size):YieldsIf P ops S op (.agg cs) a :=
 .inl ⟨hw,fun w hw'=>by
  unfold execOp
  simp only [ho,hx,Instr.loadAt,Instr.sureAddr,Sem.run_bind,Sem.run_pure,Result.andThen_ok,run_loadVar_row w g t ty cs fr d (hS w hw') hu hd hi]⟩
def lsDw:Array Value:=#[zU 3,zI 1,zU 6,zI 4,zU 1,zI 0,zU 5,zI 6]
theorem lw_tb {w:World}{B:Nat}(hD:w.heap[B+1]? = some (.cells lsDw 61 (0,0))) (hR:w.heap[B+2]? = some (.cells lsR.vals 85 (0,0))) (hC:w.heap[B+4]? = some (.cells #[zI 1] 2 (0,0))) (hG:w.heap[B+5]? = some (.cells (lsG B).vals 68 (0,0))) (hS:w.heap[B+6]? = some (.cells #[.slice (some ⟨B+5,0,none⟩) 1 1] 69 (0,0))):TbL w (lsW B) where
 R:=⟨Nat.le_refl _,k0,fun i hi=>absurd hi (Nat.not_lt_zero _)⟩
 Ri:=fun n hn=>by cases hn
 S:=i0
 C:=sl1 hC
 Ci:=fun n hn=>by
  obtain rfl:n=1:=by simpa [lsW,lsT] using hn
  exact⟨by decide,by decide⟩
 D:=by
  refine⟨Nat.le_refl _,k4,fun i hi=>⟨B+1,0,rfl,fun j hj=>?_⟩⟩
  rw [Co hD]
  have hi':i < 4:=hi
  obtain rfl | rfl | rfl | rfl:i=0∨i=1∨i=2∨i=3:=by omega
  all_goals (obtain rfl | rfl:j=0∨j=1:=by omega) <;> rfl
 Di:=fun d hd=>by
  simp [lsW,lsT] at hd
  rcases hd with rfl | rfl | rfl | rfl <;> exact⟨⟨by decide,by decide⟩,by decide,by decide⟩
 T:=sl1 hS
 Ti:=fun s hs=>by
  obtain rfl:s=⟨some ⟨B+5,0,none⟩,1,[lsG B]⟩:=by simpa [lsW,lsT] using hs
  refine⟨sl1 hG,fun g hg=>?_⟩
  obtain rfl:g=lsG B:=by simpa using hg
  refine⟨s04,u2,u0,sl1 hR,fun r hr=>?_⟩
  obtain rfl:r=lsR:=by simpa [lsG] using hr
  exact lsR_i
 X:=by show (1:Nat)≤_; decide
def lsGk (B:Nat):GdM:={ lsG B with fd:=0 }
theorem lk_tb {w:World}{B:Nat}(hD:w.heap[B+1]? = some (.cells lsD 61 (0,0))) (hR:w.heap[B+2]? = some (.cells lsR.vals 85 (0,0))) (hC:w.heap[B+4]? = some (.cells #[zI 1] 2 (0,0))) (hG:w.heap[B+5]? = some (.cells (lsGk B).vals 68 (0,0))) (hS:w.heap[B+6]? = some (.cells #[.slice (some ⟨B+5,0,none⟩) 1 1] 69 (0,0))):TbL w (lsK B) where
 R:=⟨Nat.le_refl _,k0,fun i hi=>absurd hi (Nat.not_lt_zero _)⟩
 Ri:=fun n hn=>by cases hn
 S:=i0
 C:=sl1 hC
 Ci:=fun n hn=>by
  obtain rfl:n=1:=by simpa [lsK,lsT] using hn
  exact⟨by decide,by decide⟩
 D:=by
  refine⟨Nat.le_refl _,k4,fun i hi=>⟨B+1,0,rfl,fun j hj=>?_⟩⟩
  rw [Co hD]
  have hi':i < 4:=hi
  obtain rfl | rfl | rfl | rfl:i=0∨i=1∨i=2∨i=3:=by omega
  all_goals (obtain rfl | rfl:j=0∨j=1:=by omega) <;> rfl
 Di:=fun d hd=>by
  simp [lsK,lsT] at hd
  rcases hd with rfl | rfl | rfl | rfl <;> exact⟨⟨by decide,by decide⟩,by decide,by decide⟩
 T:=sl1 hS
 Ti:=fun s hs=>by
  obtain rfl:s=⟨some ⟨B+5,0,none⟩,1,[lsGk B]⟩:=by simpa [lsK,lsT,lsGk] using hs
  refine⟨sl1 hG,fun g hg=>?_⟩
  obtain rfl:g=lsGk B:=by simpa using hg
  refine⟨s04,u0,u0,sl1 hR,fun r hr=>?_⟩
  obtain rfl:r=lsR:=by simpa [lsG,lsGk] using hr
  exact lsR_i
 X:=by show (1:Nat)≤_; decide
theorem Qy {w:World}{b:Nat}{o:Obj}(h:w.heap[b]? = some o):b < w§:=by
 rcases Nat.lt_or_ge b w§ with h' | h'
 ·exact h'
 ·rw [Array.getElem?_eq_none h'] at h; cases h
theorem boxed {w w1 V:World}(l:LsB w1 w§) (b:Below w§ w w1) (e:(w1.alloc (.cells tb0 26)).setRow w1§ (lsT w§).vals=V) :
  V.heap[w1§]? = some (.cells (lsT w§).vals 26 (0,0))∧LsB V w§∧Below w§ w V∧w§+6 < w1§:=by
 subst e
 refine⟨setRow_heap _ _ _ _ _ _ (Hn _ _),l.on (Qc (Bn _ _) (Nat.le_refl _) _),Qc (Qa b (Bn _ _)) b.size _,Qy l.S⟩
theorem spoilW {V V2:World}{B b8:Nat}(l:LsB V B) (x:V.heap[b8]? = some (.cells (lsT B).vals 26 (0,0))) (hne:B+6 < b8) (e:V.setCell ⟨B+1,7,none⟩ (zI 6)=V2) :
  V2.heap[b8]? = some (.cells (lsW B).vals 26 (0,0))∧TbL V2 (lsW B):=by
 subst e
 refine⟨(Below.heap_setCell _ _ _ _ (by show b8≠B+1; omega)).trans x,lw_tb (Hs0 _ l.D) ?_ ?_ ?_ ?_⟩
 ·exact (Below.heap_setCell _ _ _ _ (by show B+2≠B+1; omega)).trans l.R
 ·exact (Below.heap_setCell _ _ _ _ (by show B+4≠B+1; omega)).trans l.C
 ·exact (Below.heap_setCell _ _ _ _ (by show B+5≠B+1; omega)).trans l.G
 ·exact (Below.heap_setCell _ _ _ _ (by show B+6≠B+1; omega)).trans l.S
theorem spoilK {V V2:World}{B b8:Nat}(l:LsB V B) (x:V.heap[b8]? = some (.cells (lsT B).vals 26 (0,0))) (hne:B+6 < b8) (e:V.setCell ⟨B+5,2,none⟩ (.int .u16 0)=V2) :
  V2.heap[b8]? = some (.cells (lsK B).vals 26 (0,0))∧TbL V2 (lsK B):=by
 subst e
 refine⟨(Below.heap_setCell _ _ _ _ (by show b8≠B+5; omega)).trans x,lk_tb ?_ ?_ ?_ (Hs0 _ l.G) ?_⟩
 ·exact (Below.heap_setCell _ _ _ _ (by show B+1≠B+5; omega)).trans l.D
 ·exact (Below.heap_setCell _ _ _ _ (by show B+2≠B+5; omega)).trans l.R
 ·exact (Below.heap_setCell _ _ _ _ (by show B+4≠B+5; omega)).trans l.C
 ·exact (Below.heap_setCell _ _ _ _ (by show B+6≠B+5; omega)).trans l.S
theorem awake_any (w:World) (htb:Tab w):Calls zG 8 #[] w fun e w'=>e=.returned (.bool true)∧Below w§ w w':=by
 have HT:Hid (Tab w):=htb
 clear htb
 go_enter Tryz.func8,Tryz.ntmps8
 go_wp2_with fail
 refine (Ju w).mono ?_
 rintro e w1 ⟨rfl,l1,b1⟩
 have HT1:Hid (Tab w1):=HT.out.on b1
 have HB1:=zH b1
 have cC:=Q5 (lsT w§) w1 l1.tb HT1.out
 rw [ls_check] at cC
 clear l1 b1
 go_wp2_with fail
 refine cC.mono ?_
 rintro e w2 ⟨rfl,b2⟩
 have HT2:Hid (Tab w2):=HT1.out.on b2
 have HB2:=zH (Qa HB1.out b2)
 clear cC b2 HT1 HB1
 go_wp2_with fail
 refine (Ju w2).mono ?_
 rintro e w3 ⟨rfl,l3,b3⟩
 have HT3:Hid (Tab w3):=HT2.out.on b3
 have HB3:=zH (Qa HB2.out b3)
 have cE:=encode_any (lsT w2§) w3 l3.tb HT3.out
 rw [ls_encE] at cE
 clear l3 b3 HT2 HB2
 have HSZ:Hid ((encS (lsT w2§)).size=27):=ls_size _
 have cD:=fun v h=>decode_least w2§ v h
 have HCD:=zH cD
 clear cD
 generalize encS (lsT w2§)=Z at cE HSZ HCD
 go_wp2_with fail
 refine cE.mono ?_
 rintro e w4 ⟨rfl,b4⟩
 have HT4:Hid (Tab w4):=HT3.out.on b4
 have HB4:=zH (Qa HB3.out b4)
 clear cE b4 HT3 HB3
 go_wp2_with fail
 refine (HCD.out w4 HT4.out).mono ?_
 rintro e w5 ⟨t,nb,rfl,hx,hS,b5⟩
 have HS:Hid (∀ C,JU t (lsT C)):=hS
 have HZ:Hid ((w5.alloc (.cells tb0 26)).heap[w5§]? = some (.cells tb0 26 (0,0))):=Hn _ _
 have hq:Below w5§ w5 ((w5.alloc (.cells tb0 26)).setRow w5§ t.vals):=Qc (Bn _ _) (Nat.le_refl _) _
 have HX:Hid (((w5.alloc (.cells tb0 26)).setRow w5§ t.vals).heap[w5§]? = some (.cells t.vals 26 (0,0))):=setRow_heap _ _ _ _ _ _ HZ.out
 have HL:Hid (TbL ((w5.alloc (.cells tb0 26)).setRow w5§ t.vals) t):=hx.1 _ (fun b hb=>(hq.block _ (Qy (hx.2 b hb).1)).trans (hx.2 b hb).1)
 have HT5:=zH ((HT4.out.on b5).on hq)
 have HB5:=zH (Qa (Qa HB4.out b5) hq)
 clear hx hS b5 HT4 HB4 HCD hq
 go_wp2_with (refine wpList_store_row rfl 26 (.tmp 4) (.tmp 25) rfl w5§ t.vals rfl rfl 26 tb0 HZ.out Qe rfl (JN t) ?_)
 have E5:(w5.alloc (.cells zA3 26))=(w5.alloc (.cells tb0 26)):=rfl
 rw [E5]
 clear E5 HZ
 generalize World.setRow _ _ _=V5 at HX HL HT5 HB5 ⊢
 generalize w5§=b4 at HX ⊢
 try clear w5
 refine (Ju V5).mono ?_
 rintro e w6 ⟨rfl,l6,b6⟩
 have cB:=bound_any (lsT V5§) w6 l6.tb (HT5.out.on b6)
 rw [ls_bound,ls_check] at cB
 have HB6:=zH b6
 clear l6 b6
 unfold coV at cB
 go_wp2_with fail
 refine cB.mono ?_
 rintro e w7 ⟨rfl,b7⟩
 have hb7:=Qa HB6.out b7
 clear cB b7 HB6
 have HZ:Hid ((w7.alloc (.cells #[zI 0,zI 0] 34)).heap[w7§]? = some (.cells #[zI 0,zI 0] 34 (0,0))):=Hn _ _
 have hq:Below w7§ w7 ((w7.alloc (.cells #[zI 0,zI 0] 34)).setRow w7§ #[zI 4,zI 0]):=Qc (Bn _ _) (Nat.le_refl _) _
 have HY:Hid (((w7.alloc (.cells #[zI 0,zI 0] 34)).setRow w7§ #[zI 4,zI 0]).heap[w7§]? = some (.cells #[zI 4,zI 0] 34 (0,0))):=setRow_heap _ _ _ _ _ _ HZ.out
 have HB8:=zH (Qa hb7 hq)
 clear hb7 hq
 go_wp2_with (refine wpList_store_row rfl 34 (.tmp 6) (.tmp 30) rfl w7§ #[zI 4,zI 0] rfl rfl 34 #[zI 0,zI 0] HZ.out JG rfl (by simp [Value.oneCell']) ?_)
 clear HZ
 generalize World.setRow _ _ _=V6 at HY HB8 ⊢
 generalize w7§=b6 at HY ⊢
 try clear w7
 have HT6:Hid (Tab V6):=HT5.out.on HB8.out
 have HL6:Hid (TbL V6 t):=HL.out.on HB8.out
 have HX6:Hid (V6.heap[b4]? = some (.cells t.vals 26 (0,0))):=(HB8.out.block _ (Qy HX.out)).trans HX.out
 have HB6:=zH (Qa HB5.out HB8.out)
 clear HT5 HL HX HB5 HB8
 try clear V5
 refine (Ju V6).mono ?_
 rintro e w8 ⟨rfl,l8,b8⟩
 obtain⟨y1,y2,y3,y4⟩:=boxed l8 b8 rfl
 have HZ:Hid ((w8.alloc (.cells tb0 26)).heap[w8§]? = some (.cells tb0 26 (0,0))):=Hn _ _
 have HV:Hid (((w8.alloc (.cells tb0 26)).setRow w8§ (lsT V6§).vals).heap[w8§]? = some (.cells (lsT V6§).vals 26 (0,0))∧LsB ((w8.alloc (.cells tb0 26)).setRow w8§ (lsT V6§).vals) V6§∧Below V6§ V6 ((w8.alloc (.cells tb0 26)).setRow w8§ (lsT V6§).vals)∧V6§+6 < w8§):=⟨y1,y2,y3,y4⟩
 clear y1 y2 y3 y4 l8 b8
 go_upto_region 6 with (refine wpList_store_row rfl 26 (.tmp 8) (.tmp 32) rfl w8§ (lsT V6§).vals rfl rfl 26 tb0 HZ.out Qe rfl (JN _) ?_)
 have E5:(w8.alloc (.cells zA3 26))=(w8.alloc (.cells tb0 26)):=rfl
 rw [E5]
 clear E5 HZ
 generalize World.setRow _ _ _=V8 at HV ⊢
 generalize w8§=b8 at HV ⊢
 try clear w8
 have c4:V8.cell? ⟨b8,4,none⟩=some (.slice (some ⟨V6§+1,0,none⟩) 4 4):=(Co HV.out.1 4).trans rfl
 have c7:V8.cell? ⟨V6§+1,7,none⟩=some (zI 2):=(Co HV.out.2.1.D 7).trans rfl
 have f7:=Fo HV.out.2.1.D 7
 go_upto_region 7 with fail
 clear c4 c7 f7
 obtain⟨z1,z2⟩:=spoilW HV.out.2.1 HV.out.1 HV.out.2.2.2 rfl
 have HB9:Hid (Below V6§ V6 (V8.setCell ⟨V6§+1,7,none⟩ (zI 6))):=HV.out.2.2.1.setCell (by show V6§≤V6§+1; omega) _
 have HX9:=zH z1
 have HL9:=zH z2
 clear z1 z2 HV
 generalize World.setCell _ _ _=V9 at HB9 HX9 HL9 ⊢
 try clear V8
 have cW:=Q5 (lsW V6§) V9 HL9.out (HT6.out.on HB9.out)
 rw [lw_check] at cW
 go_wp2_with (refine wpList_load_row rfl 26 (.tmp 8) rfl b8 rfl 26 (lsW V6§).vals (0,0) _ HX9.out Tryz.underlying26 rfl Qe ?_)
 refine cW.mono ?_
 rintro e wA ⟨rfl,bA⟩
 have HBA:=zH (Qa HB9.out bA)
 clear cW bA HB9 HX9 HL9
 go_wp2_with fail
 refine (Ju wA).mono ?_
 rintro e wB ⟨rfl,lB,bB⟩
 obtain⟨y1,y2,y3,y4⟩:=boxed lB bB rfl
 have HZ:Hid ((wB.alloc (.cells tb0 26)).heap[wB§]? = some (.cells tb0 26 (0,0))):=Hn _ _
 have HV:Hid (((wB.alloc (.cells tb0 26)).setRow wB§ (lsT wA§).vals).heap[wB§]? = some (.cells (lsT wA§).vals 26 (0,0))∧LsB ((wB.alloc (.cells tb0 26)).setRow wB§ (lsT wA§).vals) wA§∧Below wA§ wA ((wB.alloc (.cells tb0 26)).setRow wB§ (lsT wA§).vals)∧wA§+6 < wB§):=⟨y1,y2,y3,y4⟩
 clear y1 y2 y3 y4 lB bB
 go_upto_region 9 with (refine wpList_store_row rfl 26 (.tmp 10) (.tmp 39) rfl wB§ (lsT wA§).vals rfl rfl 26 tb0 HZ.out Qe rfl (JN _) ?_)
 have E5:(wB.alloc (.cells zA3 26))=(wB.alloc (.cells tb0 26)):=rfl
 rw [E5]
 clear E5 HZ
 generalize World.setRow _ _ _=VB at HV ⊢
 generalize wB§=bB at HV ⊢
 try clear wB
 have c5:VB.cell? ⟨bB,5,none⟩=some (.slice (some ⟨wA§+6,0,none⟩) 1 1):=(Co HV.out.1 5).trans rfl
 have c6:VB.cell? ⟨wA§+6,0,none⟩=some (.slice (some ⟨wA§+5,0,none⟩) 1 1):=(Co HV.out.2.1.S 0).trans rfl
 have c7:VB.cell? ⟨wA§+5,2,none⟩=some (.int .u16 2):=(Co HV.out.2.1.G 2).trans rfl
 have f7:=Fo HV.out.2.1.G 2
 go_upto_region 10 with fail
 clear c5 c6 c7 f7
 obtain⟨z1,z2⟩:=spoilK HV.out.2.1 HV.out.1 HV.out.2.2.2 rfl
 have HB9:Hid (Below wA§ wA (VB.setCell ⟨wA§+5,2,none⟩ (.int .u16 0))):=HV.out.2.2.1.setCell (by show wA§≤wA§+5; omega) _
 have HX9:=zH z1
 have HL9:=zH z2
 clear z1 z2 HV
 generalize World.setCell _ _ _=VC at HB9 HX9 HL9 ⊢
 try clear VB
 have cW:=Q5 (lsK wA§) VC HL9.out ((HT6.out.on HBA.out).on HB9.out)
 rw [lk_check] at cW
 go_wp2_with (refine wpList_load_row rfl 26 (.tmp 10) rfl bB rfl 26 (lsK wA§).vals (0,0) _ HX9.out Tryz.underlying26 rfl Qe ?_)
 refine cW.mono ?_
 rintro e wC ⟨rfl,bC⟩
 have HBC:=zH (Qa (Qa HBA.out HB9.out) bC)
 clear cW bC HB9 HX9 HL9 HBA
 go_wp2_with fail
 refine (Ju wC).mono ?_
 rintro e wD ⟨rfl,lD,bD⟩
 have cR:=reads_any (lsT wC§) ⟨0,9⟩ wD lD.tb
 rw [ls_reads] at cR
 unfold Sp.vals at cR
 have HBD:=zH (Qa HBC.out bD)
 clear lD bD HBC
 go_wp2_with fail
 refine cR.mono ?_
 rintro e wE ⟨rfl,bE⟩
 have HBE:=zH (Qa HBD.out bE)
 clear cR bE HBD
 go_upto_region 12 with fail
 have HFA:Hid (∀ v:World,Below wE§ wE v→v.heap[b4]? = some (.cells t.vals 26 (0,0))):=fun v hv=>((Qa HBE.out hv).block _ (Qy HX6.out)).trans HX6.out
 refine wp_region_held_drew (S:=fun v=>Below wE§ wE v) zK ⟨rfl,rfl,rfl,Nat.le_refl _,fun _ _=>rfl⟩ (fun hHeld=>?_)
 refine wpAnyH_take (i:=0) (v:=.agg t.vals) rfl zK zK zK (fun _ _ _ h=>h) (yl_row (by rfl) 26 (.tmp 4) rfl b4 rfl 26 t.vals (0,0) _ HFA.out Tryz.underlying26 rfl Qe) (by assumption) ?_
 try simp [Act.put]
 refine wpAnyH_ready (rs:=[1]) zK (by simp) ?_
 refine AllReadyH.cons rfl (fun K hK=>?_) AllReadyH.nil
 go_simp
 refine (Ju wE.drew).mono ?_
 rintro e wF ⟨rfl,lF,bF⟩
 have hBF:Below wE§ wE wF:=⟨bF.os,bF.tape,bF.output,bF.size,bF.block⟩
 refine hK.out _ _ hBF (fun hHeld=>?_)
 have HBF:=zH (Qa HBE.out hBF)
 have hBF':=hBF
 clear hK K hBF bF
 try simp [Act.put]
 refine wpAnyH_ready (rs:=[2]) zK (by simp) ?_
 refine AllReadyH.cons rfl (fun K hK=>?_) AllReadyH.nil
 go_simp
 refine (sameTable_any t _ wF (HL6.out.on HBF.out) lF.tb).mono ?_
 rintro e wG ⟨b,rfl,hb,bG⟩
 obtain rfl:b=true:=hb.2 (HS.out _)
 have HBG:=zH (Qa HBF.out bG)
 refine hK.out _ _ (Qa hBF' bG) (fun hHeld=>?_)
 clear hK K bG hb lF hBF'
 try simp [Act.put]
 refine wpAnyH_take (i:=3) (v:=?_) rfl zK zK zK (fun _ _ _ h=>h) (Or.inl ⟨by rfl,?_⟩) (by assumption) ?_
 rotate_left
 ·(intro v hv; go_simp; try (with_reducible rfl))
 try simp [Act.put]
 refine wpAnyH_done zK ?_ _
 have c0:wG.cell? ⟨b6,0,none⟩=some (zI 4):=Qf (Co HY.out 0) HBG.out
 have c1:wG.cell? ⟨b6,1,none⟩=some (zI 0):=Qf (Co HY.out 1) HBG.out
 have hsz:Z.size=27:=HSZ.out
 have hsz':(Z.size:Int)=27:=by rw [hsz]; rfl
 go_wp2_with fail
 go_ret
 exact⟨rfl,Qa HB6.out HBG.out⟩
theorem JI:∀ (l m:List Sp) (p:Int),Qv p (l ++ m)=(Qv p l).bind fun q=>Qv q m
 | [],m,p=>rfl
 | x :: l,m,p=>by
  simp only [List.cons_append,Qv]
  split
  ·rfl
  ·exact JI l m _
theorem hasI_pre (r:RowM) (i:Nat) (hi:i≤4):∃ l,hasL r=hasI r i ++ l:=by
 refine⟨(((prts (Qn r.k r.o)).zip (spL r)).drop i).filterMap (fun q=>if q.1 then some q.2 else none),?_⟩
 unfold hasL hasI
 rw [← List.filterMap_append,List.take_append_drop,List.take_of_length_le (by simp [prts,spL])]
theorem lies_none (r:RowM) (i:Nat) (hi:i≤4) (p:Int) (h:Qv p (hasI r i)=none):Qv p (hasL r)=none:=by
 obtain⟨l,hl⟩:=hasI_pre r i hi
 rw [hl,JI,h]; rfl
theorem par_cell {w:World}{b:Nat}{p:P4}(h:w.heap[b]? = some (.cells p.vals 4 (0,0))) (i:Nat) (hi:i < 4):w.cell? ⟨b,i,none⟩=some (.bool ((prts p).getD i false)):=by
 match i,hi with
 | 0,_=>exact Co h 0
 | 1,_=>exact Co h 1
 | 2,_=>exact Co h 2
 | 3,_=>exact Co h 3
theorem spn_cell {w:World}{b:Nat}{r:RowM}(h:w.heap[b]? = some (.cells (spV r) 65 (0,0))) (i:Nat) (hi:i < 4):w.cell? ⟨b,i * 2,none⟩=some (zI ((spL r).getD i ⟨0,0⟩).f)∧w.cell? ⟨b,i * 2+1,none⟩=some (zI ((spL r).getD i ⟨0,0⟩).t):=by
 match i,hi with
 | 0,_=>exact⟨Co h 0,Co h 1⟩
 | 1,_=>exact⟨Co h 2,Co h 3⟩
 | 2,_=>exact⟨Co h 4,Co h 5⟩
 | 3,_=>exact⟨Co h 6,Co h 7⟩
def rwN (t:TbM) (r:RowM) (p:Int):Option Int:=if rowB t.sl t.rs.length t.ts.length r then Qv p (hasL r) else none
def outP:Option Int→Value
 | some q=>.tuple #[zI q,.bool true]
 | none=>.tuple #[zI 0,.bool false]
theorem rrow_any' (t : TbM) (r : RowM) (p : Int) (w : World) : Calls zG 102 #[.agg t.vals, .agg r.vals, zI p] w fun e w' => e = .returned (outP (rwN t r p)) ∧ Below w§ w w' := by
 obtain⟨W2,e2⟩:∃ W,(w.alloc (.cells t.vals 26)).alloc (.cells r.vals 85)=W:=⟨_,rfl⟩
 have E2:Hid ((w.alloc (.cells t.vals 26)).alloc (.cells r.vals 85)=W2):=e2
 obtain⟨hn1,hn2,hb2,hs2⟩:=J9 e2
 have HB2:Hid (Below w§ w W2):=hb2
 have HN1:Hid (W2.heap[w§]? = some (.cells t.vals 26 (0,0))):=hn1
 have HN2:Hid (W2.heap[w§+1]? = some (.cells r.vals 85 (0,0))):=hn2
 clear e2
 have cI:=rindex_any t r W2
 have HIX : Hid (rowB t.sl t.rs.length t.ts.length r = (Jl r && idxB t r && Q4 r 4)) := rfl
 clear hn1 hn2 hb2 hs2
 obtain⟨ANS,eA⟩:∃ q,rwN t r p=q:=⟨_,rfl⟩
 have HA:Hid (rwN t r p=ANS):=eA
 rw [eA]
 clear eA
 go_enter Tryz.func102,Tryz.ntmps102
 go_upto_region 1 with fail
 rw [E2.out]
 clear E2
 obtain⟨B1,eB1⟩:∃ b,w§+1=b:=⟨_,rfl⟩
 have HLB:Hid (B1 < W2§):=by show _ < _; rw [← eB1]; exact Qy HN2.out
 rw [eB1] at HN2 ⊢
 clear eB1
 go_wp2_with (first | (refine wpList_load_row rfl 26 (.tmp 3) rfl w§ rfl 26 t.vals (0,0) _ HN1.out Tryz.underlying26 rfl Qe ?_) | (refine wpList_load_row rfl 85 (.tmp 4) rfl B1 rfl 85 r.vals (0,0) _ HN2.out Tryz.underlying85 rfl Qi ?_))
 refine cI.mono ?_
 rintro e w3 ⟨rfl,hb3⟩
 have HB3:Hid (Below w§ w w3):=Qa HB2.out hb3
 have HN3:Hid (w3.heap[B1]? = some (.cells r.vals 85 (0,0))):=(hb3.block _ HLB.out).trans HN2.out
 have k0:w3.cell? ⟨B1,0,none⟩=some (zU r.k):=Co HN3.out 0
 have k1:w3.cell? ⟨B1,1,none⟩=some (zU r.o):=Co HN3.out 1
 clear cI hb3 HN1 HN2 HLB HB2
 obtain⟨ib,eib⟩:∃ b,idxB t r=b:=⟨_,rfl⟩
 rw [eib] at HIX ⊢
 clear eib
 have cH:=JK r w3
 cases h1:(r.k == 1) with
 | true =>
  have h2:(r.k != 1)=false:=by simp [bne,h1]
  cases hA:decide (r.o ≥ 1) with
  | true =>
   cases hC:decide (r.o≤5) with
   | true =>
    cases ib with
    | false =>
     have HN:Hid (ANS=none):=by show _=_; rw [← HA.out]; unfold rwN; rw [HIX.out]; simp
     go_wp2_with fail
     go_ret2
     exact⟨by rw [HN.out]; rfl,HB3.out⟩
    | true =>
     have HRB:Hid (rwN t r p=if Q4 r 4 then Qv p (hasL r) else none):=by show _=_; unfold rwN; rw [HIX.out]; simp [Jl,h1,show (1:Int)≤r.o from of_decide_eq_true hA,of_decide_eq_true hC]
     go_upto_region 5 with fail
     clear h1 h2
     clear hA hC
     go_wp2_with (refine wpList_load_row rfl 85 (.tmp 4) rfl B1 rfl 85 r.vals (0,0) _ HN3.out Tryz.underlying85 rfl Qi ?_)
     refine cH.mono ?_
     rintro e w5 ⟨HC,rfl,hh,hge,hb5⟩
     have hn5:w5.heap[B1]? = some (.cells r.vals 85 (0,0)):=(hb5.block _ (Qy HN3.out)).trans HN3.out
     have s3:w5.cell? ⟨B1,3,none⟩=some (zI r.sd.f):=Co hn5 3
     have s4:w5.cell? ⟨B1,4,none⟩=some (zI r.sd.t):=Co hn5 4
     have s5:w5.cell? ⟨B1,5,none⟩=some (zI r.qt.f):=Co hn5 5
     have s6:w5.cell? ⟨B1,6,none⟩=some (zI r.qt.t):=Co hn5 6
     have s7:w5.cell? ⟨B1,7,none⟩=some (zI r.pr.f):=Co hn5 7
     have s8:w5.cell? ⟨B1,8,none⟩=some (zI r.pr.t):=Co hn5 8
     have s9:w5.cell? ⟨B1,9,none⟩=some (zI r.vl.f):=Co hn5 9
     have s10:w5.cell? ⟨B1,10,none⟩=some (zI r.vl.t):=Co hn5 10
     have HH:Hid (w5.heap[HC]? = some (.cells (Qn r.k r.o).vals 4 (0,0))):=hh
     have HB5:Hid (Below w§ w w5):=Qa HB3.out hb5
     have HSV:Hid ((w5.alloc (.cells (spV r) 65)).heap[w5§]? = some (.cells (spV r) 65 (0,0))):=Hn _ _
     have HS6:Hid (Below w5§ w5 (w5.alloc (.cells (spV r) 65))):=Bn _ _
     clear cH hh hge hb5 hn5 HN3 HB3 k0 k1
     go_upto_region 7 with fail
     clear s3 s4 s5 s6 s7 s8 s9 s10
     rw [show (w5.alloc (.cells #[zI r.sd.f,zI r.sd.t,zI r.qt.f,zI r.qt.t,zI r.pr.f,zI r.pr.t,zI r.vl.f,zI r.vl.t] 65))=w5.alloc (.cells (spV r) 65) from rfl]
     generalize w5.alloc (.cells (spV r) 65)=W6 at HSV HS6 ⊢
     generalize w5§=SB at HSV ⊢
     have HH6:Hid (W6.heap[HC]? = some (.cells (Qn r.k r.o).vals 4 (0,0))):=(HS6.out.block _ (Qy HH.out)).trans HH.out
     have HB6:Hid (Below w§ w W6):=Qa HB5.out HS6.out
     have HZ:Hid ((W6.alloc (.cells #[zI 0,zI 0] 65)).heap[W6§]? = some (.cells #[zI 0,zI 0] 65 (0,0))):=Hn _ _
     have HB7:Hid (Below W6§ W6 ((W6.alloc (.cells #[zI 0,zI 0] 65)).setRow W6§ #[zI 0,zI 0])):=Qc (Bn _ _) (Nat.le_refl _) _
     have HZ7:Hid (((W6.alloc (.cells #[zI 0,zI 0] 65)).setRow W6§ #[zI 0,zI 0]).heap[W6§]? = some (.cells #[zI 0,zI 0] 65 (0,0))):=setRow_heap _ _ _ _ _ _ HZ.out
     clear HH HB5 HS6
     go_upto_region 8 with (refine wpList_store_row rfl 65 (.tmp 12) (.tmp 57) rfl W6§ #[zI 0,zI 0] rfl rfl 65 #[zI 0,zI 0] HZ.out Qt rfl (by simp [Value.oneCell']) ?_)
     clear HZ
     generalize World.setRow _ _ _=W7 at HB7 HZ7 ⊢
     generalize W6§=ZB at HZ7 ⊢
     have HH7:Hid (W7.heap[HC]? = some (.cells (Qn r.k r.o).vals 4 (0,0))):=(HB7.out.block _ (Qy HH6.out)).trans HH6.out
     have HS7:Hid (W7.heap[SB]? = some (.cells (spV r) 65 (0,0))):=(HB7.out.block _ (Qy HSV.out)).trans HSV.out
     have HB8:Hid (Below w§ w W7):=Qa HB6.out HB7.out
     clear HH6 HSV HB6 HB7
     go_wp2_with fail
     go_loopw [2,13] (fun v q wr=>∃ (z:Int) (i:Nat),i≤4∧v=zI z∧q=zI i∧Hid (Below W7§ W7 wr)∧Hid (Q4 r i=true)∧Hid (Qv p (hasI r i)=some z)) (fun _ q _=>4 - (intOf q).toNat)
     case atStart=>exact⟨p,0,by omega,rfl,rfl,Below.refl _ _,rfl,rfl⟩
     case round =>
      obtain⟨z,i,hi,rfl,rfl,HBR,HPR,HLR⟩:=hrel
      by_cases hlt:i < 4
      ·have hlt':(i:Int) < 4:=by omega
       have hmx:(i:Int)+1≤9223372036854775807:=by omega
       have cP:=Qf (par_cell HH7.out i hlt) HBR.out
       obtain⟨q1,q2⟩:=spn_cell HS7.out i hlt
       have cF:=Qf q1 HBR.out
       have cT:=Qf q2 HBR.out
       have z0:wr.cell? ⟨ZB,0,none⟩=some (zI 0):=Qf (Co HZ7.out 0) HBR.out
       have z1:wr.cell? ⟨ZB,1,none⟩=some (zI 0):=Qf (Co HZ7.out 1) HBR.out
       have HPS:=Kb r i hlt
       have HPF:=rowPB_f r i hlt
       have HHS:=hasI_s r i hlt
       have HNX:=lies_none r (i+1) hlt p
       obtain⟨d,ed⟩:∃ d,(spL r).getD i ⟨0,0⟩=d:=⟨_,rfl⟩
       rw [ed] at cF cT HPS HPF HHS
       obtain⟨bp,ebp⟩:∃ b,(prts (Qn r.k r.o)).getD i false=b:=⟨_,rfl⟩
       rw [ebp] at cP HPS HPF HHS
       clear ed ebp q1 q2
       have HD:Hid (∀ n,Below W7§ W7 (wr.drewN n)):=fun n=>Qz HBR.out n
       cases bp with
       | false =>
        have HP1:Hid (Q4 r (i+1)=JT d):=by show _=_; rw [HPS,HPR.out]; simp [J5]
        have HP2:Hid (JT d=false→Q4 r 4=false):=fun h=>HPF (by simp [J5,h])
        have HP3:Hid (Qv p (hasI r (i+1))=some z):=by show _=_; rw [HHS]; simpa using HLR.out
        clear HPS HPF HHS HNX HPR HLR
        cases h0:(d.f == 0) with
        | false =>
         have HN:Hid (ANS=none):=by show _=_; rw [← HA.out,HRB.out,HP2.out (by simp [JT,h0])]; rfl
         have HBW:=HB8.out
         clear HBR HRB
         go_wp2_with fail
         go_quiet (fail)
         go_wp2_with fail
         go_ret2
         exact⟨by rw [HN.out]; rfl,Qa HB8.out (HD.out _)⟩
        | true =>
         cases h1:(d.t == 0) with
         | false =>
          have HN:Hid (ANS=none):=by show _=_; rw [← HA.out,HRB.out,HP2.out (by simp [JT,h1])]; rfl
          clear HBR HRB
          go_wp2_with fail
          go_quiet (fail)
          go_wp2_with fail
          go_ret2
          exact⟨by rw [HN.out]; rfl,Qa HB8.out (HD.out _)⟩
         | true =>
          have HP4:Hid (Q4 r (i+1)=true):=by show _=_; rw [HP1.out]; simp [JT,h0,h1]
          clear HP1 HP2
          go_wp2_with fail
          go_quiet (fail)
          go_wp2_with fail
          exact⟨⟨z,i+1,hlt,rfl,rfl,HD.out _,HP4,HP3⟩,by simp only [intOf]; omega⟩
       | true =>
        have HP4:Hid (Q4 r (i+1)=true):=by show _=_; rw [HPS,HPR.out]; simp [J5]
        have HP3:Hid (Qv p (hasI r (i+1))=if d.f != z || decide (d.t≤d.f) then none else some d.t):=by show _=_; rw [HHS,if_pos rfl,JI,HLR.out]; rfl
        have HP5:Hid (Qv p (hasI r (i+1))=none→ANS=none):=fun h=>by rw [← HA.out,HRB.out,HNX h]; simp
        clear HPS HPF HHS HNX HPR HLR
        cases h0:(d.f != z) with
        | true =>
         have HN:Hid (ANS=none):=HP5.out (by rw [HP3.out,h0]; rfl)
         clear HBR HRB
         go_wp2_with fail
         go_quiet (fail)
         go_wp2_with fail
         go_ret2
         exact⟨by rw [HN.out]; rfl,Qa HB8.out (HD.out _)⟩
        | false =>
         have hz:d.f=z:=by simpa using h0
         cases h1:decide (d.t≤z) with
         | true =>
          have HN:Hid (ANS=none):=HP5.out (by rw [HP3.out,hz]; simp [of_decide_eq_true h1])
          clear HBR HRB hz
          go_wp2_with fail
          go_quiet (fail)
          go_wp2_with fail
          go_ret2
          exact⟨by rw [HN.out]; rfl,Qa HB8.out (HD.out _)⟩
         | false =>
          have HP6:Hid (Qv p (hasI r (i+1))=some d.t):=by show _=_; rw [HP3.out,hz]; simp [of_decide_eq_false h1]
          clear hz HP3 HP5
          go_wp2_with fail
          go_quiet (fail)
          go_wp2_with fail
          exact⟨⟨d.t,i+1,hlt,rfl,rfl,HD.out _,HP4,HP6⟩,by simp only [intOf]; omega⟩
      ·obtain rfl:i=4:=by omega
       have HN:Hid (ANS=some z):=by show _=_; rw [← HA.out,HRB.out,HPR.out]; exact HLR.out
       go_wp2_with fail
       go_ret2
       exact⟨by rw [HN.out]; rfl,Qa HB8.out HBR.out⟩
   | false =>
    cases ib with
    | false =>
     have HN:Hid (ANS=none):=by show _=_; rw [← HA.out]; unfold rwN; rw [HIX.out]; simp [Jl,h1,of_decide_eq_false hC]
     go_wp2_with fail
     go_ret2
     exact⟨by rw [HN.out]; rfl,HB3.out⟩
    | true =>
     have HN:Hid (ANS=none):=by show _=_; rw [← HA.out]; unfold rwN; rw [HIX.out]; simp [Jl,h1,of_decide_eq_false hC]
     go_wp2_with fail
     go_ret2
     exact⟨by rw [HN.out]; rfl,HB3.out⟩
  | false =>
   cases ib with
   | false =>
    have HN:Hid (ANS=none):=by show _=_; rw [← HA.out]; unfold rwN; rw [HIX.out]; simp [Jl,h1,show ¬ (1:Int)≤r.o from of_decide_eq_false hA]
    go_wp2_with fail
    go_ret2
    exact⟨by rw [HN.out]; rfl,HB3.out⟩
   | true =>
    have HN:Hid (ANS=none):=by show _=_; rw [← HA.out]; unfold rwN; rw [HIX.out]; simp [Jl,h1,show ¬ (1:Int)≤r.o from of_decide_eq_false hA]
    go_wp2_with fail
    go_ret2
    exact⟨by rw [HN.out]; rfl,HB3.out⟩
 | false =>
  have h2:(r.k != 1)=true:=by simp [bne,h1]
  cases h3:(r.o == 0) with
  | true =>
   cases ib with
   | false =>
    have HN:Hid (ANS=none):=by show _=_; rw [← HA.out]; unfold rwN; rw [HIX.out]; simp
    go_wp2_with fail
    go_ret2
    exact⟨by rw [HN.out]; rfl,HB3.out⟩
   | true =>
    have HRB:Hid (rwN t r p=if Q4 r 4 then Qv p (hasL r) else none):=by show _=_; unfold rwN; rw [HIX.out]; simp [Jl,h1,h3]
    go_upto_region 5 with fail
    clear h1 h2
    clear h3
    go_wp2_with (refine wpList_load_row rfl 85 (.tmp 4) rfl B1 rfl 85 r.vals (0,0) _ HN3.out Tryz.underlying85 rfl Qi ?_)
    refine cH.mono ?_
    rintro e w5 ⟨HC,rfl,hh,hge,hb5⟩
    have hn5:w5.heap[B1]? = some (.cells r.vals 85 (0,0)):=(hb5.block _ (Qy HN3.out)).trans HN3.out
    have s3:w5.cell? ⟨B1,3,none⟩=some (zI r.sd.f):=Co hn5 3
    have s4:w5.cell? ⟨B1,4,none⟩=some (zI r.sd.t):=Co hn5 4
    have s5:w5.cell? ⟨B1,5,none⟩=some (zI r.qt.f):=Co hn5 5
    have s6:w5.cell? ⟨B1,6,none⟩=some (zI r.qt.t):=Co hn5 6
    have s7:w5.cell? ⟨B1,7,none⟩=some (zI r.pr.f):=Co hn5 7
    have s8:w5.cell? ⟨B1,8,none⟩=some (zI r.pr.t):=Co hn5 8
    have s9:w5.cell? ⟨B1,9,none⟩=some (zI r.vl.f):=Co hn5 9
    have s10:w5.cell? ⟨B1,10,none⟩=some (zI r.vl.t):=Co hn5 10
    have HH:Hid (w5.heap[HC]? = some (.cells (Qn r.k r.o).vals 4 (0,0))):=hh
    have HB5:Hid (Below w§ w w5):=Qa HB3.out hb5
    have HSV:Hid ((w5.alloc (.cells (spV r) 65)).heap[w5§]? = some (.cells (spV r) 65 (0,0))):=Hn _ _
    have HS6:Hid (Below w5§ w5 (w5.alloc (.cells (spV r) 65))):=Bn _ _
    clear cH hh hge hb5 hn5 HN3 HB3 k0 k1
    go_upto_region 7 with fail
    clear s3 s4 s5 s6 s7 s8 s9 s10
    rw [show (w5.alloc (.cells #[zI r.sd.f,zI r.sd.t,zI r.qt.f,zI r.qt.t,zI r.pr.f,zI r.pr.t,zI r.vl.f,zI r.vl.t] 65))=w5.alloc (.cells (spV r) 65) from rfl]
    generalize w5.alloc (.cells (spV r) 65)=W6 at HSV HS6 ⊢
    generalize w5§=SB at HSV ⊢
    have HH6:Hid (W6.heap[HC]? = some (.cells (Qn r.k r.o).vals 4 (0,0))):=(HS6.out.block _ (Qy HH.out)).trans HH.out
    have HB6:Hid (Below w§ w W6):=Qa HB5.out HS6.out
    have HZ:Hid ((W6.alloc (.cells #[zI 0,zI 0] 65)).heap[W6§]? = some (.cells #[zI 0,zI 0] 65 (0,0))):=Hn _ _
    have HB7:Hid (Below W6§ W6 ((W6.alloc (.cells #[zI 0,zI 0] 65)).setRow W6§ #[zI 0,zI 0])):=Qc (Bn _ _) (Nat.le_refl _) _
    have HZ7:Hid (((W6.alloc (.cells #[zI 0,zI 0] 65)).setRow W6§ #[zI 0,zI 0]).heap[W6§]? = some (.cells #[zI 0,zI 0] 65 (0,0))):=setRow_heap _ _ _ _ _ _ HZ.out
    clear HH HB5 HS6
    go_upto_region 8 with (refine wpList_store_row rfl 65 (.tmp 12) (.tmp 57) rfl W6§ #[zI 0,zI 0] rfl rfl 65 #[zI 0,zI 0] HZ.out Qt rfl (by simp [Value.oneCell']) ?_)
    clear HZ
    generalize World.setRow _ _ _=W7 at HB7 HZ7 ⊢
    generalize W6§=ZB at HZ7 ⊢
    have HH7:Hid (W7.heap[HC]? = some (.cells (Qn r.k r.o).vals 4 (0,0))):=(HB7.out.block _ (Qy HH6.out)).trans HH6.out
    have HS7:Hid (W7.heap[SB]? = some (.cells (spV r) 65 (0,0))):=(HB7.out.block _ (Qy HSV.out)).trans HSV.out
    have HB8:Hid (Below w§ w W7):=Qa HB6.out HB7.out
    clear HH6 HSV HB6 HB7
    go_wp2_with fail
    go_loopw [2,13] (fun v q wr=>∃ (z:Int) (i:Nat),i≤4∧v=zI z∧q=zI i∧Hid (Below W7§ W7 wr)∧Hid (Q4 r i=true)∧Hid (Qv p (hasI r i)=some z)) (fun _ q _=>4 - (intOf q).toNat)
    case atStart=>exact⟨p,0,by omega,rfl,rfl,Below.refl _ _,rfl,rfl⟩
    case round =>
     obtain⟨z,i,hi,rfl,rfl,HBR,HPR,HLR⟩:=hrel
     by_cases hlt:i < 4
     ·have hlt':(i:Int) < 4:=by omega
      have hmx:(i:Int)+1≤9223372036854775807:=by omega
      have cP:=Qf (par_cell HH7.out i hlt) HBR.out
      obtain⟨q1,q2⟩:=spn_cell HS7.out i hlt
      have cF:=Qf q1 HBR.out
      have cT:=Qf q2 HBR.out
      have z0:wr.cell? ⟨ZB,0,none⟩=some (zI 0):=Qf (Co HZ7.out 0) HBR.out
      have z1:wr.cell? ⟨ZB,1,none⟩=some (zI 0):=Qf (Co HZ7.out 1) HBR.out
      have HPS:=Kb r i hlt
      have HPF:=rowPB_f r i hlt
      have HHS:=hasI_s r i hlt
      have HNX:=lies_none r (i+1) hlt p
      obtain⟨d,ed⟩:∃ d,(spL r).getD i ⟨0,0⟩=d:=⟨_,rfl⟩
      rw [ed] at cF cT HPS HPF HHS
      obtain⟨bp,ebp⟩:∃ b,(prts (Qn r.k r.o)).getD i false=b:=⟨_,rfl⟩
      rw [ebp] at cP HPS HPF HHS
      clear ed ebp q1 q2
      have HD:Hid (∀ n,Below W7§ W7 (wr.drewN n)):=fun n=>Qz HBR.out n
      cases bp with
      | false =>
       have HP1:Hid (Q4 r (i+1)=JT d):=by show _=_; rw [HPS,HPR.out]; simp [J5]
       have HP2:Hid (JT d=false→Q4 r 4=false):=fun h=>HPF (by simp [J5,h])
       have HP3:Hid (Qv p (hasI r (i+1))=some z):=by show _=_; rw [HHS]; simpa using HLR.out
       clear HPS HPF HHS HNX HPR HLR
       cases h0:(d.f == 0) with
       | false =>
        have HN:Hid (ANS=none):=by show _=_; rw [← HA.out,HRB.out,HP2.out (by simp [JT,h0])]; rfl
        have HBW:=HB8.out
        clear HBR HRB
        go_wp2_with fail
        go_quiet (fail)
        go_wp2_with fail
        go_ret2
        exact⟨by rw [HN.out]; rfl,Qa HB8.out (HD.out _)⟩
       | true =>
        cases h1:(d.t == 0) with
        | false =>
         have HN:Hid (ANS=none):=by show _=_; rw [← HA.out,HRB.out,HP2.out (by simp [JT,h1])]; rfl
         clear HBR HRB
         go_wp2_with fail
         go_quiet (fail)
         go_wp2_with fail
         go_ret2
         exact⟨by rw [HN.out]; rfl,Qa HB8.out (HD.out _)⟩
        | true =>
         have HP4:Hid (Q4 r (i+1)=true):=by show _=_; rw [HP1.out]; simp [JT,h0,h1]
         clear HP1 HP2
         go_wp2_with fail
         go_quiet (fail)
         go_wp2_with fail
         exact⟨⟨z,i+1,hlt,rfl,rfl,HD.out _,HP4,HP3⟩,by simp only [intOf]; omega⟩
      | true =>
       have HP4:Hid (Q4 r (i+1)=true):=by show _=_; rw [HPS,HPR.out]; simp [J5]
       have HP3:Hid (Qv p (hasI r (i+1))=if d.f != z || decide (d.t≤d.f) then none else some d.t):=by show _=_; rw [HHS,if_pos rfl,JI,HLR.out]; rfl
       have HP5:Hid (Qv p (hasI r (i+1))=none→ANS=none):=fun h=>by rw [← HA.out,HRB.out,HNX h]; simp
       clear HPS HPF HHS HNX HPR HLR
       cases h0:(d.f != z) with
       | true =>
        have HN:Hid (ANS=none):=HP5.out (by rw [HP3.out,h0]; rfl)
        clear HBR HRB
        go_wp2_with fail
        go_quiet (fail)
        go_wp2_with fail
        go_ret2
        exact⟨by rw [HN.out]; rfl,Qa HB8.out (HD.out _)⟩
       | false =>
        have hz:d.f=z:=by simpa using h0
        cases h1:decide (d.t≤z) with
        | true =>
         have HN:Hid (ANS=none):=HP5.out (by rw [HP3.out,hz]; simp [of_decide_eq_true h1])
         clear HBR HRB hz
         go_wp2_with fail
         go_quiet (fail)
         go_wp2_with fail
         go_ret2
         exact⟨by rw [HN.out]; rfl,Qa HB8.out (HD.out _)⟩
        | false =>
         have HP6:Hid (Qv p (hasI r (i+1))=some d.t):=by show _=_; rw [HP3.out,hz]; simp [of_decide_eq_false h1]
         clear hz HP3 HP5
         go_wp2_with fail
         go_quiet (fail)
         go_wp2_with fail
         exact⟨⟨d.t,i+1,hlt,rfl,rfl,HD.out _,HP4,HP6⟩,by simp only [intOf]; omega⟩
     ·obtain rfl:i=4:=by omega
      have HN:Hid (ANS=some z):=by show _=_; rw [← HA.out,HRB.out,HPR.out]; exact HLR.out
      go_wp2_with fail
      go_ret2
      exact⟨by rw [HN.out]; rfl,Qa HB8.out HBR.out⟩
  | false =>
   cases ib with
   | false =>
    have HN:Hid (ANS=none):=by show _=_; rw [← HA.out]; unfold rwN; rw [HIX.out]; simp [Jl,h1,h3]
    go_wp2_with fail
    go_ret2
    exact⟨by rw [HN.out]; rfl,HB3.out⟩
   | true =>
    have HN:Hid (ANS=none):=by show _=_; rw [← HA.out]; unfold rwN; rw [HIX.out]; simp [Jl,h1,h3]
    go_wp2_with fail
    go_ret2
    exact⟨by rw [HN.out]; rfl,HB3.out⟩
end Go.Proofs.YteedmmljahgpjaaGreatDoor
