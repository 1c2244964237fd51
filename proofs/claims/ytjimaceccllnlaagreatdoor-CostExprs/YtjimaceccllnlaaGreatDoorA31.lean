import Derived.Test.YtjimaceccllnlaaGreatDoorA0
import Derived.Test.YtjimaceccllnlaaGreatDoorA30
import Derived.Test.YtjimaceccllnlaaGreatDoorA25
import Derived.Test.YtjimaceccllnlaaGreatDoorA29
import Derived.Test.YtjimaceccllnlaaGreatDoorA19
import Derived.Test.YtjimaceccllnlaaGreatDoorA5
import Derived.Test.YtjimaceccllnlaaGreatDoorA4
import Derived.Test.YtjimaceccllnlaaGreatDoorA2
import Derived.Deep.RegionHeld3
import Derived.Laws.MakeOwn
import Derived.Deep.MidRow
namespace Go.Proofs.YtjimaceccllnlaaGreatDoor
set_option maxRecDepth 100000
set_option maxHeartbeats 16000000
open Go.RowKit
set_option linter.unusedVariables false
set_option linter.unusedSimpArgs false
mutual
def idB:Nd→Nd→Bool
 | .mk g _ _ js, m => (alike g m.h && decide (g.p=m.h.p)) && (decide (js.length=m.ks.length) && idsB js m.ks)
def idsB:List Nd→List Nd→Bool
 | [], _ => true
 | _ :: _, [] => true
 | j :: js, k :: ks => idB j k && idsB js ks
end
theorem trees_len:∀ l:List Nd, (treesOf l).length=l.length
 | [] => rfl
 | k :: l => by simp only [treesOf, List.length_cons, trees_len l]
theorem trees_at:∀ {l l':List Nd}, treesOf l=treesOf l'→∀ i (h1:i < l.length) (h2:i < l'.length), treeOf l[i]=treeOf l'[i]
 | [], _, _, i, h1, _ => absurd h1 (Nat.not_lt_zero _)
 | _ :: _, [], h, _, _, h2 => absurd h2 (Nat.not_lt_zero _)
 | k :: l, k' :: l', h, 0, _, _ => by simp only [treesOf] at h; injection h
 | k :: l, k' :: l', h, i + 1, h1, h2 => by
  simp only [treesOf] at h
  injection h with _ h
  exact trees_at h i (by simpa using h1) (by simpa using h2)
theorem idsB_false:∀ (js ks:List Nd) (i:Nat) (h1:i < js.length) (h2:i < ks.length), idB js[i] ks[i]=false→idsB js ks=false:=by
 intro js
 induction js with
 | nil => intro ks i h1; simp at h1
 | cons j js ih =>
  intro ks i h1 h2 h
  cases ks with
  | nil => simp at h2
  | cons k ks =>
   simp only [idsB]
   cases i with
   | zero => simp at h; rw [h]; rfl
   | succ i =>
    rw [ih ks i (by simpa using h1) (by simpa using h2) (by simpa using h)]
    simp
theorem idsB_true:∀ (js ks:List Nd), (∀ i (h1:i < js.length) (h2:i < ks.length), idB js[i] ks[i]=true)→idsB js ks=true:=by
 intro js
 induction js with
 | nil => intro ks _; cases ks <;> rfl
 | cons j js ih =>
  intro ks h
  cases ks with
  | nil => rfl
  | cons k ks =>
   simp only [idsB, Bool.and_eq_true]
   exact ⟨h 0 (by simp) (by simp), ih ks fun i h1 h2 => h (i + 1) (by simpa using h1) (by simpa using h2)⟩
theorem alikeS (h:Hd):alike h h=true:=by simp [alike]
theorem tree_id:∀ (m k:Nd), treeOf m=treeOf k→idB m k=true:=by
 refine Nd.ind fun h a c ks ih k t => ?_
 cases k with
 | mk g a' c' ks' =>
  rw [treeOf, treeOf] at t
  injection t with t1 t2
  subst t1
  have hl:ks.length=ks'.length:=by
   have:=congrArg List.length t2
   rwa [trees_len, trees_len] at this
  simp only [idB, Nd.h, Nd.ks, alikeS, hl, decide_true, Bool.true_and]
  exact idsB_true ks ks' fun i h1 h2 => ih _ (nth_mem h1) _ (trees_at t2 i h1 h2)
theorem id_head {h g:Hd} {a a':Option Addr} {c c':Nat} {ks ks':List Nd} (n:h=g∧ks.length=ks'.length→False):idB (.mk h a c ks) (.mk g a' c' ks')=false:=by
 cases hb:idB (.mk h a c ks) (.mk g a' c' ks') with
 | false => rfl
 | true =>
  exfalso
  simp only [idB, Nd.h, Nd.ks, alike, Bool.and_eq_true] at hb
  obtain ⟨⟨⟨h1, h2, h3, h4, h5, h6⟩, h7⟩, h8, _⟩:=hb
  refine n ⟨?_, of_decide_eq_true h8⟩
  have h1:=of_decide_eq_true h1
  have h2:=of_decide_eq_true h2
  have h3:=of_decide_eq_true h3
  have h4:=of_decide_eq_true h4
  have h5:=of_decide_eq_true h5
  have h6:=of_decide_eq_true h6
  have h7:=of_decide_eq_true h7
  cases h
  cases g
  simp_all
theorem id_same {h:Hd} {a a':Option Addr} {c c':Nat} {ks ks':List Nd} (hl:ks'.length=ks.length):idB (.mk h a c ks) (.mk h a' c' ks')=idsB ks ks':=by
 simp [idB, Nd.h, Nd.ks, alikeS, hl]
def Smd (m k:Nd) (w:World) (e:Ending) (w':World):Prop:=e=.returned (.bool (idB m k))∧Below w§ w w'
set_option maxRecDepth 100000 in
set_option maxHeartbeats 16000000 in
theorem some_any:∀ (m k:Nd) (w:World), Lies w m→Lies w k→Calls zG 33 #[.agg m.vals, .agg k.vals] w (Smd m k w):=by
 refine Nd.ind fun h a c ks ih k w hl hl' => ?_
 cases k with
 | mk g a' c' ks' =>
 have HI:Hid (∀ j (h1:j < ks.length) (h2:j < ks'.length) (w:World), Lies w ks[j]→Lies w ks'[j]→Calls zG 33 #[.agg ks[j].vals, .agg ks'[j].vals] w (Smd ks[j] ks'[j] w)):=fun j h1 h2 v hv hv' => ih _ (nth_mem h1) _ v hv hv'
 have HL:=hl.hid
 have HL':=hl'.hid
 show Calls zG 33 #[.agg zNd h a ks.length c, .agg zNd g a' ks'.length c'] w _
 clear ih hl hl'
 by_cases n0:¬ h.p=g.p
 ·have HN:Hid (¬ h.p=g.p):=n0
  go_enter Tryz.func33, Tryz.ntmps33
  go_wp2_with fail
  go_ret
  exact ⟨by show Ending.returned (.bool false)=.returned (.bool (idB _ _)); rw [id_head fun t => HN.out (congrArg Hd.p t.1)], below_two _ _ _⟩
 have e0:h.p=g.p:=Classical.not_not.1 n0
 clear n0
 by_cases n1:¬ h.k=g.k
 ·have HN:Hid (¬ h.k=g.k):=n1
  go_enter Tryz.func33, Tryz.ntmps33
  go_wp2_with fail
  go_ret
  exact ⟨by show Ending.returned (.bool false)=.returned (.bool (idB _ _)); rw [id_head fun t => HN.out (congrArg Hd.k t.1)], below_two _ _ _⟩
 have e1:h.k=g.k:=Classical.not_not.1 n1
 clear n1
 by_cases n2:¬ h.o=g.o
 ·have HN:Hid (¬ h.o=g.o):=n2
  go_enter Tryz.func33, Tryz.ntmps33
  go_wp2_with fail
  go_ret
  exact ⟨by show Ending.returned (.bool false)=.returned (.bool (idB _ _)); rw [id_head fun t => HN.out (congrArg Hd.o t.1)], below_two _ _ _⟩
 have e2:h.o=g.o:=Classical.not_not.1 n2
 clear n2
 by_cases n3:¬ h.t=g.t
 ·have HN:Hid (¬ h.t=g.t):=n3
  go_enter Tryz.func33, Tryz.ntmps33
  go_wp2_with fail
  go_ret
  exact ⟨by show Ending.returned (.bool false)=.returned (.bool (idB _ _)); rw [id_head fun t => HN.out (congrArg Hd.t t.1)], below_two _ _ _⟩
 have e3:h.t=g.t:=Classical.not_not.1 n3
 clear n3
 by_cases n4:¬ h.n=g.n
 ·have HN:Hid (¬ h.n=g.n):=n4
  go_enter Tryz.func33, Tryz.ntmps33
  go_wp2_with fail
  go_ret
  exact ⟨by show Ending.returned (.bool false)=.returned (.bool (idB _ _)); rw [id_head fun t => HN.out (congrArg Hd.n t.1)], below_two _ _ _⟩
 have e4:h.n=g.n:=Classical.not_not.1 n4
 clear n4
 by_cases n5:¬ h.f=g.f
 ·have HN:Hid (¬ h.f=g.f):=n5
  go_enter Tryz.func33, Tryz.ntmps33
  go_wp2_with fail
  go_ret
  exact ⟨by show Ending.returned (.bool false)=.returned (.bool (idB _ _)); rw [id_head fun t => HN.out (congrArg Hd.f t.1)], below_two _ _ _⟩
 have e5:h.f=g.f:=Classical.not_not.1 n5
 clear n5
 by_cases n6:¬ h.x=g.x
 ·have s6:=str_ne n6
  have HN:Hid (¬ h.x=g.x):=n6
  go_enter Tryz.func33, Tryz.ntmps33
  go_wp2_with fail
  go_ret
  exact ⟨by show Ending.returned (.bool false)=.returned (.bool (idB _ _)); rw [id_head fun t => HN.out (congrArg Hd.x t.1)], below_two _ _ _⟩
 have e6:h.x=g.x:=Classical.not_not.1 n6
 clear n6
 by_cases n7x:¬ ks.length=ks'.length
 ·have n7:¬ (ks.length:Int)=(ks'.length:Int):=by omega
  have HN:Hid (¬ ks.length=ks'.length):=n7x
  go_enter Tryz.func33, Tryz.ntmps33
  go_wp2_with fail
  go_ret
  exact ⟨by show Ending.returned (.bool false)=.returned (.bool (idB _ _)); rw [id_head fun t => HN.out t.2], below_two _ _ _⟩
 have e7:ks.length=ks'.length:=Classical.not_not.1 n7x
 clear n7x
 obtain rfl:h=g:=by cases h; cases g; simp_all
 clear e0 e1 e2 e3 e4 e5 e6
 have HE:Hid (ks'.length=ks.length):=e7.symm
 rw [← e7]
 clear e7
 go_enter Tryz.func33, Tryz.ntmps33
 go_wp2_with fail
 obtain ⟨W0, eW0⟩:∃ W0, (w.alloc (.cells zNd h a ks.length c 28)).alloc (.cells zNd h a' ks.length c' 28)=W0:=⟨_, rfl⟩
 have HB:Hid (Below w§ w W0):=by rw [← eW0]; exact below_two _ _ _
 have HN0:Hid (W0.heap[w§]?=some (.cells zNd h a ks.length c 28 (0, 0))):=by rw [← eW0]; exact heap_old (Hn _ _) (by rw [Sa]; omega)
 have HN1:Hid (W0.heap[w§ + 1]?=some (.cells zNd h a' ks.length c' 28 (0, 0))):=by rw [← eW0, ← Sa w (.cells zNd h a ks.length c 28)]; exact Hn _ _
 rw [eW0]
 clear eW0
 go_loopw [5, 6] (fun t _ wr => ∃ i:Nat, i≤ks.length∧t=zI i∧Hid (Below W0§ W0 wr)∧Hid (∀ j (h1:j < ks.length) (h2:j < ks'.length), j < i→idB ks[j] ks'[j]=true)) (fun t _ _ => ks.length - (intOf t).toNat)
 case atStart => exact ⟨0, by omega, rfl, Below.refl _ _, fun j _ _ hj => by omega⟩
 case round =>
  obtain ⟨i, hi, rfl, HR, HJ⟩:=hrel
  have q0:wr.heap[w§]?=some (.cells zNd h a ks.length c 28 (0, 0)):=(HR.out.block _ (Array.getElem?_eq_some_iff.1 HN0.out).1).trans HN0.out
  have q1:wr.heap[w§ + 1]?=some (.cells zNd h a' ks.length c' 28 (0, 0)):=(HR.out.block _ (Array.getElem?_eq_some_iff.1 HN1.out).1).trans HN1.out
  have HQ0:Hid (wr.heap[w§]?=some (.cells zNd h a ks.length c 28 (0, 0))):=q0
  have HQ1:Hid (wr.heap[w§ + 1]?=some (.cells zNd h a' ks.length c' 28 (0, 0))):=q1
  have c6:wr.cell? ⟨w§, 6, none⟩=some (.slice a ks.length c):=Co q0 6
  have d6:wr.cell? ⟨w§ + 1, 6, none⟩=some (.slice a' ks.length c'):=Co q1 6
  clear q0 q1
  have HBr:Hid (Below w§ w wr):=below2 HB.out HR.out
  by_cases hlt:i < ks.length
  ·have hlt':(i:Int) < (ks.length:Int):=by omega
   have hlt2:i < ks'.length:=by have:=HE.out; omega
   obtain ⟨b, o, e1, hat⟩:=(HL.out.on HBr.out).kid i hlt
   have e1':a=some ⟨b, o, none⟩:=e1
   have hk1:NdAt wr b (o + i * 8) ks[i]:=hat
   obtain ⟨b', o', e2, hat'⟩:=(HL'.out.on HBr.out).kid i hlt2
   have e2':a'=some ⟨b', o', none⟩:=e2
   have hk2:NdAt wr b' (o' + i * 8) ks'[i]:=hat'
   have cI:=fun v (hv:Below wr§ wr v) => HI.out i hlt hlt2 v (((HL.out.sub _ (nth_mem hlt)).on HBr.out).on hv) (((HL'.out.sub _ (nth_mem hlt2)).on HBr.out).on hv)
   obtain ⟨k, ek⟩:∃ k, ks[i]=k:=⟨_, rfl⟩
   obtain ⟨k', ek'⟩:∃ k, ks'[i]=k:=⟨_, rfl⟩
   have HTW:Hid (idB ks[i] ks'[i]=idB k k'):=by show _=_; rw [ek, ek']
   rw [ek] at hk1 cI
   rw [ek'] at hk2 cI
   have HK1:=hk1.hid
   have HK2:=hk2.hid
   have cI:∀ v, Below wr§ wr v→Calls zG 33 #[.agg zNd k.h k.a k.ks.length k.c, .agg zNd k'.h k'.a k'.ks.length k'.c] v (Smd k k' v):=cI
   rw [e1'] at c6 HQ0
   rw [e2'] at d6 HQ1
   have HKP:Hid (∀ v, GB wr v→v.cell? ⟨w§, 6, none⟩=some (.slice (some ⟨b, o, none⟩) ks.length c)∧v.cell? ⟨w§ + 1, 6, none⟩=some (.slice (some ⟨b', o', none⟩) ks.length c')∧v.cell? ⟨b, o + i * 8, none⟩=some (.int .u8 k.h.k)∧v.cell? ⟨b, o + i * 8 + 1, none⟩=some (.int .u8 k.h.o)∧v.cell? ⟨b, o + i * 8 + 2, none⟩=some (.int .u8 k.h.t)∧v.cell? ⟨b, o + i * 8 + 3, none⟩=some (zI k.h.n)∧v.cell? ⟨b, o + i * 8 + 4, none⟩=some (.int .u8 k.h.f)∧v.cell? ⟨b, o + i * 8 + 5, none⟩=some (.string k.h.x)∧v.cell? ⟨b, o + i * 8 + 6, none⟩=some (.slice k.a k.ks.length k.c)∧v.cell? ⟨b, o + i * 8 + 7, none⟩=some (zI k.h.p)∧v.cell? ⟨b', o' + i * 8, none⟩=some (.int .u8 k'.h.k)∧v.cell? ⟨b', o' + i * 8 + 1, none⟩=some (.int .u8 k'.h.o)∧v.cell? ⟨b', o' + i * 8 + 2, none⟩=some (.int .u8 k'.h.t)∧v.cell? ⟨b', o' + i * 8 + 3, none⟩=some (zI k'.h.n)∧v.cell? ⟨b', o' + i * 8 + 4, none⟩=some (.int .u8 k'.h.f)∧v.cell? ⟨b', o' + i * 8 + 5, none⟩=some (.string k'.h.x)∧v.cell? ⟨b', o' + i * 8 + 6, none⟩=some (.slice k'.a k'.ks.length k'.c)∧v.cell? ⟨b', o' + i * 8 + 7, none⟩=some (zI k'.h.p)∧GB wr v):=fun v hv => by
    have hk1':=HK1.out.on hv
    have hk2':=HK2.out.on hv
    exact ⟨Co ((hv.block _ (Array.getElem?_eq_some_iff.1 HQ0.out).1).trans HQ0.out) 6, Co ((hv.block _ (Array.getElem?_eq_some_iff.1 HQ1.out).1).trans HQ1.out) 6, hk1'.c0, hk1'.c1, hk1'.c2, hk1'.c3, hk1'.c4, hk1'.c5, hk1'.c6, hk1'.c7, hk2'.c0, hk2'.c1, hk2'.c2, hk2'.c3, hk2'.c4, hk2'.c5, hk2'.c6, hk2'.c7, hv⟩
   have hmx:(i:Int) + 1≤9223372036854775807:=by
    have h1:=HL.out.max
    have h2:=HL.out.cap
    simp only [Nd.ks, Nd.c] at h1 h2
    omega
   clear ek ek' e1 e2 e1' e2' hat hat' hk1 hk2
   go_upto_region 6 with fail
   go_region_held3 (fun v => v.cell? ⟨w§, 6, none⟩=some (.slice (some ⟨b, o, none⟩) ks.length c)∧v.cell? ⟨w§ + 1, 6, none⟩=some (.slice (some ⟨b', o', none⟩) ks.length c')∧v.cell? ⟨b, o + i * 8, none⟩=some (.int .u8 k.h.k)∧v.cell? ⟨b, o + i * 8 + 1, none⟩=some (.int .u8 k.h.o)∧v.cell? ⟨b, o + i * 8 + 2, none⟩=some (.int .u8 k.h.t)∧v.cell? ⟨b, o + i * 8 + 3, none⟩=some (zI k.h.n)∧v.cell? ⟨b, o + i * 8 + 4, none⟩=some (.int .u8 k.h.f)∧v.cell? ⟨b, o + i * 8 + 5, none⟩=some (.string k.h.x)∧v.cell? ⟨b, o + i * 8 + 6, none⟩=some (.slice k.a k.ks.length k.c)∧v.cell? ⟨b, o + i * 8 + 7, none⟩=some (zI k.h.p)∧v.cell? ⟨b', o' + i * 8, none⟩=some (.int .u8 k'.h.k)∧v.cell? ⟨b', o' + i * 8 + 1, none⟩=some (.int .u8 k'.h.o)∧v.cell? ⟨b', o' + i * 8 + 2, none⟩=some (.int .u8 k'.h.t)∧v.cell? ⟨b', o' + i * 8 + 3, none⟩=some (zI k'.h.n)∧v.cell? ⟨b', o' + i * 8 + 4, none⟩=some (.int .u8 k'.h.f)∧v.cell? ⟨b', o' + i * 8 + 5, none⟩=some (.string k'.h.x)∧v.cell? ⟨b', o' + i * 8 + 6, none⟩=some (.slice k'.a k'.ks.length k'.c)∧v.cell? ⟨b', o' + i * 8 + 7, none⟩=some (zI k'.h.p)∧GB wr v)
    (exact HKP.out _ (by (repeat (first | with_reducible assumption | with_reducible exact GB.refl _ | with_reducible apply GB.drew | with_reducible apply GB.alloc | with_reducible refine GB.call (by with_reducible assumption) ?_))))
    (first | (go_at_call 33; refine (cI _ ((Below.refl _ _).drew)).mono ?_; rintro e w6 ⟨rfl, hb6⟩))
   all_goals (
    have HB6:Hid (Below W0§ W0 w6):=below2 HR.out (below2 (Below.refl _ _).drew hb6)
    clear hb6
    obtain ⟨r6, er⟩:∃ r, idB k k'=r:=⟨_, rfl⟩
    rw [er]
    have HT6:Hid (idB ks[i] ks'[i]=r6):=HTW.out.trans er
    clear er
    cases r6 with
    | true =>
     go_wp2_with fail
     exact ⟨⟨i + 1, hlt, rfl, HB6, fun j h1 h2 hj => by
      by_cases e:j=i
      ·subst e; exact HT6.out
      ·exact HJ.out j h1 h2 (by omega)⟩, by simp only [intOf]; omega⟩
    | false =>
     go_wp2_with fail
     go_ret
     exact ⟨by show Ending.returned (.bool false)=.returned (.bool (idB _ _)); rw [id_same HE.out, idsB_false ks ks' i hlt hlt2 HT6.out], below2 HB.out HB6.out⟩)
  ·obtain rfl:i=ks.length:=by omega
   have hnot:¬ (ks.length:Int) < (ks.length:Int):=by omega
   go_wp2_with fail
   go_ret
   exact ⟨by show Ending.returned (.bool true)=.returned (.bool (idB _ _)); rw [id_same HE.out, idsB_true ks ks' fun j h1 h2 => HJ.out j h1 h2 h1], HBr.out⟩
inductive Lnt (w:World) (lo:Nat):Nd→Prop
 | mk (h:Hd) (b c:Nat) (ks:List Nd) (hr:Rg h) (hc:c=ks.length + 2) (hm:ks.length≤1000000000000) (hb:lo≤b)
   (m0:w.cell? ⟨b, ks.length * 8 + 7, none⟩=some (zI (-771))) (m1:w.cell? ⟨b, (ks.length + 1) * 8 + 7, none⟩=some (zI (-772)))
   (hk:∀ i (hi:i < ks.length), NdAt w b (i * 8) ks[i]) (hs:∀ k ∈ ks, Lnt w lo k):Lnt w lo (.mk h (some ⟨b, 0, none⟩) c ks)
theorem Lnt.lies {w:World} {lo:Nat} {m:Nd} (h:Lnt w lo m):Lies w m:=by
 induction h with
 | mk h b c ks hr hc hm hb m0 m1 hk hs ih =>
  refine .mk h _ c ks hr (by omega) (by omega) (fun i hi => ⟨b, 0, rfl, ?_⟩) ih
  rw [Nat.zero_add]
  exact hk i hi
theorem Lnt.blk {w w':World} {lo:Nat} {m:Nd} (h:Lnt w lo m) (k:∀ b, lo≤b→b < w§→w'.heap[b]?=w.heap[b]?):Lnt w' lo m:=by
 induction h with
 | mk h b c ks hr hc hm hb m0 m1 hk hs ih =>
  have e:=k b hb (World.block_lt_of_cell? w _ m0)
  exact .mk h b c ks hr hc hm hb (by rw [World.cell?_of_block e]; exact m0) (by rw [World.cell?_of_block e]; exact m1) (fun i hi => (hk i hi).blk e) ih
theorem Lnt.on {w w':World} {lo:Nat} {m:Nd} (h:Lnt w lo m) (k:Below w§ w w'):Lnt w' lo m:=h.blk fun b _ hb => k.block b hb
theorem Lnt.lo {w:World} {lo lo':Nat} {m:Nd} (h:Lnt w lo m) (k:lo'≤lo):Lnt w lo' m:=by
 induction h with
 | mk h b c ks hr hc hm hb m0 m1 hk hs ih => exact .mk h b c ks hr hc hm (Nat.le_trans k hb) m0 m1 hk ih
theorem below_cells {w:World} {B R:Nat} (hR:B≤R):∀ (cs:List Value) (o:Nat) {V:World}, Below B w V→Below B w (V.setCells R o cs)
 | [], _, _, h => h
 | v :: r, o, V, h => by
  rw [World.setCells]
  exact below_cells hR r (o + 1) (h.setCell hR v)
theorem heap_cells (R:Nat):∀ (cs:List Value) (o:Nat) (V:World) (b:Nat), b ≠ R→(V.setCells R o cs).heap[b]?=V.heap[b]?
 | [], _, _, _, _ => rfl
 | v :: r, o, V, b, h => by
  rw [World.setCells]
  exact (heap_cells R r (o + 1) _ b h).trans (Below.heap_setCell _ _ _ _ h)
theorem size_cells (R:Nat):∀ (cs:List Value) (o:Nat) (V:World), (V.setCells R o cs)§=V§
 | [], _, _ => rfl
 | v :: r, o, V => by
  rw [World.setCells]
  exact (size_cells R r (o + 1) _).trans (World.size_setCell ..)
structure Ln (wr:World) (G n:Nat) (L:List Nd):Prop where
 lt:G < wr§
 th:∀ k, k < (n + 2) * 8→(wr.cell? ⟨G, k, none⟩).isSome=true∧wr.frozen? ⟨G, k, none⟩=false
 at_:∀ j (hj:j < L.length), NdAt wr G (j * 8) L[j]
 sub:∀ k ∈ L, Lnt wr (G + 1) k
theorem Ln.on {w w':World} {G n:Nat} {L:List Nd} (h:Ln w G n L) (k:Below w§ w w'):Ln w' G n L:=by
 have e:=k.block G h.lt
 exact ⟨Nat.lt_of_lt_of_le h.lt k.size, fun j hj => by rw [World.cell?_of_block e, World.frozen?_of_block e]; exact h.th j hj, fun j hj => (h.at_ j hj).blk e, fun x hx => (h.sub x hx).on k⟩
theorem Ln.put {w w1:World} {G n:Nat} {L:List Nd} {k:Nd} (h:Ln w G n L) (hb:Below w§ w w1) (hk:Lnt w1 w§ k) (hl:L.length < n):Ln (w1.setCells G (L.length * 8) k.vals.toList) G n (L ++ [k]):=by
 have h1:=h.on hb
 have hsz:k.vals.toList.length=8:=rfl
 have hth:w1.there G (L.length * 8) k.vals.toList.length:=fun j hj => by rw [hsz] at hj; exact h1.th _ (by omega)
 refine ⟨by rw [size_cells]; exact h1.lt, fun j hj => ⟨World.isSome_setCells _ _ _ _ _ (h1.th j hj).1, by rw [World.frozen?_setCells]; exact (h1.th j hj).2⟩, fun j hj => ?_, fun x hx => ?_⟩
 ·rcases Nat.lt_or_ge j L.length with h2 | h2
  ·rw [List.getElem_append_left h2]
   have ho:∀ i, i < 8→(w1.setCells G (L.length * 8) k.vals.toList).cell? ⟨G, j * 8 + i, none⟩=w1.cell? ⟨G, j * 8 + i, none⟩:=fun i hi => World.cell?_setCells_out _ _ _ _ _ (fun _ _ => .inl (by show j * 8 + i < _; omega))
   obtain ⟨c0, c1, c2, c3, c4, c5, c6, c7⟩:=h1.at_ j h2
   exact ⟨(ho 0 (by omega)).trans c0, (ho 1 (by omega)).trans c1, (ho 2 (by omega)).trans c2, (ho 3 (by omega)).trans c3, (ho 4 (by omega)).trans c4, (ho 5 (by omega)).trans c5, (ho 6 (by omega)).trans c6, (ho 7 (by omega)).trans c7⟩
  ·have e:j=L.length:=by rw [List.length_append, List.length_singleton] at hj; omega
   subst e
   rw [List.getElem_append_right (Nat.le_refl _)]
   simp only [Nat.sub_self, List.getElem_cons_zero]
   have hr:=World.rangeAt_setCells_same w1 G (L.length * 8) k.vals.toList hth
   exact ⟨hr 0 _ rfl, hr 1 _ rfl, hr 2 _ rfl, hr 3 _ rfl, hr 4 _ rfl, hr 5 _ rfl, hr 6 _ rfl, hr 7 _ rfl⟩
 ·have hx2:Lnt w1 (G + 1) x:=by
   rcases List.mem_append.1 hx with h3 | h3
   ·exact h1.sub x h3
   ·rw [List.mem_singleton.1 h3]; exact hk.lo h.lt
  exact hx2.blk fun b h4 _ => heap_cells _ _ _ _ _ (by omega)
theorem Ln.mark {w:World} {G n:Nat} {L:List Nd} (h:Ln w G n L) (hl:L.length≤n) (o:Nat) (ho:n * 8≤o) (v:Value):Ln (w.setCell ⟨G, o, none⟩ v) G n L:=by
 have hne:∀ j, j ≠ o→(w.setCell ⟨G, o, none⟩ v).cell? ⟨G, j, none⟩=w.cell? ⟨G, j, none⟩:=fun j hj => World.cell?_setCell_other _ _ _ _ (fun e => hj (by injection e with _ e2; exact e2.symm))
 refine ⟨by rw [World.size_setCell]; exact h.lt, fun j hj => ⟨?_, by rw [World.frozen?_setCell]; exact (h.th j hj).2⟩, fun j hj => ?_, fun x hx => (h.sub x hx).blk fun b h4 _ => Below.heap_setCell _ _ _ _ (by show b ≠ G; omega)⟩
 ·obtain ⟨u, hu⟩:=Option.isSome_iff_exists.1 (h.th j hj).1
  by_cases e:j=o
  ·subst e; rw [World.cell?_setCell_same _ _ _ hu]; rfl
  ·rw [hne j e, hu]; rfl
 ·obtain ⟨c0, c1, c2, c3, c4, c5, c6, c7⟩:=h.at_ j hj
  exact ⟨(hne _ (by omega)).trans c0, (hne _ (by omega)).trans c1, (hne _ (by omega)).trans c2, (hne _ (by omega)).trans c3, (hne _ (by omega)).trans c4, (hne _ (by omega)).trans c5, (hne _ (by omega)).trans c6, (hne _ (by omega)).trans c7⟩
theorem sizeN:(Tryz.prog.info? 28).map (·.size)=some 8:=by kernel_rfl
theorem allN (m:Nd):m.vals.all (·.oneCell')=true:=by simp [Nd.vals, hdA, Value.oneCell']
theorem size_memN:∀ {ks:List Nd} {k:Nd}, k ∈ ks→size k≤sizes ks
 | x :: l, k, h => by
  simp only [sizes]
  rcases List.mem_cons.1 h with e | e
  ·rw [e]; omega
  ·have:=size_memN e; omega
theorem size_kidN {h:Hd} {a:Option Addr} {c:Nat} {ks:List Nd} {k:Nd} (hk:k ∈ ks):size k≤size (.mk h a c ks):=by
 have:=size_memN hk
 simp only [size]
 omega
theorem infN:(Tryz.prog.info? 28).map (fun i => (i.zero, i.size, i.bytes))=some (some (.agg zNo), 8, 72):=by kernel_rfl
theorem madeN (w:World) (n:Nat):Ln (w.alloc (.cells (madeCells zNo ((n + 2) * 8)) 28)) w§ n []:=by
 have hn:=Hn w (.cells (madeCells zNo ((n + 2) * 8)) 28)
 refine ⟨(Array.getElem?_eq_some_iff.1 hn).1, fun k hk => ⟨?_, Fo hn k⟩, fun j hj => absurd hj (Nat.not_lt_zero _), fun k hk => by cases hk⟩
 rw [Co hn, Array.getElem?_eq_getElem (by rw [size_madeCells]; exact hk)]
 rfl
theorem take_trees {ks L:List Nd} {i:Nat} {k:Nd} (h:treesOf L=(treesOf ks).take i) (hi:i < ks.length) (hk:treeOf k=treeOf ks[i]):treesOf (L ++ [k])=(treesOf ks).take (i + 1):=by
 have e1:∀ l:List Nd, treesOf l=l.map treeOf:=fun l => by
  induction l with
  | nil => rfl
  | cons x l ih => simp only [treesOf, List.map_cons, ih]
 rw [e1, e1] at h
 rw [e1, e1, List.map_append, h, List.take_add_one, List.getElem?_map, List.getElem?_eq_getElem hi]
 simp [hk]
def Lent (m:Nd) (w:World) (e:Ending) (w':World):Prop:=∃ m', e=.returned (.agg m'.vals)∧Lnt w' w§ m'∧treeOf m'=treeOf m∧Below w§ w w'
set_option maxRecDepth 100000 in
set_option maxHeartbeats 8000000 in
theorem lend_any:∀ (m:Nd) (w:World), Lies w m→size m≤900000000→Calls zG 11 #[.agg m.vals] w (Lent m w):=by
 refine Nd.ind fun h a c ks ih w hl hz => ?_
 have hn:ks.length≤900000000:=by have:=len_sizes ks; simp only [size] at hz; omega
 obtain ⟨i0, hi, hz0, hz1, hz2⟩:=info_parts infN
 obtain ⟨M, eM⟩:∃ M:Int, (ks.length:Int) + 2=M:=⟨_, rfl⟩
 have hmk:∀ W:World, (Instr.makeSlice 26 (zI M) (zI M)).run zG W=.ok (.slice (some ⟨W§, 0, none⟩) (ks.length + 2) (ks.length + 2)) (W.alloc (.cells (madeCells zNo ((ks.length + 2) * 8)) 28)):=by
  intro W
  have:=run_make (P:=Tryz.prog) W 26 28 i0 _ Tryz.underlying26 hi hz0 .i64 .i64 M M (by omega) (Int.le_refl _) (by rw [hz2]; omega) (by omega)
  rw [this, hz1, show M.toNat=ks.length + 2 by omega]
  rfl
 obtain ⟨K, eK⟩:∃ K, ks.length + 2=K:=⟨_, rfl⟩
 obtain ⟨W, eW⟩:∃ W, (w.alloc (.cells (Nd.mk h a c ks).vals 28)).alloc (.cells zNo 28)=W:=⟨_, rfl⟩
 have hbW:Below w§ w W:=by rw [← eW]; exact below_two _ _ _
 have HI:Hid (∀ k ∈ ks, ∀ (w:World), Lies w k→Calls zG 11 #[.agg k.vals] w (Lent k w)):=fun k hk v hv => ih k hk v hv (Nat.le_trans (size_kidN hk) hz)
 have h0:NdH W w§ (.mk h a c ks):=by rw [← eW]; exact heap_old (Hn _ _) (by rw [Sa]; omega)
 have h1:W.heap[w§ + 1]?=some (.cells zNo 28 (0, 0)):=by
  rw [← eW, ← Sa w (.cells (Nd.mk h a c ks).vals 28)]; exact Hn _ _
 have HBW:Hid (Below w§ w W):=hbW
 have HL:Hid (Lies W (.mk h a c ks)):=hl.on hbW
 have HRg:Hid (Rg h):=hl.rg
 have HWS:Hid (W§=w§ + 2):=by show _=_; rw [← eW, Sa, Sa]
 have H0:=h0.hid
 have H1:Hid (W.heap[w§ + 1]?=some (.cells zNo 28 (0, 0))):=h1
 have HN:Hid (ks.length≤900000000):=hn
 have HMD:Hid (Ln (W.alloc (.cells (madeCells zNo ((ks.length + 2) * 8)) 28)) W§ ks.length []):=madeN W ks.length
 have HMB:Hid (Below W§ W (W.alloc (.cells (madeCells zNo ((ks.length + 2) * 8)) 28))):=Bn _ _
 have HKK:Hid (ks.length + 2=K):=eK
 rw [eK] at hmk HMD HMB
 have HEW:Hid ((w.alloc (.cells zNd h a ks.length c 28)).alloc (.cells zNo 28)=W):=eW
 have q6:W.cell? ⟨w§, 6, none⟩=some (.slice a ks.length c):=Co h0 6
 have hM0:(ks.length:Int) + 2≤9223372036854775807:=by omega
 clear ih hl hz hn hbW h0 h1 eW eK hi hz0 hz1 hz2
 show Calls zG 11 #[.agg zNd h a ks.length c] w _
 go_enter Tryz.func11, Tryz.ntmps11
 go_upto_region 1 with fail
 rw [HEW.out]
 clear HEW
 go_upto_region 2 with fail
 generalize World.alloc W _=V at HMD HMB ⊢
 obtain ⟨G, eG⟩:∃ G, W§=G:=⟨_, rfl⟩
 have HGG:Hid (G=w§ + 2):=by show _=_; rw [← eG]; exact HWS.out
 rw [eG] at HMD ⊢
 clear eG hmk eM hM0 q6
 go_wp2_with fail
 go_loopw [4] (fun t wr => ∃ (i:Nat) (L:List Nd), i≤ks.length∧t=zI i∧Hid (L.length=i)∧Hid (Below W§ W wr)∧Hid (Ln wr G ks.length L)∧Hid (treesOf L=(treesOf ks).take i)) (fun t _ => ks.length - (intOf t).toNat)
 case atStart => exact ⟨0, [], by omega, rfl, rfl, HMB, HMD, rfl⟩
 case round =>
  obtain ⟨i, L, hi, rfl, HLI, HBR, HLN, HTT⟩:=hrel
  have hN:NdH wr w§ (.mk h a c ks):=H0.out.on HBR.out
  have q6:wr.cell? ⟨w§, 6, none⟩=some (.slice a ks.length c):=Co hN 6
  have HNr:=hN.hid
  clear hN
  have HK8:Hid ((K:Int)=(ks.length:Int) + 2):=by have:=HKK.out; show _=_; omega
  by_cases hlt:i < ks.length
  ·have hlt':(i:Int) < (ks.length:Int):=by omega
   have hltK:(i:Int) < (K:Int):=by have:=HK8.out; omega
   obtain ⟨b, o, e1, hat⟩:=(HL.out.on HBR.out).kid i hlt
   have e2:a=some ⟨b, o, none⟩:=e1
   have hk1:NdAt wr b (o + i * 8) ks[i]:=hat
   have cI:=HI.out ks[i] (nth_mem hlt) wr ((HL.out.sub ks[i] (nth_mem hlt)).on HBR.out)
   obtain ⟨k, ek⟩:∃ k, ks[i]=k:=⟨_, rfl⟩
   rw [ek] at hk1 cI
   rw [e2] at q6
   obtain ⟨y0, y1, y2, y3, y4, y5, y6, y7⟩:=hk1
   unfold Nd.vals hdA at cI
   have HEK:Hid (ks[i]=k):=ek
   have hmx:(i:Int) + 1≤9223372036854775807:=by have:=HN.out; omega
   clear ek e1 e2 hat
   go_wp2_with fail
   refine cI.mono ?_
   rintro e w1 ⟨k', rfl, hk1, hk2, hb1⟩
   have HPT:Hid (Ln (w1.setCells G (L.length * 8) k'.vals.toList) G ks.length (L ++ [k'])):=HLN.out.put hb1 hk1 (by rw [HLI.out]; exact hlt)
   have HP2:Hid (Below W§ W (w1.setCells G (L.length * 8) k'.vals.toList)):=below_cells (by have h1:=HGG.out; have h2:=HWS.out; omega) _ _ (below2 HBR.out hb1)
   have HTH:Hid (w1.there G (L.length * 8) k'.vals.size):=fun j hj => by
    have hj8:j < 8:=hj
    exact (HLN.out.on hb1).th _ (by have:=HLI.out; omega)
   have HTK:Hid (treesOf (L ++ [k'])=(treesOf ks).take (i + 1)):=take_trees HTT.out hlt (by rw [hk2, HEK.out])
   rw [HLI.out] at HPT HP2 HTH
   clear cI y0 y1 y2 y3 y4 y5 y6 y7 q6 hk1 hk2 hb1
   go_upto_region 4 with (refine wpList_store_mid rfl 28 (.tmp 25) (.tmp 24) rfl G (i * 8) k'.vals (by simp [Act.eval]) rfl HTH.out sizeN (allN k') ?_)
   generalize World.setCells _ _ _ _=Y at HPT HP2 ⊢
   go_wp2_with fail
   exact ⟨⟨i + 1, L ++ [k'], hlt, rfl, by show _=_; rw [List.length_append, List.length_singleton, HLI.out], HP2, HPT, HTK⟩, by simp only [intOf]; omega⟩
  ·obtain rfl:i=ks.length:=by omega
   have hnot:¬ (ks.length:Int) < (ks.length:Int):=by omega
   have hM:L.length=ks.length:=HLI.out
   have hLt:treesOf L=treesOf ks:=by rw [HTT.out, ← trees_len ks, List.take_length]
   have HLT:Hid (treesOf L=treesOf ks):=hLt
   have k0:(ks.length:Int) < (K:Int):=by have:=HK8.out; omega
   have k1:(ks.length:Int) + 1 < (K:Int):=by have:=HK8.out; omega
   have k2:(ks.length:Int)≤(K:Int):=by omega
   have hmx:(ks.length:Int) + 1≤9223372036854775807:=by have:=HN.out; omega
   obtain ⟨t0a, t0b⟩:=HLN.out.th (ks.length * 8 + 7) (by omega)
   obtain ⟨v0, e0⟩:=Option.isSome_iff_exists.1 t0a
   have HM1:=HLN.out.mark (by omega) (ks.length * 8 + 7) (by omega) (zI (-771))
   obtain ⟨t1a, t1b⟩:=HM1.th ((ks.length + 1) * 8 + 7) (by omega)
   obtain ⟨v1, e1⟩:=Option.isSome_iff_exists.1 t1a
   have HM2:=HM1.mark (by omega) ((ks.length + 1) * 8 + 7) (by omega) (zI (-772))
   have g0:(wr.setCell ⟨G, ks.length * 8 + 7, none⟩ (zI (-771))).cell? ⟨G, ks.length * 8 + 7, none⟩=some (zI (-771)):=World.cell?_setCell_same _ _ _ e0
   have g1:((wr.setCell ⟨G, ks.length * 8 + 7, none⟩ (zI (-771))).setCell ⟨G, (ks.length + 1) * 8 + 7, none⟩ (zI (-772))).cell? ⟨G, (ks.length + 1) * 8 + 7, none⟩=some (zI (-772)):=World.cell?_setCell_same _ _ _ e1
   have g2:((wr.setCell ⟨G, ks.length * 8 + 7, none⟩ (zI (-771))).setCell ⟨G, (ks.length + 1) * 8 + 7, none⟩ (zI (-772))).cell? ⟨G, ks.length * 8 + 7, none⟩=some (zI (-771)):=(World.cell?_setCell_other _ _ _ _ (fun e => by injection e with _ e2; omega)).trans g0
   have hGw:w§ + 2=G:=HGG.out.symm
   have hB1:Below W§ W (wr.setCell ⟨G, ks.length * 8 + 7, none⟩ (zI (-771))):=HBR.out.setCell (by have:=HWS.out; show _≤G; omega) _
   have hB2:Below W§ W ((wr.setCell ⟨G, ks.length * 8 + 7, none⟩ (zI (-771))).setCell ⟨G, (ks.length + 1) * 8 + 7, none⟩ (zI (-772))):=hB1.setCell (by have:=HWS.out; show _≤G; omega) _
   have x0:(wr.setCell ⟨G, ks.length * 8 + 7, none⟩ (zI (-771))).cell? ⟨w§, 6, none⟩=some (.slice a ks.length c):=(World.cell?_of_block (Below.heap_setCell _ _ _ _ (by show w§ ≠ G; omega))).trans q6
   have nd2:NdH ((wr.setCell ⟨G, ks.length * 8 + 7, none⟩ (zI (-771))).setCell ⟨G, (ks.length + 1) * 8 + 7, none⟩ (zI (-772))) w§ (.mk h a c ks):=H0.out.on hB2
   have nr2:((wr.setCell ⟨G, ks.length * 8 + 7, none⟩ (zI (-771))).setCell ⟨G, (ks.length + 1) * 8 + 7, none⟩ (zI (-772))).heap[w§ + 1]?=some (.cells zNo 28 (0, 0)):=(hB2.block _ (Array.getElem?_eq_some_iff.1 H1.out).1).trans H1.out
   have HM2h:Hid (Ln ((wr.setCell ⟨G, ks.length * 8 + 7, none⟩ (zI (-771))).setCell ⟨G, (ks.length + 1) * 8 + 7, none⟩ (zI (-772))) G ks.length L):=HM2
   have HB2h:Hid (Below W§ W ((wr.setCell ⟨G, ks.length * 8 + 7, none⟩ (zI (-771))).setCell ⟨G, (ks.length + 1) * 8 + 7, none⟩ (zI (-772)))):=hB2
   have HG12:Hid (((wr.setCell ⟨G, ks.length * 8 + 7, none⟩ (zI (-771))).setCell ⟨G, (ks.length + 1) * 8 + 7, none⟩ (zI (-772))).cell? ⟨G, (ks.length + 1) * 8 + 7, none⟩=some (zI (-772))∧((wr.setCell ⟨G, ks.length * 8 + 7, none⟩ (zI (-771))).setCell ⟨G, (ks.length + 1) * 8 + 7, none⟩ (zI (-772))).cell? ⟨G, ks.length * 8 + 7, none⟩=some (zI (-771))):=⟨g1, g2⟩
   have HND2:Hid (NdH ((wr.setCell ⟨G, ks.length * 8 + 7, none⟩ (zI (-771))).setCell ⟨G, (ks.length + 1) * 8 + 7, none⟩ (zI (-772))) w§ (.mk h a c ks)):=nd2
   have HNR2:Hid (((wr.setCell ⟨G, ks.length * 8 + 7, none⟩ (zI (-771))).setCell ⟨G, (ks.length + 1) * 8 + 7, none⟩ (zI (-772))).heap[w§ + 1]?=some (.cells zNo 28 (0, 0))):=nr2
   clear t0a t1a HM1 HM2 g0 g1 g2 hB1 hB2 nd2 nr2 hGw hLt HTT hM HLN HBR HNr
   go_upto_region 8 with fail
   generalize hU:World.setCell (World.setCell wr _ _) _ _=U at HM2h HB2h HG12 HND2 HNR2 ⊢
   clear hU e0 e1 t0b t1b x0 q6
   have u6:U.cell? ⟨w§, 6, none⟩=some (.slice a ks.length c):=Co HND2.out 6
   have f6:U.frozen? ⟨w§, 6, none⟩=false:=Fo HND2.out 6
   obtain ⟨Y, eY⟩:∃ Y, U.setCell ⟨w§, 6, none⟩ (.slice (some ⟨G, 0, none⟩) ks.length K)=Y:=⟨_, rfl⟩
   have HEY:Hid (U.setCell ⟨w§, 6, none⟩ (.slice (some ⟨G, 0, none⟩) ks.length K)=Y):=eY
   have HYN:Hid (Y.heap[w§]?=some (.cells (Nd.mk h (some ⟨G, 0, none⟩) K L).vals 28 (0, 0))):=by
    show _=_
    rw [← eY]
    have:=Hs0 (.slice (some ⟨G, 0, none⟩) ks.length K) HND2.out (j:=6)
    rw [this]
    have hl:L.length=ks.length:=HLI.out
    simp [Nd.vals, hdA, Nd.h, Nd.a, Nd.ks, Nd.c, hl]
   have HYR:Hid (Y.heap[w§ + 1]?=some (.cells zNo 28 (0, 0))):=by
    show _=_
    rw [← eY]; exact (Below.heap_setCell _ _ _ _ (by simp)).trans HNR2.out
   have HYO:Hid (∀ b, b ≠ w§→Y.heap[b]?=U.heap[b]?):=fun b hb => by rw [← eY]; exact Below.heap_setCell _ _ _ _ hb
   have HYB:Hid (Below w§ w Y):=by
    show Below _ _ _
    rw [← eY]
    exact (below2 HBW.out HB2h.out).setCell (Nat.le_refl _) _
   have HYS:Hid (Y§=U§):=by show _=_; rw [← eY]; exact World.size_setCell ..
   clear eY
   go_upto_region 9 with fail
   rw [HEY.out]
   clear HEY u6 f6
   have HSR:Hid ((Y.setRow (w§ + 1) (Nd.mk h (some ⟨G, 0, none⟩) K L).vals).heap[w§ + 1]?=some (.cells (Nd.mk h (some ⟨G, 0, none⟩) K L).vals 28 (0, 0))):=setRow_heap _ _ _ _ _ _ HYR.out
   have HSB:Hid (Below w§ w (Y.setRow (w§ + 1) (Nd.mk h (some ⟨G, 0, none⟩) K L).vals)):=below_row HYB.out (by omega) _
   have HLL:Hid (Lnt (Y.setRow (w§ + 1) (Nd.mk h (some ⟨G, 0, none⟩) K L).vals) w§ (.mk h (some ⟨G, 0, none⟩) K L)):=by
    have hG:G=w§ + 2:=HGG.out
    have hl:L.length=ks.length:=HLI.out
    have hoth:∀ b, G≤b→(Y.setRow (w§ + 1) (Nd.mk h (some ⟨G, 0, none⟩) K L).vals).heap[b]?=U.heap[b]?:=fun b hb => (setRow_other _ _ _ _ (by omega)).trans (HYO.out b (by omega))
    have eG:=hoth G (Nat.le_refl _)
    refine .mk h G K L HRg.out (by have:=HKK.out; omega) (by have:=HN.out; omega) (by omega) ?_ ?_ (fun i hi => (HM2h.out.at_ i hi).blk eG) (fun k hk => ((HM2h.out.sub k hk).blk fun b hb _ => hoth b (by omega)).lo (by omega))
    ·rw [World.cell?_of_block eG, hl]; exact HG12.out.2
    ·rw [World.cell?_of_block eG, hl]; exact HG12.out.1
   go_wp2_with (first | (refine wpList_load_row rfl 28 (.tmp 1) rfl w§ rfl 28 (Nd.mk h (some ⟨G, 0, none⟩) K L).vals (0, 0) _ HYN.out Tryz.underlying28 rfl sizeN ?_) | (refine wpList_store_row rfl 28 (.tmp 2) (.tmp 45) rfl (w§ + 1) (Nd.mk h (some ⟨G, 0, none⟩) K L).vals rfl rfl 28 zNo HYR.out sizeN rfl (allN _) ?_))
   exact bodyPost_ret (results_cell_row rfl _ _ (w§ + 1) 28 (Nd.mk h (some ⟨G, 0, none⟩) K L).vals (0, 0) _ rfl HSR.out Tryz.underlying28 rfl sizeN) rfl ⟨_, rfl, HLL.out, by rw [treeOf, treeOf, HLT.out], HSB.out⟩
set_option maxRecDepth 100000 in
set_option maxHeartbeats 8000000 in
theorem room_any:∀ (m:Nd) (w:World) (lo:Nat), Lnt w lo m→Calls zG 34 #[.agg m.vals] w fun e w' => e=.returned (.bool true)∧Below w§ w w':=by
 refine Nd.ind fun h a c ks ih w lo hl => ?_
 cases hl with
 | mk _ b _ _ hr hc hm hb m0 m1 hk hs =>
 have HI:Hid (∀ k ∈ ks, ∀ (w:World), Lnt w lo k→Calls zG 34 #[.agg k.vals] w fun e w' => e=.returned (.bool true)∧Below w§ w w'):=fun k hk v hv => ih k hk v lo hv
 have hb1:=Bn w (.cells zNd h (some ⟨b, 0, none⟩) ks.length c 28)
 have hn1:=Hn w (.cells zNd h (some ⟨b, 0, none⟩) ks.length c 28)
 obtain ⟨W1, e1⟩:∃ W, w.alloc (.cells zNd h (some ⟨b, 0, none⟩) ks.length c 28)=W:=⟨_, rfl⟩
 have E1:Hid (w.alloc (.cells zNd h (some ⟨b, 0, none⟩) ks.length c 28)=W1):=e1
 rw [e1] at hb1 hn1
 have HB1:Hid (Below w§ w W1):=hb1
 have HN1:Hid (W1.heap[w§]?=some (.cells zNd h (some ⟨b, 0, none⟩) ks.length c 28 (0, 0))):=hn1
 have HKS:Hid (∀ i (hi:i < ks.length), NdAt w b (i * 8) ks[i]):=hk
 have HSS:Hid (∀ k ∈ ks, Lnt w lo k):=hs
 have z0:W1.cell? ⟨b, ks.length * 8 + 7, none⟩=some (zI (-771)):=(World.cell?_of_block (hb1.block b (World.block_lt_of_cell? w _ m0))).trans m0
 have z1:W1.cell? ⟨b, (ks.length + 1) * 8 + 7, none⟩=some (zI (-772)):=(World.cell?_of_block (hb1.block b (World.block_lt_of_cell? w _ m0))).trans m1
 have q6:W1.cell? ⟨w§, 6, none⟩=some (.slice (some ⟨b, 0, none⟩) ks.length c):=Co hn1 6
 have k0:(ks.length:Int) + 2=(c:Int):=by omega
 have k1:(ks.length:Int) < (c:Int):=by omega
 have k2:(ks.length:Int) + 1 < (c:Int):=by omega
 have k3:(ks.length:Int) + 2≤9223372036854775807:=by omega
 have k4:(ks.length:Int) + 1≤9223372036854775807:=by omega
 have HMX:Hid (ks.length≤1000000000000):=hm
 clear hb1 hn1 e1 ih hr hc hm hb m0 m1 hk hs
 show Calls zG 34 #[.agg zNd h (some ⟨b, 0, none⟩) ks.length c] w _
 go_enter Tryz.func34, Tryz.ntmps34
 go_upto_region 1 with fail
 rw [E1.out]
 clear E1
 go_upto_region 5 with fail
 clear z0 z1 k0 k1 k2 k3 k4 q6
 go_wp2_with fail
 go_loopw [5, 6] (fun t _ wr => ∃ i:Nat, i≤ks.length∧t=zI i∧Hid (Below W1§ W1 wr)) (fun t _ _ => ks.length - (intOf t).toNat)
 case atStart => exact ⟨0, by omega, rfl, Below.refl _ _⟩
 case round =>
  obtain ⟨i, hi, rfl, HBR⟩:=hrel
  have q6:wr.cell? ⟨w§, 6, none⟩=some (.slice (some ⟨b, 0, none⟩) ks.length c):=Co ((HBR.out.block _ (Array.getElem?_eq_some_iff.1 HN1.out).1).trans HN1.out) 6
  by_cases hlt:i < ks.length
  ·have hlt':(i:Int) < (ks.length:Int):=by omega
   have hmx:(i:Int) + 1≤9223372036854775807:=by have:=HMX.out; omega
   have hat:=(HKS.out i hlt).on (below2 HB1.out HBR.out)
   have hli:=(HSS.out _ (nth_mem hlt)).on (below2 HB1.out HBR.out)
   have HMEM:Hid (ks[i] ∈ ks):=nth_mem hlt
   obtain ⟨k, ek⟩:∃ k, ks[i]=k:=⟨_, rfl⟩
   rw [ek] at hat hli HMEM
   have cI:Calls zG 34 #[.agg zNd k.h k.a k.ks.length k.c] wr fun e w' => e=.returned (.bool true)∧Below wr§ wr w':=HI.out k HMEM.out wr hli
   obtain ⟨y0, y1, y2, y3, y4, y5, y6, y7⟩:=hat
   clear ek hli
   go_wp2_with fail
   refine cI.mono ?_
   rintro e w5 ⟨rfl, hb5⟩
   have HB5:Hid (Below W1§ W1 w5):=below2 HBR.out hb5
   clear cI hb5 y0 y1 y2 y3 y4 y5 y6 y7 q6
   go_wp2_with fail
   exact ⟨⟨i + 1, hlt, rfl, HB5⟩, by simp only [intOf]; omega⟩
  ·obtain rfl:i=ks.length:=by omega
   have hnot:¬ (ks.length:Int) < (ks.length:Int):=by omega
   go_wp2_with fail
   go_ret
   exact ⟨rfl, below2 HB1.out HBR.out⟩
set_option maxRecDepth 100000 in
set_option maxHeartbeats 8000000 in
theorem whole_any (m k:Nd) (w:World) (lo:Nat) (hl:Lnt w lo m) (hk:Lies w k) (ht:treeOf m=treeOf k):Calls zG 13 #[.agg m.vals, .agg k.vals] w fun e w' => e=.returned (.bool true)∧Below w§ w w':=by
 obtain ⟨hn1, hn2⟩:=below2of w m k
 have hb:=below_two w (.cells m.vals 28) (.cells k.vals 28)
 obtain ⟨W1, e1⟩:∃ W, (w.alloc (.cells m.vals 28)).alloc (.cells k.vals 28)=W:=⟨_, rfl⟩
 have E1:Hid ((w.alloc (.cells m.vals 28)).alloc (.cells k.vals 28)=W1):=e1
 rw [e1] at hn1 hn2 hb
 have HN1:Hid (W1.heap[w§]?=some (.cells m.vals 28 (0, 0))):=hn1
 have HN2:Hid (W1.heap[w§ + 1]?=some (.cells k.vals 28 (0, 0))):=hn2
 have HB:Hid (Below w§ w W1):=hb
 have HLM:Hid (Lnt W1 lo m):=hl.on hb
 have cS:=some_any m k W1 (hl.on hb).lies (hk.on hb)
 have hid:idB m k=true:=tree_id m k ht
 clear e1 hn1 hn2 hb hl hk
 go_enter Tryz.func13, Tryz.ntmps13
 go_upto_region 1 with fail
 rw [E1.out]
 clear E1
 go_wp2_with (first | (refine wpList_load_row rfl 28 (.tmp 2) rfl w§ rfl 28 m.vals (0, 0) _ HN1.out Tryz.underlying28 rfl sizeN ?_) | (refine wpList_load_row rfl 28 (.tmp 3) rfl (w§ + 1) rfl 28 k.vals (0, 0) _ HN2.out Tryz.underlying28 rfl sizeN ?_))
 refine cS.mono ?_
 rintro e w2 ⟨rfl, hb2⟩
 rw [hid]
 have HB2:Hid (Below w§ w w2):=below2 HB.out hb2
 have HN3:Hid (w2.heap[w§]?=some (.cells m.vals 28 (0, 0))):=(hb2.block _ (Array.getElem?_eq_some_iff.1 HN1.out).1).trans HN1.out
 have c0:w2.cell? ⟨w§, 0, none⟩=some (.int .u8 m.h.k):=Co HN3.out 0
 have c1:w2.cell? ⟨w§, 1, none⟩=some (.int .u8 m.h.o):=Co HN3.out 1
 have c2:w2.cell? ⟨w§, 2, none⟩=some (.int .u8 m.h.t):=Co HN3.out 2
 have c3:w2.cell? ⟨w§, 3, none⟩=some (zI m.h.n):=Co HN3.out 3
 have c4:w2.cell? ⟨w§, 4, none⟩=some (.int .u8 m.h.f):=Co HN3.out 4
 have c5:w2.cell? ⟨w§, 5, none⟩=some (.string m.h.x):=Co HN3.out 5
 have c6:w2.cell? ⟨w§, 6, none⟩=some (.slice m.a m.ks.length m.c):=Co HN3.out 6
 have c7:w2.cell? ⟨w§, 7, none⟩=some (zI m.h.p):=Co HN3.out 7
 have cR:Calls zG 34 #[.agg zNd m.h m.a m.ks.length m.c] w2 fun e w' => e=.returned (.bool true)∧Below w2§ w2 w':=room_any m w2 lo (HLM.out.on hb2)
 clear cS hb2 hid ht
 go_wp2_with fail
 refine cR.mono ?_
 rintro e w3 ⟨rfl, hb3⟩
 have HB3:Hid (Below w§ w w3):=below2 HB2.out hb3
 clear cR hb3
 go_wp2_with fail
 go_ret
 exact ⟨rfl, HB3.out⟩
theorem sizeD:(Tryz.prog.info? 28).map (·.size)=some 8:=by kernel_rfl
theorem forms_mem:∀ {ks:List Nd} {k:Nd}, formsB ks=true→k ∈ ks→formB k=true
 | x :: l, k, h, hk => by
  simp only [formsB, Bool.and_eq_true] at h
  rcases List.mem_cons.1 hk with e | e
  ·rw [e]; exact h.1
  ·exact forms_mem h.2 e
theorem sizes_mem:∀ {ks:List Nd} {k:Nd}, k ∈ ks→size k≤sizes ks
 | x :: l, k, h => by
  simp only [sizes]
  rcases List.mem_cons.1 h with e | e
  ·rw [e]; omega
  ·have:=sizes_mem e; omega
theorem fit7 {h:Hd} {n:Nat} (hk:h.k=7) (h1:oneH h n=true):n=3:=by
 unfold oneH at h1
 rw [Bool.and_eq_true] at h1
 have h2:=h1.2
 unfold fitB at h2
 simp [hk] at h2
 exact h2
theorem fit9 {h:Hd} {n:Nat} (hk:h.k=9) (h1:oneH h n=true):n=1:=by
 unfold oneH at h1
 rw [Bool.and_eq_true] at h1
 have h2:=h1.2
 unfold fitB at h2
 simp [hk] at h2
 exact h2.1
theorem sum_take:∀ (l:List Nat) (i:Nat) (hi:i < l.length), (l.take (i + 1)).sum=(l.take i).sum + l[i]
 | [], i, hi => absurd hi (Nat.not_lt_zero _)
 | x :: l, 0, hi => by simp
 | x :: l, i + 1, hi => by
  have:=sum_take l i (by simpa using hi)
  simp only [List.take_succ_cons, List.sum_cons, List.getElem_cons_succ, this]
  omega
theorem sum_take_le:∀ (l:List Nat) (i:Nat), (l.take i).sum≤l.sum
 | [], i => by simp
 | x :: l, 0 => by simp
 | x :: l, i + 1 => by simp only [List.take_succ_cons, List.sum_cons]; have:=sum_take_le l i; omega
set_option maxRecDepth 100000 in
set_option maxHeartbeats 8000000 in
theorem rweight_any:∀ (m:Nd) (w:World), Lies w m→formB m=true→size m≤1000000000000→Calls zG 35 #[.agg m.vals] w fun e w' => e=.returned (zI (wgt m))∧Below w§ w w':=by
 refine Nd.ind fun h a c ks ih w hl hf hz => ?_
 have hf':=hf
 simp only [formB, Bool.and_eq_true] at hf'
 have hone:oneH h ks.length=true:=hf'.1
 have HI:Hid (∀ k ∈ ks, ∀ (w:World), Lies w k→Calls zG 35 #[.agg k.vals] w fun e w' => e=.returned (zI (wgt k))∧Below w§ w w'):=fun k hk v hv => ih k hk v hv (forms_mem hf'.2 hk) (by have:=sizes_mem hk; simp only [size] at hz; omega)
 have HWL:Hid (∀ k ∈ ks, wgt k≤2000000000000):=fun k hk => by have h1:=wgt_le k (forms_mem hf'.2 hk); have h2:=sizes_mem hk; simp only [size] at hz; omega
 have HWM:Hid (wgt (.mk h a c ks)≤2000000000000):=by have h1:=wgt_le _ hf; show _≤_; omega
 have HL:Hid (Lies w (.mk h a c ks)):=hl
 have hb1:=Bn w (.cells zNd h a ks.length c 28)
 have hn1:=Hn w (.cells zNd h a ks.length c 28)
 obtain ⟨W1, e1⟩:∃ W, w.alloc (.cells zNd h a ks.length c 28)=W:=⟨_, rfl⟩
 have E1:Hid (w.alloc (.cells zNd h a ks.length c 28)=W1):=e1
 rw [e1] at hb1 hn1
 have HB1:Hid (Below w§ w W1):=hb1
 have HN1:Hid (W1.heap[w§]?=some (.cells zNd h a ks.length c 28 (0, 0))):=hn1
 have q0:W1.cell? ⟨w§, 0, none⟩=some (.int .u8 h.k):=Co hn1 0
 have q6:W1.cell? ⟨w§, 6, none⟩=some (.slice a ks.length c):=Co hn1 6
 have HCP:Hid (ks.length≤9223372036854775807):=by have h1:=hl.cap; have h2:=hl.max; simp only [Nd.ks, Nd.c] at h1 h2; show _≤_; omega
 by_cases h7:h.k=7
 ·have h3:=fit7 h7 hone
  obtain ⟨x, y, z, rfl⟩:∃ x y z, ks=[x, y, z]:=by
   match ks, h3 with
   | [x, y, z], _ => exact ⟨x, y, z, rfl⟩
  obtain ⟨X, eX⟩:∃ q:Int, ((wgt x:Nat):Int)=q:=⟨_, rfl⟩
  obtain ⟨Y, eY⟩:∃ q:Int, ((wgt y:Nat):Int)=q:=⟨_, rfl⟩
  obtain ⟨Qz, eZ⟩:∃ q:Int, ((wgt z:Nat):Int)=q:=⟨_, rfl⟩
  have hX:=HWL.out x (by simp)
  have hY:=HWL.out y (by simp)
  have hZ:=HWL.out z (by simp)
  have hX:0≤X∧X≤2000000000000:=by omega
  have hY:0≤Y∧Y≤2000000000000:=by omega
  have hZ:0≤Qz∧Qz≤2000000000000:=by omega
  obtain ⟨R, eR⟩:∃ R:Int, ((wgt (.mk h a c [x, y, z]):Nat):Int)=R:=⟨_, rfl⟩
  have hW:R=X + (if Qz > Y then Qz else Y) + 2:=by
   rw [← eR]
   simp only [wgt, wgts, h7]
   simp only [show ¬ ((7:Int)=9) by decide, if_false, if_true]
   simp [mxs]
   split <;> omega
  rw [eR]
  obtain ⟨b, o, e2, _⟩:=hl.kid 0 (by simp [Nd.ks])
  have ea:a=some ⟨b, o, none⟩:=e2
  subst ea
  have atx:NdAt W1 b (o + 0 * 8) x:=by
   obtain ⟨b2, o2, e2, hat⟩:=(HL.out.on HB1.out).kid 0 (by simp [Nd.ks])
   have e3:(some ⟨b, o, none⟩:Option Addr)=some ⟨b2, o2, none⟩:=e2
   injection e3 with e3
   injection e3 with e4 e5
   subst e4 e5
   exact hat
  have aty:NdAt W1 b (o + 1 * 8) y:=by
   obtain ⟨b2, o2, e2, hat⟩:=(HL.out.on HB1.out).kid 1 (by simp [Nd.ks])
   have e3:(some ⟨b, o, none⟩:Option Addr)=some ⟨b2, o2, none⟩:=e2
   injection e3 with e3
   injection e3 with e4 e5
   subst e4 e5
   exact hat
  have atz:NdAt W1 b (o + 2 * 8) z:=by
   obtain ⟨b2, o2, e2, hat⟩:=(HL.out.on HB1.out).kid 2 (by simp [Nd.ks])
   have e3:(some ⟨b, o, none⟩:Option Addr)=some ⟨b2, o2, none⟩:=e2
   injection e3 with e3
   injection e3 with e4 e5
   subst e4 e5
   exact hat
  have HX:Hid (NdAt W1 b o x):=by have:=atx; rw [Nat.zero_mul, Nat.add_zero] at this; exact this
  have HY:Hid (NdAt W1 b (o + 8) y):=aty
  have HZ:Hid (NdAt W1 b (o + 16) z):=atz
  have hk:(h.k == 7)=true:=by rw [h7]; rfl
  have HCx:Hid (∀ v, Below w§ w v→Calls zG 35 #[.agg zNd x.h x.a x.ks.length x.c] v fun e w' => e=.returned (zI X)∧Below v§ v w'):=fun v hv => by have:=HI.out x (by simp) v ((HL.out.sub x (by simp [Nd.ks])).on hv); rw [eX] at this; exact this
  have cY:Calls zG 35 #[.agg zNd y.h y.a y.ks.length y.c] W1 fun e w' => e=.returned (zI Y)∧Below W1§ W1 w':=by have:=HI.out y (by simp) W1 ((HL.out.sub y (by simp [Nd.ks])).on HB1.out); rw [eY] at this; exact this
  have HCz:Hid (∀ v, Below w§ w v→Calls zG 35 #[.agg zNd z.h z.a z.ks.length z.c] v fun e w' => e=.returned (zI Qz)∧Below v§ v w'):=fun v hv => by have:=HI.out z (by simp) v ((HL.out.sub z (by simp [Nd.ks])).on hv); rw [eZ] at this; exact this
  obtain ⟨y0, y1, y2, y3, y4, y5, y6, y7⟩:=HY.out
  have l1:(1:Int) < 3:=by decide
  have HW:Hid (R=X + (if Qz > Y then Qz else Y) + 2):=hW
  clear ih hl hf hz hf' hone hb1 hn1 e1 hW h3 eR atx aty atz e2 h7 eX eY eZ HI HWL HWM HCP
  show Calls zG 35 #[.agg zNd h (some ⟨b, o, none⟩) 3 c] w _
  have E1':Hid (w.alloc (.cells zNd h (some ⟨b, o, none⟩) 3 c 28)=W1):=E1.out
  have HN1':Hid (W1.heap[w§]?=some (.cells zNd h (some ⟨b, o, none⟩) 3 c 28 (0, 0))):=HN1.out
  have q6':W1.cell? ⟨w§, 6, none⟩=some (.slice (some ⟨b, o, none⟩) 3 c):=q6
  clear E1 HN1 q6
  go_enter Tryz.func35, Tryz.ntmps35
  go_upto_region 1 with fail
  rw [E1'.out]
  clear E1'
  go_wp2_with fail
  refine cY.mono ?_
  rintro e w2 ⟨rfl, hb2⟩
  have HB2:Hid (Below w§ w w2):=below2 HB1.out hb2
  have HN2:Hid (w2.heap[w§]?=some (.cells zNd h (some ⟨b, o, none⟩) 3 c 28 (0, 0))):=(hb2.block _ (Array.getElem?_eq_some_iff.1 HN1'.out).1).trans HN1'.out
  have HX2:Hid (NdAt w2 b o x):=HX.out.on hb2
  have hz2:=HZ.out.on hb2
  have cZ:=HCz.out w2 HB2.out
  clear cY hb2 y0 y1 y2 y3 y4 y5 y6 y7 q0 q6' HN1' HX HZ HY
  have q6:w2.cell? ⟨w§, 6, none⟩=some (.slice (some ⟨b, o, none⟩) 3 c):=Co HN2.out 6
  obtain ⟨z0, z1, z2, z3, z4, z5, z6, z7⟩:=hz2
  go_wp2_with fail
  refine cZ.mono ?_
  rintro e w3 ⟨rfl, hb3⟩
  have HB3:Hid (Below w§ w w3):=below2 HB2.out hb3
  have HN3:Hid (w3.heap[w§]?=some (.cells zNd h (some ⟨b, o, none⟩) 3 c 28 (0, 0))):=(hb3.block _ (Array.getElem?_eq_some_iff.1 HN2.out).1).trans HN2.out
  have hx3:=HX2.out.on hb3
  have cX:=HCx.out w3 HB3.out
  clear cZ hb3 z0 z1 z2 z3 z4 z5 z6 z7 q6 HN2 HX2
  have q6:w3.cell? ⟨w§, 6, none⟩=some (.slice (some ⟨b, o, none⟩) 3 c):=Co HN3.out 6
  obtain ⟨x0, x1, x2, x3, x4, x5, x6, x7⟩:=hx3
  by_cases hyz:Qz > Y
  ·have HX9:True:=trivial
   have hM2:R=X + Qz + 2:=by rw [HW.out, if_pos hyz]
   have s1:-9223372036854775808≤X + Qz∧X + Qz≤9223372036854775807:=by omega
   have s2:-9223372036854775808≤X + Qz + 2∧X + Qz + 2≤9223372036854775807:=by omega
   have HM2:Hid (R=X + Qz + 2):=hM2
   clear hX hY hZ hM2 HW
   go_wp2_with fail
   refine cX.mono ?_
   rintro e w4 ⟨rfl, hb4⟩
   have HB4:Hid (Below w§ w w4):=below2 HB3.out hb4
   clear cX hb4 x0 x1 x2 x3 x4 x5 x6 x7 q6
   go_wp2_with fail
   go_ret
   exact ⟨by rw [HM2.out]; rfl, HB4.out⟩
  ·have HX9:True:=trivial
   have hM2:R=X + Y + 2:=by rw [HW.out, if_neg hyz]
   have s1:-9223372036854775808≤X + Y∧X + Y≤9223372036854775807:=by omega
   have s2:-9223372036854775808≤X + Y + 2∧X + Y + 2≤9223372036854775807:=by omega
   have HM2:Hid (R=X + Y + 2):=hM2
   clear hX hY hZ hM2 HW
   go_wp2_with fail
   refine cX.mono ?_
   rintro e w4 ⟨rfl, hb4⟩
   have HB4:Hid (Below w§ w w4):=below2 HB3.out hb4
   clear cX hb4 x0 x1 x2 x3 x4 x5 x6 x7 q6
   go_wp2_with fail
   go_ret
   exact ⟨by rw [HM2.out]; rfl, HB4.out⟩
 ·obtain ⟨R, eR⟩:∃ R, wgt (.mk h a c ks)=R:=⟨_, rfl⟩
  obtain ⟨B, eB⟩:∃ B:Nat, (if h.k=9 then 0 else 1)=B:=⟨_, rfl⟩
  have HR:Hid (R=B + (ks.map wgt).sum):=by
   show _=_
   rw [← eR, ← eB]
   simp only [wgt, wgts_map]
   by_cases h9:h.k=9
   ·have h1:=fit9 h9 hone
    match ks, h1 with
    | [x], _ => simp [h9]
   ·simp [h9, h7]
  have HR2:Hid (R≤2000000000000):=by show _≤_; rw [← eR]; exact HWM.out
  rw [eR]
  have hk7:(h.k == 7)=false:=beq_false_of_ne h7
  have hB1:B≤1:=by rw [← eB]; split <;> omega
  have HBB:Hid (B≤1):=hB1
  show Calls zG 35 #[.agg zNd h a ks.length c] w _
  cases h9:(h.k == 9) with
  | true =>
   have hB0:B=0:=by rw [← eB, if_pos (by simpa using h9)]
   subst hB0
   clear ih hl hf hz hf' hone hb1 hn1 e1 h7 eR eB hB1
   go_enter Tryz.func35, Tryz.ntmps35
   go_upto_region 1 with fail
   rw [E1.out]
   clear E1
   go_upto_region 10 with fail
   clear h9 hk7 q0 q6
   go_wp2_with fail
   go_loopw [5, 6] (fun f t wr => ∃ (i:Nat) (S:Nat), i≤ks.length∧t=zI i∧f=zI (S:Nat)∧Hid (S=0 + ((ks.map wgt).take i).sum)∧Hid (Below w§ w wr)∧Hid (wr.heap[w§]?=some (.cells zNd h a ks.length c 28 (0, 0)))) (fun _ t _ => ks.length - (intOf t).toNat)
   case atStart => exact ⟨0, 0, by omega, rfl, rfl, by show _=_; simp, HB1, HN1⟩
   case round =>
    obtain ⟨i, S, hi, rfl, rfl, HS, HBR, HNR⟩:=hrel
    have x6:wr.cell? ⟨w§, 6, none⟩=some (.slice a ks.length c):=Co HNR.out 6
    by_cases hlt:i < ks.length
    ·have hlt':(i:Int) < (ks.length:Int):=by omega
     have hmx:(i:Int) + 1≤9223372036854775807:=by have:=HCP.out; omega
     obtain ⟨b, o, e, hat⟩:=(HL.out.on HBR.out).kid i hlt
     have e2:a=some ⟨b, o, none⟩:=e
     clear e
     subst e2
     have hat2:NdAt wr b (o + i * 8) ks[i]:=hat
     have cI:=HI.out ks[i] (nth_mem hlt) wr ((HL.out.sub _ (nth_mem hlt)).on HBR.out)
     have hS2:S + wgt ks[i]=0 + ((ks.map wgt).take (i + 1)).sum:=by
      rw [sum_take _ i (by simpa using hlt), List.getElem_map, HS.out]; omega
     have hSle:S + wgt ks[i]≤2000000000000:=by
      have h1:=sum_take_le (ks.map wgt) (i + 1)
      have h2:=HR.out
      have h3:=HR2.out
      omega
     obtain ⟨k, ek⟩:∃ k, ks[i]=k:=⟨_, rfl⟩
     rw [ek] at hat2 cI hS2 hSle
     obtain ⟨z0, z1, z2, z3, z4, z5, z6, z7⟩:=hat2
     obtain ⟨q, eq⟩:∃ q, wgt k=q:=⟨_, rfl⟩
     rw [eq] at cI hS2 hSle
     have cI:Calls zG 35 #[.agg zNd k.h k.a k.ks.length k.c] wr fun e w' => e=.returned (zI (q:Nat))∧Below wr§ wr w':=cI
     have hsum:(S:Int) + (q:Int)≤9223372036854775807:=by omega
     have HS2:Hid (S + q=0 + ((ks.map wgt).take (i + 1)).sum):=hS2
     clear ek eq hat hS2 hSle HS
     go_wp2_with fail
     refine cI.mono ?_
     rintro e w5 ⟨rfl, hb5⟩
     have HB5:Hid (Below w§ w w5):=below2 HBR.out hb5
     have HN5:Hid (w5.heap[w§]?=some (.cells zNd h (some ⟨b, o, none⟩) ks.length c 28 (0, 0))):=(hb5.block _ (Array.getElem?_eq_some_iff.1 HNR.out).1).trans HNR.out
     clear cI hb5 z0 z1 z2 z3 z4 z5 z6 z7 x6
     go_wp2_with fail
     exact ⟨⟨i + 1, S + q, hlt, rfl, by simp, HS2, HB5, HN5⟩, by simp only [intOf]; omega⟩
    ·obtain rfl:i=ks.length:=by omega
     have hnot:¬ (ks.length:Int) < (ks.length:Int):=by omega
     have HF:Hid (R=S):=by
      have h1:=HS.out
      rw [show ((ks.map wgt).take ks.length)=ks.map wgt from List.take_of_length_le (by simp)] at h1
      show _=_
      rw [HR.out, h1]
     clear HS
     go_wp2_with fail
     go_ret
     exact ⟨by rw [HF.out]; rfl, HBR.out⟩
  | false =>
   have hB0:B=1:=by rw [← eB, if_neg (by simpa using h9)]
   subst hB0
   clear ih hl hf hz hf' hone hb1 hn1 e1 h7 eR eB hB1
   go_enter Tryz.func35, Tryz.ntmps35
   go_upto_region 1 with fail
   rw [E1.out]
   clear E1
   go_upto_region 10 with fail
   clear h9 hk7 q0 q6
   go_wp2_with fail
   go_loopw [5, 6] (fun f t wr => ∃ (i:Nat) (S:Nat), i≤ks.length∧t=zI i∧f=zI (S:Nat)∧Hid (S=1 + ((ks.map wgt).take i).sum)∧Hid (Below w§ w wr)∧Hid (wr.heap[w§]?=some (.cells zNd h a ks.length c 28 (0, 0)))) (fun _ t _ => ks.length - (intOf t).toNat)
   case atStart => exact ⟨0, 1, by omega, rfl, rfl, by show _=_; simp, HB1, HN1⟩
   case round =>
    obtain ⟨i, S, hi, rfl, rfl, HS, HBR, HNR⟩:=hrel
    have x6:wr.cell? ⟨w§, 6, none⟩=some (.slice a ks.length c):=Co HNR.out 6
    by_cases hlt:i < ks.length
    ·have hlt':(i:Int) < (ks.length:Int):=by omega
     have hmx:(i:Int) + 1≤9223372036854775807:=by have:=HCP.out; omega
     obtain ⟨b, o, e, hat⟩:=(HL.out.on HBR.out).kid i hlt
     have e2:a=some ⟨b, o, none⟩:=e
     clear e
     subst e2
     have hat2:NdAt wr b (o + i * 8) ks[i]:=hat
     have cI:=HI.out ks[i] (nth_mem hlt) wr ((HL.out.sub _ (nth_mem hlt)).on HBR.out)
     have hS2:S + wgt ks[i]=1 + ((ks.map wgt).take (i + 1)).sum:=by
      rw [sum_take _ i (by simpa using hlt), List.getElem_map, HS.out]; omega
     have hSle:S + wgt ks[i]≤2000000000000:=by
      have h1:=sum_take_le (ks.map wgt) (i + 1)
      have h2:=HR.out
      have h3:=HR2.out
      omega
     obtain ⟨k, ek⟩:∃ k, ks[i]=k:=⟨_, rfl⟩
     rw [ek] at hat2 cI hS2 hSle
     obtain ⟨z0, z1, z2, z3, z4, z5, z6, z7⟩:=hat2
     obtain ⟨q, eq⟩:∃ q, wgt k=q:=⟨_, rfl⟩
     rw [eq] at cI hS2 hSle
     have cI:Calls zG 35 #[.agg zNd k.h k.a k.ks.length k.c] wr fun e w' => e=.returned (zI (q:Nat))∧Below wr§ wr w':=cI
     have hsum:(S:Int) + (q:Int)≤9223372036854775807:=by omega
     have HS2:Hid (S + q=1 + ((ks.map wgt).take (i + 1)).sum):=hS2
     clear ek eq hat hS2 hSle HS
     go_wp2_with fail
     refine cI.mono ?_
     rintro e w5 ⟨rfl, hb5⟩
     have HB5:Hid (Below w§ w w5):=below2 HBR.out hb5
     have HN5:Hid (w5.heap[w§]?=some (.cells zNd h (some ⟨b, o, none⟩) ks.length c 28 (0, 0))):=(hb5.block _ (Array.getElem?_eq_some_iff.1 HNR.out).1).trans HNR.out
     clear cI hb5 z0 z1 z2 z3 z4 z5 z6 z7 x6
     go_wp2_with fail
     exact ⟨⟨i + 1, S + q, hlt, rfl, by simp, HS2, HB5, HN5⟩, by simp only [intOf]; omega⟩
    ·obtain rfl:i=ks.length:=by omega
     have hnot:¬ (ks.length:Int) < (ks.length:Int):=by omega
     have HF:Hid (R=S):=by
      have h1:=HS.out
      rw [show ((ks.map wgt).take ks.length)=ks.map wgt from List.take_of_length_le (by simp)] at h1
      show _=_
      rw [HR.out, h1]
     clear HS
     go_wp2_with fail
     go_ret
     exact ⟨by rw [HF.out]; rfl, HBR.out⟩
set_option maxRecDepth 100000 in
theorem rexpr_any (m:Nd) (w:World) (hl:Lies w m) (hz:size m≤1000000000000):Calls zG 14 #[.agg m.vals] w fun e w' => e=.returned (zI (exW m))∧Below w§ w w':=by
 have hb1:=Bn w (.cells m.vals 28)
 have hn1:=Hn w (.cells m.vals 28)
 obtain ⟨W1, e1⟩:∃ W, w.alloc (.cells m.vals 28)=W:=⟨_, rfl⟩
 have E1:Hid (w.alloc (.cells m.vals 28)=W1):=e1
 rw [e1] at hb1 hn1
 have HB1:Hid (Below w§ w W1):=hb1
 have HN1:Hid (W1.heap[w§]?=some (.cells m.vals 28 (0, 0))):=hn1
 have HL:Hid (Lies w m):=hl
 have HZ:Hid (size m≤1000000000000):=hz
 have cF:=formed_any m W1 (hl.on hb1)
 clear e1 hb1 hn1 hl hz
 go_enter Tryz.func14, Tryz.ntmps14
 go_upto_region 1 with fail
 rw [E1.out]
 clear E1
 go_wp2_with (refine wpList_load_row rfl 28 (.tmp 1) rfl w§ rfl 28 m.vals (0, 0) _ HN1.out Tryz.underlying28 rfl sizeD ?_)
 refine cF.mono ?_
 rintro e w2 ⟨rfl, hb2⟩
 have HB2:Hid (Below w§ w w2):=below2 HB1.out hb2
 have HN2:Hid (w2.heap[w§]?=some (.cells m.vals 28 (0, 0))):=(hb2.block _ (Array.getElem?_eq_some_iff.1 HN1.out).1).trans HN1.out
 clear cF hb2 HN1
 cases hf:formB m with
 | true =>
  have cW:=rweight_any m w2 (HL.out.on HB2.out) hf HZ.out
  have HE:Hid (exW m=wgt m):=if_pos hf
  clear hf
  go_wp2_with (refine wpList_load_row rfl 28 (.tmp 1) rfl w§ rfl 28 m.vals (0, 0) _ HN2.out Tryz.underlying28 rfl sizeD ?_)
  refine cW.mono ?_
  rintro e w3 ⟨rfl, hb3⟩
  have HB3:Hid (Below w§ w w3):=below2 HB2.out hb3
  clear cW hb3
  go_wp2_with fail
  go_ret
  exact ⟨by rw [HE.out]; rfl, HB3.out⟩
 | false =>
  have HE:Hid (exW m=0):=if_neg (by rw [hf]; decide)
  clear hf
  go_wp2_with fail
  go_ret
  exact ⟨by rw [HE.out]; rfl, HB2.out⟩
def zNN:Array Value:=zNo
theorem tree_exW {m k:Nd} (h:treeOf m=treeOf k):exW m=exW k:=by
 have e:bare m=bare k:=congrArg ndT h
 unfold exW
 rw [← formB_b m, ← formB_b k, ← wgt_b m, ← wgt_b k, e]
theorem tree_size {m k:Nd} (h:treeOf m=treeOf k):size m=size k:=by
 have e:bare m=bare k:=congrArg ndT h
 rw [← size_b m, ← size_b k, e]
set_option maxRecDepth 100000 in
set_option maxHeartbeats 4000000 in
theorem exprs16 (m:Nd) (w:World) (hl:Lies w m) (ht:Tab w) (hf:FTab w) (hg:Ety w):Calls zG 3 #[.agg m.vals] w fun e w' => e=.returned (.bool true)∧Below w§ w w':=by
 have HL:Hid (Lies w m):=hl
 have HT:Hid (Tab w):=ht
 have hb1:=Bn w (.cells m.vals 28)
 have hn1:=Hn w (.cells m.vals 28)
 obtain ⟨W1, e1⟩:∃ W, w.alloc (.cells m.vals 28)=W:=⟨_, rfl⟩
 have E1:Hid (w.alloc (.cells m.vals 28)=W1):=e1
 rw [e1] at hb1 hn1
 have HB1:Hid (Below w§ w W1):=hb1
 have HN1:Hid (W1.heap[w§]?=some (.cells m.vals 28 (0, 0))):=hn1
 have cA:=awake_any W1 (ht.on hb1) (hf.on hb1) (hg.on hb1)
 clear hb1 hn1 e1 hl ht hf hg
 go_enter Tryz.func3, Tryz.ntmps3
 go_upto_region 1 with fail
 rw [E1.out]
 clear E1
 go_wp2_with fail
 refine cA.mono ?_
 rintro e w2 ⟨rfl, hb2⟩
 have HB2:Hid (Below w§ w w2):=below2 HB1.out hb2
 have HN2:Hid (w2.heap[w§]?=some (.cells m.vals 28 (0, 0))):=(hb2.block _ (Array.getElem?_eq_some_iff.1 HN1.out).1).trans HN1.out
 have cF:=far_any m w2 (HL.out.on HB2.out)
 clear cA hb2 HB1 HN1
 go_wp2_with (refine wpList_load_row rfl 28 (.tmp 1) rfl w§ rfl 28 m.vals (0, 0) _ HN2.out Tryz.underlying28 rfl sizeN ?_)
 refine cF.mono ?_
 rintro e w3 ⟨⟨b, rfl, hfar⟩, hb3⟩
 have HB3:Hid (Below w§ w w3):=below2 HB2.out hb3
 have HN3:Hid (w3.heap[w§]?=some (.cells m.vals 28 (0, 0))):=(hb3.block _ (Array.getElem?_eq_some_iff.1 HN2.out).1).trans HN2.out
 clear cF hb3 HB2 HN2
 cases b with
 | true =>
  clear hfar
  go_wp2_with fail
  go_ret
  exact ⟨rfl, HB3.out⟩
 | false =>
  have HZ:Hid (size m≤1048576):=Nat.le_trans (size_wt m) (hfar rfl)
  have cL:=lend_any m w3 (HL.out.on HB3.out) (by have:=HZ.out; omega)
  clear hfar
  go_wp2_with (refine wpList_load_row rfl 28 (.tmp 1) rfl w§ rfl 28 m.vals (0, 0) _ HN3.out Tryz.underlying28 rfl sizeN ?_)
  refine cL.mono ?_
  rintro e w4 ⟨x, rfl, hx, hxt, hb4⟩
  have HZ4:Hid ((w4.alloc (.cells zNN 28)).heap[w4§]?=some (.cells zNN 28 (0, 0))):=Hn _ _
  have hbx:Below w4§ w4 ((w4.alloc (.cells zNN 28)).setRow w4§ x.vals):=below_row (Bn _ _) (Nat.le_refl _) _
  have HB5:Hid (Below w§ w ((w4.alloc (.cells zNN 28)).setRow w4§ x.vals)):=below2 (below2 HB3.out hb4) hbx
  have HX5:Hid (Lnt ((w4.alloc (.cells zNN 28)).setRow w4§ x.vals) w3§ x):=hx.on hbx
  have HN5:Hid (((w4.alloc (.cells zNN 28)).setRow w4§ x.vals).heap[w4§]?=some (.cells x.vals 28 (0, 0))):=setRow_heap _ _ _ _ _ _ HZ4.out
  have HM5:Hid (((w4.alloc (.cells zNN 28)).setRow w4§ x.vals).heap[w§]?=some (.cells m.vals 28 (0, 0))):=((below2 hb4 hbx).block _ (Array.getElem?_eq_some_iff.1 HN3.out).1).trans HN3.out
  have HXT:Hid (treeOf x=treeOf m):=hxt
  clear cL hb4 hbx hx hxt HB3 HN3
  go_upto_region 6 with (refine wpList_store_row rfl 28 (.tmp 5) (.tmp 18) rfl w4§ x.vals rfl rfl 28 zNN HZ4.out sizeN rfl (allN x) ?_)
  rw [show (w4.alloc (.cells zNo 28))=w4.alloc (.cells zNN 28) from rfl]
  generalize World.setRow _ _ _=W5 at HB5 HX5 HN5 HM5 ⊢
  generalize w4§=G5 at HN5 ⊢
  clear HZ4
  obtain ⟨E, eE⟩:∃ q, ((exW m:Nat):Int)=q:=⟨_, rfl⟩
  have cE:=cexpr_any x W5 HX5.out.lies (by rw [tree_size HXT.out]; have:=HZ.out; omega) (HT.out.on HB5.out)
  rw [tree_exW HXT.out, eE] at cE
  go_wp2_with (refine wpList_load_row rfl 28 (.tmp 5) rfl G5 rfl 28 x.vals (0, 0) _ HN5.out Tryz.underlying28 rfl sizeN ?_)
  refine cE.mono ?_
  rintro e w6 ⟨rfl, hb6⟩
  have HB6:Hid (Below w§ w w6):=below2 HB5.out hb6
  have HN6:Hid (w6.heap[G5]?=some (.cells x.vals 28 (0, 0))):=(hb6.block _ (Array.getElem?_eq_some_iff.1 HN5.out).1).trans HN5.out
  have HM6:Hid (w6.heap[w§]?=some (.cells m.vals 28 (0, 0))):=(hb6.block _ (Array.getElem?_eq_some_iff.1 HM5.out).1).trans HM5.out
  have cW:=whole_any x m w6 _ (HX5.out.on hb6) (HL.out.on HB6.out) HXT.out
  clear cE hb6 HB5 HN5 HM5
  go_wp2_with (first | (refine wpList_load_row rfl 28 (.tmp 5) rfl G5 rfl 28 x.vals (0, 0) _ HN6.out Tryz.underlying28 rfl sizeN ?_) | (refine wpList_load_row rfl 28 (.tmp 1) rfl w§ rfl 28 m.vals (0, 0) _ HM6.out Tryz.underlying28 rfl sizeN ?_))
  refine cW.mono ?_
  rintro e w7 ⟨rfl, hb7⟩
  have HB7:Hid (Below w§ w w7):=below2 HB6.out hb7
  have HM7:Hid (w7.heap[w§]?=some (.cells m.vals 28 (0, 0))):=(hb7.block _ (Array.getElem?_eq_some_iff.1 HM6.out).1).trans HM6.out
  have cR:=rexpr_any m w7 (HL.out.on HB7.out) (by have:=HZ.out; omega)
  rw [eE] at cR
  clear cW hb7 HB6 HN6 HM6 eE
  go_wp2_with (refine wpList_load_row rfl 28 (.tmp 1) rfl w§ rfl 28 m.vals (0, 0) _ HM7.out Tryz.underlying28 rfl sizeN ?_)
  refine cR.mono ?_
  rintro e w8 ⟨rfl, hb8⟩
  have HB8:Hid (Below w§ w w8):=below2 HB7.out hb8
  clear cR hb8
  go_wp2_with fail
  go_ret
  exact ⟨by simp, HB8.out⟩
end Go.Proofs.YtjimaceccllnlaaGreatDoor
