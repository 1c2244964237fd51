import Derived.Test.YtkfabnchhjfjjaaGreatDoorA0
import Derived.Test.YtkfabnchhjfjjaaGreatDoorA31
import Derived.RangeFuncNested
import Derived.RangeFuncBound
import Derived.RangeFuncCalls
import Derived.RangeFuncLeaves
import Derived.Shelf.Abstract
import Derived.Shelf.RegionOpen
import Derived.OwnWalkIn
import Derived.TacticsInMore
import Derived.LoopNIn
import Derived.LoopIn
import Derived.Test.YtkfabnchhjfjjaaGreatDoorA18
import Derived.Test.YtkfabnchhjfjjaaGreatDoorA33
namespace Go.Proofs.YtkfabnchhjfjjaaGreatDoor
open Go.RowKit
mutual
def idB : Nd → Nd → Bool
 | .mk g _ _ js,m => (alike g m.h && decide (g.p = m.h.p)) && (decide (js.length = m.ks.length) && idsB js m.ks)
def idsB : List Nd → List Nd → Bool
 | [],_ => true
 | _ :: _,[] => true
 | j :: js,k :: ks => idB j k && idsB js ks
end
theorem idsB_false : ∀ (js ks : List Nd) (i : Nat) (h1 : i < js.length) (h2 : i < ks.length),idB js[i] ks[i] = false → idsB js ks = false := by
 intro js
 induction js with
 | nil => intro ks i h1; simp at h1
 | cons j js ih =>
  intro ks i h1 h2 h
  cases ks with
  | nil => simp at h2
  | cons k ks =>
   simp only [idsB]
   cases i with
   | zero => simp at h; rw [h]; rfl
   | succ i =>
    rw [ih ks i (by simpa using h1) (by simpa using h2) (by simpa using h)]
    simp
theorem idsB_true : ∀ (js ks : List Nd),(∀ i (h1 : i < js.length) (h2 : i < ks.length),idB js[i] ks[i] = true) → idsB js ks = true := by
 intro js
 induction js with
 | nil => intro ks _; cases ks <;> rfl
 | cons j js ih =>
  intro ks h
  cases ks with
  | nil => rfl
  | cons k ks =>
   simp only [idsB,Bool.and_eq_true]
   exact ⟨h 0 (by simp) (by simp),ih ks fun i h1 h2 => h (i + 1) (by simpa using h1) (by simpa using h2)⟩
theorem alikeS (h : Hd) : alike h h = true := by simp [alike]
theorem twin_id : ∀ (m k : Nd),Twin m k → idB m k = true := by
 refine Nd.ind fun h a c ks ih k t => ?_
 cases t with
 | mk _ _ a' _ c' _ ks' hl hk =>
  simp only [idB,Nd.h,Nd.ks,alikeS,hl,decide_true,Bool.true_and]
  exact idsB_true ks ks' fun i h1 h2 => ih _ (nth_mem h1) _ (hk i h1 h2)
theorem id_head {h g : Hd} {a a' : Option Addr} {c c' : Nat} {ks ks' : List Nd} (n : h = g ∧ ks.length = ks'.length → False) : idB (.mk h a c ks) (.mk g a' c' ks') = false := by
 cases hb : idB (.mk h a c ks) (.mk g a' c' ks') with
 | false => rfl
 | true =>
  exfalso
  simp only [idB,Nd.h,Nd.ks,alike,Bool.and_eq_true] at hb
  obtain ⟨⟨⟨h1,h2,h3,h4,h5,h6⟩,h7⟩,h8,_⟩ := hb
  refine n ⟨?_,of_decide_eq_true h8⟩
  have h1 := of_decide_eq_true h1
  have h2 := of_decide_eq_true h2
  have h3 := of_decide_eq_true h3
  have h4 := of_decide_eq_true h4
  have h5 := of_decide_eq_true h5
  have h6 := of_decide_eq_true h6
  have h7 := of_decide_eq_true h7
  cases h
  cases g
  simp_all
theorem id_same {h : Hd} {a a' : Option Addr} {c c' : Nat} {ks ks' : List Nd} (hl : ks'.length = ks.length) : idB (.mk h a c ks) (.mk h a' c' ks') = idsB ks ks' := by
 simp [idB,Nd.h,Nd.ks,alikeS,hl]
def Smd (m k : Nd) (w : World) (e : Ending) (w' : World) : Prop := e = .returned (.bool (idB m k)) ∧ Below w§ w w'
set_option maxRecDepth 100000 in
set_option maxHeartbeats 16000000 in
theorem some_any : ∀ (m k : Nd) (w : World),Lies w m → Lies w k → Calls zG 18 #[.agg m.vals,.agg k.vals] w (Smd m k w) := by
 refine Nd.ind fun h a c ks ih k w hl hl' => ?_
 cases k with
 | mk g a' c' ks' =>
 have HI : Hid (∀ j (h1 : j < ks.length) (h2 : j < ks'.length) (w : World),Lies w ks[j] → Lies w ks'[j] → Calls zG 18 #[.agg ks[j].vals,.agg ks'[j].vals] w (Smd ks[j] ks'[j] w)) := fun j h1 h2 v hv hv' => ih _ (nth_mem h1) _ v hv hv'
 have HL := hl.hid
 have HL' := hl'.hid
 show Calls zG 18 #[.agg #[zU h.k,zU h.o,zU h.t,zI h.n,zU h.f,.string h.x,.slice a ks.length c,zI h.p],.agg #[zU g.k,zU g.o,zU g.t,zI g.n,zU g.f,.string g.x,.slice a' ks'.length c',zI g.p]] w _
 clear ih hl hl'
 by_cases n0 : ¬ h.p = g.p
 ·have HN : Hid (¬ h.p = g.p) := n0
  go_enter Tryz.func18,Tryz.ntmps18
  go_wp2_with fail
  go_ret
  exact ⟨by show Ending.returned (.bool false) = .returned (.bool (idB _ _)); rw [id_head fun t => HN.out (congrArg Hd.p t.1)],below_two _ _ _⟩
 have e0 : h.p = g.p := Classical.not_not.1 n0
 clear n0
 by_cases n1 : ¬ h.k = g.k
 ·have HN : Hid (¬ h.k = g.k) := n1
  go_enter Tryz.func18,Tryz.ntmps18
  go_wp2_with fail
  go_ret
  exact ⟨by show Ending.returned (.bool false) = .returned (.bool (idB _ _)); rw [id_head fun t => HN.out (congrArg Hd.k t.1)],below_two _ _ _⟩
 have e1 : h.k = g.k := Classical.not_not.1 n1
 clear n1
 by_cases n2 : ¬ h.o = g.o
 ·have HN : Hid (¬ h.o = g.o) := n2
  go_enter Tryz.func18,Tryz.ntmps18
  go_wp2_with fail
  go_ret
  exact ⟨by show Ending.returned (.bool false) = .returned (.bool (idB _ _)); rw [id_head fun t => HN.out (congrArg Hd.o t.1)],below_two _ _ _⟩
 have e2 : h.o = g.o := Classical.not_not.1 n2
 clear n2
 by_cases n3 : ¬ h.t = g.t
 ·have HN : Hid (¬ h.t = g.t) := n3
  go_enter Tryz.func18,Tryz.ntmps18
  go_wp2_with fail
  go_ret
  exact ⟨by show Ending.returned (.bool false) = .returned (.bool (idB _ _)); rw [id_head fun t => HN.out (congrArg Hd.t t.1)],below_two _ _ _⟩
 have e3 : h.t = g.t := Classical.not_not.1 n3
 clear n3
 by_cases n4 : ¬ h.n = g.n
 ·have HN : Hid (¬ h.n = g.n) := n4
  go_enter Tryz.func18,Tryz.ntmps18
  go_wp2_with fail
  go_ret
  exact ⟨by show Ending.returned (.bool false) = .returned (.bool (idB _ _)); rw [id_head fun t => HN.out (congrArg Hd.n t.1)],below_two _ _ _⟩
 have e4 : h.n = g.n := Classical.not_not.1 n4
 clear n4
 by_cases n5 : ¬ h.f = g.f
 ·have HN : Hid (¬ h.f = g.f) := n5
  go_enter Tryz.func18,Tryz.ntmps18
  go_wp2_with fail
  go_ret
  exact ⟨by show Ending.returned (.bool false) = .returned (.bool (idB _ _)); rw [id_head fun t => HN.out (congrArg Hd.f t.1)],below_two _ _ _⟩
 have e5 : h.f = g.f := Classical.not_not.1 n5
 clear n5
 by_cases n6 : ¬ h.x = g.x
 ·have s6 := str_ne n6
  have HN : Hid (¬ h.x = g.x) := n6
  go_enter Tryz.func18,Tryz.ntmps18
  go_wp2_with fail
  go_ret
  exact ⟨by show Ending.returned (.bool false) = .returned (.bool (idB _ _)); rw [id_head fun t => HN.out (congrArg Hd.x t.1)],below_two _ _ _⟩
 have e6 : h.x = g.x := Classical.not_not.1 n6
 clear n6
 by_cases n7x : ¬ ks.length = ks'.length
 ·have n7 : ¬ (ks.length : Int) = (ks'.length : Int) := by omega
  have HN : Hid (¬ ks.length = ks'.length) := n7x
  go_enter Tryz.func18,Tryz.ntmps18
  go_wp2_with fail
  go_ret
  exact ⟨by show Ending.returned (.bool false) = .returned (.bool (idB _ _)); rw [id_head fun t => HN.out t.2],below_two _ _ _⟩
 have e7 : ks.length = ks'.length := Classical.not_not.1 n7x
 clear n7x
 obtain rfl : h = g := by cases h; cases g; simp_all
 clear e0 e1 e2 e3 e4 e5 e6
 have HE : Hid (ks'.length = ks.length) := e7.symm
 rw [← e7]
 clear e7
 go_enter Tryz.func18,Tryz.ntmps18
 go_wp2_with fail
 obtain ⟨W0,eW0⟩ : ∃ W0,(w.alloc (.cells #[zU h.k,zU h.o,zU h.t,zI h.n,zU h.f,.string h.x,.slice a ks.length c,zI h.p] 64)).alloc (.cells #[zU h.k,zU h.o,zU h.t,zI h.n,zU h.f,.string h.x,.slice a' ks.length c',zI h.p] 64) = W0 := ⟨_,rfl⟩
 have HB : Hid (Below w§ w W0) := by rw [← eW0]; exact below_two _ _ _
 have HN0 : Hid (W0.heap[w§]? = some (.cells #[zU h.k,zU h.o,zU h.t,zI h.n,zU h.f,.string h.x,.slice a ks.length c,zI h.p] 64 (0,0))) := by rw [← eW0]; exact heap_old (heap_new _ _) (by rw [size_alloc]; omega)
 have HN1 : Hid (W0.heap[w§ + 1]? = some (.cells #[zU h.k,zU h.o,zU h.t,zI h.n,zU h.f,.string h.x,.slice a' ks.length c',zI h.p] 64 (0,0))) := by rw [← eW0,← size_alloc w (.cells #[zU h.k,zU h.o,zU h.t,zI h.n,zU h.f,.string h.x,.slice a ks.length c,zI h.p] 64)]; exact heap_new _ _
 rw [eW0]
 clear eW0
 go_loopw [5,6] (fun t _ wr => ∃ i : Nat,i ≤ ks.length ∧ t = zI i ∧ Hid (Below W0§ W0 wr) ∧ Hid (∀ j (h1 : j < ks.length) (h2 : j < ks'.length),j < i → idB ks[j] ks'[j] = true)) (fun t _ _ => ks.length - (intOf t).toNat)
 case atStart => exact ⟨0,by omega,rfl,Below.refl _ _,fun j _ _ hj => by omega⟩
 case round =>
  obtain ⟨i,hi,rfl,HR,HJ⟩ := hrel
  have q0 : wr.heap[w§]? = some (.cells #[zU h.k,zU h.o,zU h.t,zI h.n,zU h.f,.string h.x,.slice a ks.length c,zI h.p] 64 (0,0)) := (HR.out.block _ (Array.getElem?_eq_some_iff.1 HN0.out).1).trans HN0.out
  have q1 : wr.heap[w§ + 1]? = some (.cells #[zU h.k,zU h.o,zU h.t,zI h.n,zU h.f,.string h.x,.slice a' ks.length c',zI h.p] 64 (0,0)) := (HR.out.block _ (Array.getElem?_eq_some_iff.1 HN1.out).1).trans HN1.out
  have HQ0 : Hid (wr.heap[w§]? = some (.cells #[zU h.k,zU h.o,zU h.t,zI h.n,zU h.f,.string h.x,.slice a ks.length c,zI h.p] 64 (0,0))) := q0
  have HQ1 : Hid (wr.heap[w§ + 1]? = some (.cells #[zU h.k,zU h.o,zU h.t,zI h.n,zU h.f,.string h.x,.slice a' ks.length c',zI h.p] 64 (0,0))) := q1
  have c6 : wr.cell? ⟨w§,6,none⟩ = some (.slice a ks.length c) := cell_of q0 6
  have d6 : wr.cell? ⟨w§ + 1,6,none⟩ = some (.slice a' ks.length c') := cell_of q1 6
  clear q0 q1
  have HBr : Hid (Below w§ w wr) := below2 HB.out HR.out
  by_cases hlt : i < ks.length
  ·have hlt' : (i : Int) < (ks.length : Int) := by omega
   have hlt2 : i < ks'.length := by have := HE.out; omega
   obtain ⟨b,o,e1,hat⟩ := (HL.out.on HBr.out).kid i hlt
   have e1' : a = some ⟨b,o,none⟩ := e1
   have hk1 : NdAt wr b (o + i * 8) ks[i] := hat
   obtain ⟨b',o',e2,hat'⟩ := (HL'.out.on HBr.out).kid i hlt2
   have e2' : a' = some ⟨b',o',none⟩ := e2
   have hk2 : NdAt wr b' (o' + i * 8) ks'[i] := hat'
   have cI := fun v (hv : Below wr§ wr v) => HI.out i hlt hlt2 v (((HL.out.sub _ (nth_mem hlt)).on HBr.out).on hv) (((HL'.out.sub _ (nth_mem hlt2)).on HBr.out).on hv)
   obtain ⟨k,ek⟩ : ∃ k,ks[i] = k := ⟨_,rfl⟩
   obtain ⟨k',ek'⟩ : ∃ k,ks'[i] = k := ⟨_,rfl⟩
   have HTW : Hid (idB ks[i] ks'[i] = idB k k') := by show _ = _; rw [ek,ek']
   rw [ek] at hk1 cI
   rw [ek'] at hk2 cI
   have HK1 := hk1.hid
   have HK2 := hk2.hid
   have cI : ∀ v,Below wr§ wr v → Calls zG 18 #[.agg #[zU k.h.k,zU k.h.o,zU k.h.t,zI k.h.n,zU k.h.f,.string k.h.x,.slice k.a k.ks.length k.c,zI k.h.p],.agg #[zU k'.h.k,zU k'.h.o,zU k'.h.t,zI k'.h.n,zU k'.h.f,.string k'.h.x,.slice k'.a k'.ks.length k'.c,zI k'.h.p]] v (Smd k k' v) := cI
   rw [e1'] at c6 HQ0
   rw [e2'] at d6 HQ1
   have HKP : Hid (∀ v,GBs wr v → v.cell? ⟨w§,6,none⟩ = some (.slice (some ⟨b,o,none⟩) ks.length c) ∧ v.cell? ⟨w§ + 1,6,none⟩ = some (.slice (some ⟨b',o',none⟩) ks.length c') ∧ v.cell? ⟨b,o + i * 8,none⟩ = some (zU k.h.k) ∧ v.cell? ⟨b,o + i * 8 + 1,none⟩ = some (zU k.h.o) ∧ v.cell? ⟨b,o + i * 8 + 2,none⟩ = some (zU k.h.t) ∧ v.cell? ⟨b,o + i * 8 + 3,none⟩ = some (zI k.h.n) ∧ v.cell? ⟨b,o + i * 8 + 4,none⟩ = some (zU k.h.f) ∧ v.cell? ⟨b,o + i * 8 + 5,none⟩ = some (.string k.h.x) ∧ v.cell? ⟨b,o + i * 8 + 6,none⟩ = some (.slice k.a k.ks.length k.c) ∧ v.cell? ⟨b,o + i * 8 + 7,none⟩ = some (zI k.h.p) ∧ v.cell? ⟨b',o' + i * 8,none⟩ = some (zU k'.h.k) ∧ v.cell? ⟨b',o' + i * 8 + 1,none⟩ = some (zU k'.h.o) ∧ v.cell? ⟨b',o' + i * 8 + 2,none⟩ = some (zU k'.h.t) ∧ v.cell? ⟨b',o' + i * 8 + 3,none⟩ = some (zI k'.h.n) ∧ v.cell? ⟨b',o' + i * 8 + 4,none⟩ = some (zU k'.h.f) ∧ v.cell? ⟨b',o' + i * 8 + 5,none⟩ = some (.string k'.h.x) ∧ v.cell? ⟨b',o' + i * 8 + 6,none⟩ = some (.slice k'.a k'.ks.length k'.c) ∧ v.cell? ⟨b',o' + i * 8 + 7,none⟩ = some (zI k'.h.p) ∧ GBs wr v) := fun v hv => by
    have hk1' := HK1.out.on hv
    have hk2' := HK2.out.on hv
    exact ⟨cell_of ((hv.block _ (Array.getElem?_eq_some_iff.1 HQ0.out).1).trans HQ0.out) 6,cell_of ((hv.block _ (Array.getElem?_eq_some_iff.1 HQ1.out).1).trans HQ1.out) 6,hk1'.c0,hk1'.c1,hk1'.c2,hk1'.c3,hk1'.c4,hk1'.c5,hk1'.c6,hk1'.c7,hk2'.c0,hk2'.c1,hk2'.c2,hk2'.c3,hk2'.c4,hk2'.c5,hk2'.c6,hk2'.c7,hv⟩
   have hmx : (i : Int) + 1 ≤ 9223372036854775807 := by
    have h1 := HL.out.max
    have h2 := HL.out.cap
    simp only [Nd.ks,Nd.c] at h1 h2
    omega
   clear ek ek' e1 e2 e1' e2' hat hat' hk1 hk2
   go_upto_region 6 with fail
   go_region_held3 (fun v => v.cell? ⟨w§,6,none⟩ = some (.slice (some ⟨b,o,none⟩) ks.length c) ∧ v.cell? ⟨w§ + 1,6,none⟩ = some (.slice (some ⟨b',o',none⟩) ks.length c') ∧ v.cell? ⟨b,o + i * 8,none⟩ = some (zU k.h.k) ∧ v.cell? ⟨b,o + i * 8 + 1,none⟩ = some (zU k.h.o) ∧ v.cell? ⟨b,o + i * 8 + 2,none⟩ = some (zU k.h.t) ∧ v.cell? ⟨b,o + i * 8 + 3,none⟩ = some (zI k.h.n) ∧ v.cell? ⟨b,o + i * 8 + 4,none⟩ = some (zU k.h.f) ∧ v.cell? ⟨b,o + i * 8 + 5,none⟩ = some (.string k.h.x) ∧ v.cell? ⟨b,o + i * 8 + 6,none⟩ = some (.slice k.a k.ks.length k.c) ∧ v.cell? ⟨b,o + i * 8 + 7,none⟩ = some (zI k.h.p) ∧ v.cell? ⟨b',o' + i * 8,none⟩ = some (zU k'.h.k) ∧ v.cell? ⟨b',o' + i * 8 + 1,none⟩ = some (zU k'.h.o) ∧ v.cell? ⟨b',o' + i * 8 + 2,none⟩ = some (zU k'.h.t) ∧ v.cell? ⟨b',o' + i * 8 + 3,none⟩ = some (zI k'.h.n) ∧ v.cell? ⟨b',o' + i * 8 + 4,none⟩ = some (zU k'.h.f) ∧ v.cell? ⟨b',o' + i * 8 + 5,none⟩ = some (.string k'.h.x) ∧ v.cell? ⟨b',o' + i * 8 + 6,none⟩ = some (.slice k'.a k'.ks.length k'.c) ∧ v.cell? ⟨b',o' + i * 8 + 7,none⟩ = some (zI k'.h.p) ∧ GBs wr v)
    (exact HKP.out _ (by (repeat (first | with_reducible assumption | with_reducible exact GBs.refl _ | with_reducible apply GBs.drew | with_reducible apply GBs.alloc | with_reducible refine GBs.call (by with_reducible assumption) ?_))))
    (first | (go_at_call 18; refine (cI _ ((Below.refl _ _).drew)).mono ?_; rintro e w6 ⟨rfl,hb6⟩))
   all_goals (
    have HB6 : Hid (Below W0§ W0 w6) := below2 HR.out (below2 (Below.refl _ _).drew hb6)
    clear hb6
    obtain ⟨r6,er⟩ : ∃ r,idB k k' = r := ⟨_,rfl⟩
    rw [er]
    have HT6 : Hid (idB ks[i] ks'[i] = r6) := HTW.out.trans er
    clear er
    cases r6 with
    | true =>
     go_wp2_with fail
     exact ⟨⟨i + 1,hlt,rfl,HB6,fun j h1 h2 hj => by
      by_cases e : j = i
      ·subst e; exact HT6.out
      ·exact HJ.out j h1 h2 (by omega)⟩,by simp only [intOf]; omega⟩
    | false =>
     go_wp2_with fail
     go_ret
     exact ⟨by show Ending.returned (.bool false) = .returned (.bool (idB _ _)); rw [id_same HE.out,idsB_false ks ks' i hlt hlt2 HT6.out],below2 HB.out HB6.out⟩)
  ·obtain rfl : i = ks.length := by omega
   have hnot : ¬ (ks.length : Int) < (ks.length : Int) := by omega
   go_wp2_with fail
   go_ret
   exact ⟨by show Ending.returned (.bool true) = .returned (.bool (idB _ _)); rw [id_same HE.out,idsB_true ks ks' fun j h1 h2 => HJ.out j h1 h2 h1],HBr.out⟩
set_option linter.unusedVariables false
def tT (s : ByteArray) : Tr := match gWhole s with | .ok t => t | .error _ => treeOf nd0
def tF (s : ByteArray) : Int × Int × Bool := match gWhole s with | .ok _ => (0,0,false) | .error f => ftT s f
def exN : ByteArray := ZL
def ErO (w : World) (s : ByteArray) (v : Value) : Prop :=
 match gWhole s with
 | .ok _ => v = .nilIface
 | .error f => ∃ F,v = .iface 74 (zP F) ∧ ErrAt w s exN f F
def Tne (s : ByteArray) : Prop := ∀ f,gWhole s = .error f → (ftT s f).1 ≠ 0
theorem ErrAt.erO_tok {w : World} {s call : ByteArray} {no p : Int} {F : Nat} (h : ErrAt w s call (.tok no p) F) : Er w (.iface 74 (zP F)) no p := .inr (.inl ⟨F,call,rfl,h⟩)
theorem ErrAt.erO_lex {w : World} {s call : ByteArray} {F : Nat} (h : ErrAt w s call .lex F) (hE : tksE s ≠ 0) : Er w (.iface 74 (zP F)) (tksE s) (tksB s) := by
 obtain ⟨fa,fe,h1,h2⟩ := h
 obtain ⟨e1,F',e2,h3⟩ := h2.2 hE
 subst e1 e2
 exact .inr (.inr (.inl ⟨F,call,F',_,_,rfl,h1,h3⟩))
theorem ErrAt.up {w w' : World} {s call : ByteArray} {f : Ft} {F : Nat} (h : ErrAt w s call f F) (k : Below w§ w w') : ErrAt w' s call f F := by
 cases f with
 | tok no p => exact (k.block _ (Array.getElem?_eq_some_iff.1 h).1).trans h
 | lex =>
  obtain ⟨fa,fe,h1,h2⟩ := h
  exact ⟨fa,fe,(k.block _ (Array.getElem?_eq_some_iff.1 h1).1).trans h1,h2.on fun b hb _ _ _ => k.block b hb⟩
theorem ErO.on {w w' : World} {s : ByteArray} {v : Value} (h : ErO w s v) (k : Below w§ w w') : ErO w' s v := by
 unfold ErO at h ⊢
 split
 ·rename_i t e; rw [e] at h; exact h
 ·rename_i f e
  rw [e] at h
  obtain ⟨F,h1,h2⟩ := h
  exact ⟨F,h1,h2.up k⟩
theorem rgN0 : Rg ⟨0,0,0,0,0,gE,0⟩ := by constructor <;> first | omega | (show (0 : Nat) ≤ _; omega) | (simp only; omega) | simp
theorem tT_size (s : ByteArray) (m : Nd) (h : treeOf m = tT s) : size m ≤ 4097 := by
 rw [size_tree,h]
 unfold tT
 split
 ·rename_i t e; exact whole_size e
 ·simp [nd0,treeOf,treesOf,tsz,tszs]
theorem exprP (s : ByteArray) (hs : s.size ≤ 4194304) (w : World) (ht : Tab w) :
  Calls zG 16 #[.string s] w fun e w' => ∃ m v,e = .returned (.tuple #[.agg m.vals,v]) ∧ treeOf m = tT s ∧ LiesO w' m ∧ Bkn (fun k => w§ ≤ k ∧ k < w'§) m ∧ ErO w' s v ∧ v.oneCell' = true ∧ Below w§ w w' := by
 refine (exprS_any s hs w ht).mono ?_
 intro e w' h
 unfold OutW at h
 unfold tT ErO
 cases hr : gWhole s with
 | ok t =>
  rw [hr] at h
  obtain ⟨⟨m,rfl,h1,h2,h3⟩,hb⟩ := h
  exact ⟨m,_,rfl,h1,h2,h3,rfl,rfl,hb⟩
 | error f =>
  rw [hr] at h
  obtain ⟨⟨F,rfl,h1,_⟩,hb⟩ := h
  exact ⟨nd0,_,rfl,rfl,liesO0 _ rgN0,bkn0 _ _,⟨F,rfl,h1⟩,rfl,hb⟩
theorem exprD (s : ByteArray) (w : World) :
  Calls zG 17 #[.string s] w fun e w' => ∃ m,e = .returned (.tuple #[.agg m.vals,.agg #[zI (tF s).1,zI (tF s).2.1,.bool (tF s).2.2]]) ∧ treeOf m = tT s ∧ Lies w' m ∧ Tne s ∧ Below w§ w w' := by
 refine (exprX s w).mono ?_
 intro e w' h
 unfold OutX at h
 unfold tT tF Tne
 cases hr : gWhole s with
 | ok t =>
  rw [hr] at h
  obtain ⟨⟨m,rfl,h1,h2,h3⟩,hb⟩ := h
  exact ⟨m,rfl,h1,h2,fun f e => (by cases e),hb⟩
 | error f =>
  rw [hr] at h
  obtain ⟨⟨h1,rfl⟩,hb⟩ := h
  exact ⟨nd0,rfl,rfl,lies0 _ rgN0,fun f' e => (by cases e; exact h1),hb⟩
theorem wrongO {w : World} {s : ByteArray} {v : Value} (h : ErO w s v) (ht : Tne s) (hg : Ety w) : Calls zG 12 #[v] w fun e w' => e = .returned (.tuple #[zI (tF s).1,zI (tF s).2.1]) ∧ Below w§ w w' := by
 unfold ErO at h
 unfold tF
 cases hr : gWhole s with
 | ok t =>
  rw [hr] at h
  simp only at h
  subst h
  refine (wrong_nil w).mono ?_
  rintro e w' ⟨h1,rfl⟩
  exact ⟨h1,Below.refl _ _⟩
 | error f =>
  rw [hr] at h
  obtain ⟨F,rfl,hE⟩ := h
  have hn := ht f hr
  cases f with
  | tok no p => exact wrong_any hE.erO_tok hg
  | lex => exact wrong_any (hE.erO_lex hn) hg
theorem nilO {w : World} {s : ByteArray} {v : Value} (h : ErO w s v) (ht : Tne s) : (v = .nilIface ∧ (tF s).1 = 0) ∨ ∃ F,v = .iface 74 (zP F) ∧ (tF s).1 ≠ 0 := by
 unfold ErO at h
 unfold tF
 cases hr : gWhole s with
 | ok t =>
  rw [hr] at h
  exact .inl ⟨h,rfl⟩
 | error f =>
  rw [hr] at h
  obtain ⟨F,rfl,hE⟩ := h
  exact .inr ⟨F,rfl,ht f hr⟩
theorem trees_nth {L : List Nd} : ∀ {K : List Nd},treesOf L = treesOf K → K.length = L.length ∧ ∀ i (h1 : i < L.length) (h2 : i < K.length),treeOf L[i] = treeOf K[i] := by
 induction L with
 | nil =>
  intro K h
  cases K with
  | nil => exact ⟨rfl,fun i h1 => by simp at h1⟩
  | cons k K => simp [treesOf] at h
 | cons l L ih =>
  intro K h
  cases K with
  | nil => simp [treesOf] at h
  | cons k K =>
   simp only [treesOf,List.cons.injEq] at h
   obtain ⟨h1,h2⟩ := ih h.2
   refine ⟨by simp [h1],fun i a1 a2 => ?_⟩
   cases i with
   | zero => exact h.1
   | succ i => exact h2 i (by simpa using a1) (by simpa using a2)
theorem tree_twin : ∀ m k : Nd,treeOf m = treeOf k → Twin m k := by
 refine Nd.ind fun h a c ks ih k e => ?_
 obtain ⟨h',a',c',ks'⟩ := k
 simp only [treeOf,Tr.mk.injEq] at e
 obtain ⟨rfl,e⟩ := e
 obtain ⟨e1,e2⟩ := trees_nth e
 exact .mk h a a' c c' ks ks' e1 fun i h1 h2 => ih _ (List.getElem_mem h1) _ (e2 i h1 h2)
theorem sameO {w : World} {m k : Nd} (hm : Lies w m) (hk : Lies w k) (h : treeOf m = treeOf k) : Calls zG 18 #[.agg m.vals,.agg k.vals] w fun e w' => e = .returned (.bool true) ∧ Below w§ w w' := by
 refine (some_any m k w hm hk).mono ?_
 rintro e w' ⟨h1,h2⟩
 rw [twin_id _ _ (tree_twin m k h)] at h1
 exact ⟨h1,h2⟩
section
variable {w0 w1 v v' : World} {bk : Nat} {U A : Nat → Prop} {NI : Nat} {lI : Value}
theorem TBn.more (h : TBn w0 w1 bk U A NI v lI) (k : Below v§ v v') : TBn w0 v' bk (fun b => U b ∨ (v§ ≤ b ∧ b < v'§)) A NI v' lI := by
 have h' := h.below k
 have hbk := (Array.getElem?_eq_some_iff.1 h.B).1
 refine ⟨h'.B,h'.I,fun b hb => .inl (h.sub b hb),fun b hb => ?_,fun b hb => ?_,fun b _ => rfl,Nat.le_refl _,h.new,h'.B0⟩
 ·rcases hb with hb | hb
  ·exact h.out b hb
  ·refine ⟨by omega,fun e => ?_⟩
   obtain ⟨c,fz,hk⟩ := h.I.lt b e
   have := (Array.getElem?_eq_some_iff.1 hk).1
   omega
 ·rcases hb with hb | hb
  ·have := h.old b hb; have := h.sz; have := k.size; omega
  ·exact hb.2
end
def X3 (b c : ByteArray) (i : Nat) : ByteArray := if i = 1 then c else b
def BI (w w0 : World) (bk lb : Nat) (b c : ByteArray) (i : Nat) (v : World) : Prop :=
 ∃ w1 U A N lv,TBn w0 w1 bk U A N v lv ∧ U lb ∧ (∀ q,U q → w§ ≤ q) ∧ N ≤ 4097 * i ∧ v.heap[lb]? = some (.cells #[.string b,.string c,.string b] 9 (0,0))
theorem BI.hid {w w0 : World} {bk lb : Nat} {b c : ByteArray} {i : Nat} {v : World} (h : BI w w0 bk lb b c i v) : Hid (BI w w0 bk lb b c i v) := h
theorem BI.below {w w0 : World} {bk lb : Nat} {b c : ByteArray} {i : Nat} {v : World} (h : BI w w0 bk lb b c i v) : Below w0§ w0 v := by
 obtain ⟨w1,U,A,N,lv,h1,_⟩ := h
 exact h1.B0
theorem BI.box {w w0 : World} {bk lb : Nat} {b c : ByteArray} {i : Nat} {v : World} (h : BI w w0 bk lb b c i v) : v.heap[lb]? = some (.cells #[.string b,.string c,.string b] 9 (0,0)) := by
 obtain ⟨w1,U,A,N,lv,_,_,_,_,h2⟩ := h
 exact h2
theorem X3_cell {v : World} {lb : Nat} {b c : ByteArray} {i : Nat} (h : v.heap[lb]? = some (.cells #[.string b,.string c,.string b] 9 (0,0))) (hi : i < 3) : v.cell? ⟨lb,i,none⟩ = some (.string (X3 b c i)) := by
 rw [cell_of h]
 rcases i with _ | _ | _ | i
 ·rfl
 ·rfl
 ·rfl
 ·omega
theorem LEnone (w : World) (A : Nat → Prop) : LE 64 62 8 oqN A w (.slice none 0 0) 0 :=
 ⟨fun _ => .slice none 0 0,fun _ => 0,fun _ _ => zI 0,⟨fun j hj => absurd hj (Nat.not_lt_zero _),Row.nil _ _ _ _,fun j j' hj => absurd hj (Nat.not_lt_zero _)⟩,fun j hj => absurd hj (Nat.not_lt_zero _),fun b hb => by obtain ⟨j,hj,_⟩ := hb; exact absurd hj (Nat.not_lt_zero _)⟩
theorem BI.start {w w0 v : World} {bk lb : Nat} {b c : ByteArray} (hw : w§ ≤ w0§) (k : Below w0§ w0 v) (h1 : v.heap[bk]? = some (.cells (trN (.slice none 0 0)) 37 (0,0))) (h2 : v.heap[lb]? = some (.cells #[.string b,.string c,.string b] 9 (0,0))) (hb : w0§ ≤ bk) (hl : w0§ ≤ lb) (hn : lb ≠ bk) : BI w w0 bk lb b c 0 v :=
 ⟨v,fun q => q = lb,fun _ => False,0,.slice none 0 0,⟨h1,LEnone _ _,fun q hq => hq.elim,fun q hq => ⟨by omega,by simp [Value.ownBlock]⟩,fun q hq => by rw [hq]; exact (Array.getElem?_eq_some_iff.1 h2).1,fun q _ => rfl,Nat.le_refl _,⟨hb,fun q hq => by simp [Value.ownBlock] at hq⟩,k⟩,rfl,fun q hq => by omega,by omega,h2⟩
theorem BI.next {w w0 : World} {bk lb : Nat} {b c : ByteArray} {i : Nat} {v v' : World} {m : Nd} (h : BI w w0 bk lb b c i v) (hi : i < 3) (hw : w§ ≤ w0§) (k : Below v§ v v') (hl : LiesO v' m) (hb : Bkn (fun q => v§ ≤ q ∧ q < v'§) m) (hz : size m ≤ 4097) :
  Calls zG 19 #[zP bk,.agg m.vals] v' fun e w' => (∃ r,e = .returned r) ∧ BI w w0 bk lb b c (i + 1) w' := by
 obtain ⟨w1,U,A,N,lv,h1,hlb,hU,hN,h2⟩ := h
 have hsz := h1.B0.size
 refine (node_any m w0 v' bk _ A _ N v' lv (h1.more k) hl.own.no hl.lies (hl.sp hb) (fun q hq => ⟨.inr hq,fun hA => ?_⟩) (by omega)).mono ?_
 ·have := h1.old q (h1.sub q hA)
  have := h1.sz
  omega
 ·rintro e w' ⟨hr,lv',A',g1,g2⟩
  refine ⟨hr,v',_,A',_,lv',g1,.inl hlb,fun q hq => ?_,by omega,(g1.same lb (.inl hlb)).trans ((k.block lb (Array.getElem?_eq_some_iff.1 h2).1).trans h2)⟩
  rcases hq with hq | hq
  ·exact hU q hq
  ·omega
theorem BI.own {w w0 : World} {bk lb : Nat} {b c : ByteArray} {v : World} (h : BI w w0 bk lb b c 3 v) (hw : Below w§ w v) : Calls zG 15 #[zP bk] v fun e w' => e = .returned (.bool true) ∧ Below w§ w w' := by
 obtain ⟨w1,U,A,N,lv,h1,hl,hU,hN,h2⟩ := h
 refine (h1.own (by omega)).mono ?_
 rintro e w' ⟨g1,g2⟩
 exact ⟨g1,hw.trans (g2.below hw.size (fun q hq => hU q (h1.sub q hq)))⟩
theorem put3_87 {U : World} {b : Nat} {a0 a1 a2 : Value} (h : U.heap[b]? = some (.cells #[a0,a1,a2] 87 (0,0))) (v0 v1 v2 : Value) : (((U.setCell ⟨b,0,none⟩ v0).setCell ⟨b,1,none⟩ v1).setCell ⟨b,2,none⟩ v2).heap[b]? = some (.cells #[v0,v1,v2] 87 (0,0)) := by
 have k0 := heap_set (j := 0) v0 h
 have k1 := heap_set (j := 1) v1 k0
 have k2 := heap_set (j := 2) v2 k1
 simpa using k2
theorem fin3_87 {U : World} {b : Nat} {a0 a1 a2 : Value} (h : U.heap[b]? = some (.cells #[a0,a1,a2] 87 (0,0))) (v0 v1 v2 : Value) :
  ∃ Y,(((U.setCell ⟨b,0,none⟩ v0).setCell ⟨b,1,none⟩ v1).setCell ⟨b,2,none⟩ v2) = Y ∧ Y.heap[b]? = some (.cells #[v0,v1,v2] 87 (0,0)) ∧ Y§ = U§ ∧ (∀ k,k ≠ b → Y.heap[k]? = U.heap[k]?) ∧ (∀ (w : World) (F : Nat → Prop),Mv w U F → w§ ≤ b → Mv w Y F) := by
 refine ⟨_,rfl,put3_87 h _ _ _,?_,fun k hk => ?_,fun w F m hb => ?_⟩
 ·simp [World.setCell]
 ·refine (Below.heap_setCell _ _ _ _ hk).trans ?_; refine (Below.heap_setCell _ _ _ _ hk).trans ?_; refine (Below.heap_setCell _ _ _ _ hk).trans ?_; rfl
 ·exact (((m.setCell (a := ⟨b,0,none⟩) (.inr hb) v0).setCell (a := ⟨b,1,none⟩) (.inr hb) v1).setCell (a := ⟨b,2,none⟩) (.inr hb) v2)
theorem put4_43 {U : World} {b : Nat} {a0 a1 a2 a3 : Value} (h : U.heap[b]? = some (.cells #[a0,a1,a2,a3] 43 (0,0))) (v0 v1 v2 v3 : Value) : ((((U.setCell ⟨b,0,none⟩ v0).setCell ⟨b,1,none⟩ v1).setCell ⟨b,2,none⟩ v2).setCell ⟨b,3,none⟩ v3).heap[b]? = some (.cells #[v0,v1,v2,v3] 43 (0,0)) := by
 have k0 := heap_set (j := 0) v0 h
 have k1 := heap_set (j := 1) v1 k0
 have k2 := heap_set (j := 2) v2 k1
 have k3 := heap_set (j := 3) v3 k2
 simpa using k3
theorem fin4_43 {U : World} {b : Nat} {a0 a1 a2 a3 : Value} (h : U.heap[b]? = some (.cells #[a0,a1,a2,a3] 43 (0,0))) (v0 v1 v2 v3 : Value) :
  ∃ Y,((((U.setCell ⟨b,0,none⟩ v0).setCell ⟨b,1,none⟩ v1).setCell ⟨b,2,none⟩ v2).setCell ⟨b,3,none⟩ v3) = Y ∧ Y.heap[b]? = some (.cells #[v0,v1,v2,v3] 43 (0,0)) ∧ Y§ = U§ ∧ (∀ k,k ≠ b → Y.heap[k]? = U.heap[k]?) ∧ (∀ (w : World) (F : Nat → Prop),Mv w U F → w§ ≤ b → Mv w Y F) := by
 refine ⟨_,rfl,put4_43 h _ _ _ _,?_,fun k hk => ?_,fun w F m hb => ?_⟩
 ·simp [World.setCell]
 ·refine (Below.heap_setCell _ _ _ _ hk).trans ?_; refine (Below.heap_setCell _ _ _ _ hk).trans ?_; refine (Below.heap_setCell _ _ _ _ hk).trans ?_; refine (Below.heap_setCell _ _ _ _ hk).trans ?_; rfl
 ·exact ((((m.setCell (a := ⟨b,0,none⟩) (.inr hb) v0).setCell (a := ⟨b,1,none⟩) (.inr hb) v1).setCell (a := ⟨b,2,none⟩) (.inr hb) v2).setCell (a := ⟨b,3,none⟩) (.inr hb) v3)
set_option maxRecDepth 100000 in
theorem list66_none {w : World} {b G : Nat} {t : Tk} {ts : List Tk} {fa : Int} {fe : Value} {d : Nat} {a : Option Addr} {c : Nat} (h : Rdr w b G (t :: ts) fa fe d a c) (x : ByteArray) (hx : ¬ t.x = x) (m : Int) (fn : Fn) (f1 f2 : Array Value) :
  Calls zG 66 #[zP b,.string x,zI m,.func fn f1 f2] w fun e w' => e = .returned (.slice none 0 0) ∧ Below w§ w w' := by
 have cI := is_ok h x
 rw [decide_eq_false hx] at cI
 clear h hx
 go_enter Tryz.func66,Tryz.ntmps66
 go_wp2_with fail
 refine wp_loop_rounds 1 ?_
 rw [rounds_succ]
 go_wp2_with fail
 refine cI.mono ?_
 rintro e w1 ⟨rfl,hb⟩
 have HB : Hid (Below w§ w w1) := hb
 clear cI hb
 go_wp2_with fail
 go_ret
 exact ⟨rfl,HB.out⟩
set_option maxRecDepth 100000 in
theorem list68_none {w : World} {b G : Nat} {t : Tk} {ts : List Tk} {fa : Int} {fe : Value} {d : Nat} {a : Option Addr} {c : Nat} (h : Rdr w b G (t :: ts) fa fe d a c) (x : ByteArray) (hx : ¬ t.x = x) (m : Int) (fn : Fn) (f1 f2 : Array Value) :
  Calls zG 68 #[zP b,.string x,zI m,.func fn f1 f2] w fun e w' => e = .returned (.slice none 0 0) ∧ Below w§ w w' := by
 have cI := is_ok h x
 rw [decide_eq_false hx] at cI
 clear h hx
 go_enter Tryz.func68,Tryz.ntmps68
 go_wp2_with fail
 refine wp_loop_rounds 1 ?_
 rw [rounds_succ]
 go_wp2_with fail
 refine cI.mono ?_
 rintro e w1 ⟨rfl,hb⟩
 have HB : Hid (Below w§ w w1) := hb
 clear cI hb
 go_wp2_with fail
 go_ret
 exact ⟨rfl,HB.out⟩
set_option maxRecDepth 100000 in
theorem list108_none {w : World} {b G : Nat} {t : Tk} {ts : List Tk} {fa : Int} {fe : Value} {d : Nat} {a : Option Addr} {c : Nat} (h : Rdr w b G (t :: ts) fa fe d a c) (x : ByteArray) (hx : ¬ t.x = x) (m : Int) (fn : Fn) (f1 f2 : Array Value) :
  Calls zG 108 #[zP b,.string x,zI m,.func fn f1 f2] w fun e w' => e = .returned (.slice none 0 0) ∧ Below w§ w w' := by
 have cI := is_ok h x
 rw [decide_eq_false hx] at cI
 clear h hx
 go_enter Tryz.func108,Tryz.ntmps108
 go_wp2_with fail
 refine wp_loop_rounds 1 ?_
 rw [rounds_succ]
 go_wp2_with fail
 refine cI.mono ?_
 rintro e w1 ⟨rfl,hb⟩
 have HB : Hid (Below w§ w w1) := hb
 clear cI hb
 go_wp2_with fail
 go_ret
 exact ⟨rfl,HB.out⟩
set_option maxRecDepth 100000 in
theorem list70_none {w : World} {b G : Nat} {t : Tk} {ts : List Tk} {fa : Int} {fe : Value} {d : Nat} {a : Option Addr} {c : Nat} (h : Rdr w b G (t :: ts) fa fe d a c) (x : ByteArray) (hx : ¬ t.x = x) (m : Int) (fn : Fn) (f1 f2 : Array Value) :
  Calls zG 70 #[zP b,.string x,zI m,.func fn f1 f2] w fun e w' => e = .returned (.slice none 0 0) ∧ Below w§ w w' := by
 have cI := is_ok h x
 rw [decide_eq_false hx] at cI
 clear h hx
 go_enter Tryz.func70,Tryz.ntmps70
 go_wp2_with fail
 refine wp_loop_rounds 1 ?_
 rw [rounds_succ]
 go_wp2_with fail
 refine cI.mono ?_
 rintro e w1 ⟨rfl,hb⟩
 have HB : Hid (Below w§ w w1) := hb
 clear cI hb
 go_wp2_with fail
 go_ret
 exact ⟨rfl,HB.out⟩
structure SX (w : World) (b G N M : Nat) (ty : TypeId) (zs cs : Array Value) (ts : List Tk) (fa : Int) (fe : Value) (d : Nat) (U : World) : Prop where
 mv : Mv w U (fun k => k = b)
 hN : U.heap[N]? = some (.cells zs ty (0,0))
 hM : U.heap[M]? = some (.cells cs ty (0,0))
 R : ∃ a c,Rdr U b G ts fa fe d a c
 eN : N = w§
 nM : N < M
 lb : b < w§
 lg : G < w§
theorem SX.hid {w : World} {b G N M : Nat} {ty : TypeId} {zs cs : Array Value} {ts : List Tk} {fa : Int} {fe : Value} {d : Nat} {U : World} (h : SX w b G N M ty zs cs ts fa fe d U) : Hid (SX w b G N M ty zs cs ts fa fe d U) := h
theorem SX.call {w : World} {b G N M : Nat} {ty : TypeId} {zs cs : Array Value} {ts ts' : List Tk} {fa : Int} {fe : Value} {d : Nat} {U U' : World} (h : SX w b G N M ty zs cs ts fa fe d U) (hm : Mv U U' (fun k => k = b)) (hr : ∃ a c,Rdr U' b G ts' fa fe d a c) : SX w b G N M ty zs cs ts' fa fe d U' :=
 ⟨h.mv.trans hm (fun k e => .inl e),(hm.block N (Array.getElem?_eq_some_iff.1 h.hN).1 (by have := h.eN; have := h.lb; omega)).trans h.hN,(hm.block M (Array.getElem?_eq_some_iff.1 h.hM).1 (by have := h.eN; have := h.lb; have := h.nM; omega)).trans h.hM,hr,h.eN,h.nM,h.lb,h.lg⟩
theorem SX.below {w : World} {b G N M : Nat} {ty : TypeId} {zs cs : Array Value} {ts : List Tk} {fa : Int} {fe : Value} {d : Nat} {U U' : World} (h : SX w b G N M ty zs cs ts fa fe d U) (hb : Below U§ U U') : SX w b G N M ty zs cs ts fa fe d U' := by
 obtain ⟨a,c,hr⟩ := h.R
 exact h.call (Mv.ofBelow hb) ⟨a,c,hr.on hb⟩
theorem SX.set {w : World} {b G N M : Nat} {ty : TypeId} {zs cs : Array Value} {ts : List Tk} {fa : Int} {fe : Value} {d : Nat} {U : World} (h : SX w b G N M ty zs cs ts fa fe d U) (i : Nat) (v : Value) : SX w b G N M ty zs (cs.setIfInBounds i v) ts fa fe d (U.setCell ⟨M,i,none⟩ v) := by
 obtain ⟨a,c,hr⟩ := h.R
 have e1 := h.eN
 have e2 := h.nM
 have e3 := h.lb
 have e4 := h.lg
 exact ⟨h.mv.setCell (a := ⟨M,i,none⟩) (.inr (by show _ ≤ M; omega)) v,(Below.heap_setCell _ _ _ _ (show N ≠ M by omega)).trans h.hN,heap_set v h.hM,
  ⟨a,c,hr.blk (Below.heap_setCell _ _ _ _ (show b ≠ M by omega)) (Below.heap_setCell _ _ _ _ (show G ≠ M by omega)) (by simp [World.setCell])⟩,h.eN,h.nM,h.lb,h.lg⟩
theorem gTake_hit {t : Tk} {ts : List Tk} {x : ByteArray} (h : t.x = x) : gTake x (t :: ts) = .ok (t,ts) := by
 simp [gTake,gIs,gLook,gNeed,gStep,Except.map,bind,Except.bind,h]
theorem gName_hit {t : Tk} {ts : List Tk} (h : t.k = 2) : gName (t :: ts) = .ok (t.x,ts) := by
 simp [gName,gLook,gNeed,gStep,bind,Except.bind,h]
set_option maxRecDepth 100000 in
set_option maxHeartbeats 4000000 in
theorem state_one {w : World} {b G : Nat} {t0 t1 t2 t3 : Tk} {ts : List Tk} {fa : Int} {fe : Value} {d : Nat} {a : Option Addr} {c : Nat} (h : Rdr w b G (t0 :: t1 :: t2 :: t3 :: ts) fa fe d a c) (e0 : t0.x = ZB) (e1 : t1.k = 2) (e2 : t2.x = Zk) (e3 : t3.x = Zs) :
  Calls zG 71 #[zP b] w fun e w' => e = .returned (.agg #[.string t1.x,.slice none 0 0,zI t0.p]) ∧ (∃ a c,Rdr w' b G ts fa fe d a c) ∧ Mv w w' (fun k => k = b) := by
 have hf4 := fun v => field82_4 t0 v
 have b0 := below_new w (.cells #[.string ⟨#[]⟩,.slice none 0 0,zI 0] 87)
 have n0 := heap_new w (.cells #[.string ⟨#[]⟩,.slice none 0 0,zI 0] 87)
 have s0 := size_alloc w (.cells #[.string ⟨#[]⟩,.slice none 0 0,zI 0] 87)
 have cT := take_any (h.on b0) ZB
 rw [gTake_hit e0] at cT
 have HL : Hid (b < w§ ∧ G < w§ ∧ Below w§ w (w.alloc (.cells #[.string ⟨#[]⟩,.slice none 0 0,zI 0] 87)) ∧ (w.alloc (.cells #[.string ⟨#[]⟩,.slice none 0 0,zI 0] 87)).heap[w§]? = some (.cells #[.string ⟨#[]⟩,.slice none 0 0,zI 0] 87 (0,0)) ∧ (w.alloc (.cells #[.string ⟨#[]⟩,.slice none 0 0,zI 0] 87))§ = w§ + 1) := ⟨h.lt,h.gl,b0,n0,s0⟩
 have hmf : ∀ (fn : Fn) (first cap : Array Value) (w : World),(Instr.makeFunc fn first cap).run Tryz.prog w = .ok (.func fn first cap) w := fun _ _ _ _ => rfl
 clear b0 n0 s0 h
 go_enter Tryz.func71,Tryz.ntmps71
 go_wp2_with fail
 refine cT.mono ?_
 rintro e w1 ⟨rfl,⟨a1,c1,hr1⟩,hm1⟩
 obtain ⟨l1,l2,l3,l4,l5⟩ := HL.out
 have b1 := below_new w1 (.cells #[.string ⟨#[]⟩,.slice none 0 0,zI t0.p] 87)
 have n1 := heap_new w1 (.cells #[.string ⟨#[]⟩,.slice none 0 0,zI t0.p] 87)
 have sz1 := hm1.size
 have x3 : SX w b G w§ w1§ 87 #[.string ⟨#[]⟩,.slice none 0 0,zI 0] #[.string ⟨#[]⟩,.slice none 0 0,zI t0.p] (t1 :: t2 :: t3 :: ts) fa fe d (w1.alloc (.cells #[.string ⟨#[]⟩,.slice none 0 0,zI t0.p] 87)) :=
  ⟨((Mv.ofBelow l3).trans hm1 (fun k e => .inl e)).alloc _,(b1.block _ (by omega)).trans ((hm1.block _ (by omega) (by omega)).trans l4),n1,⟨a1,c1,hr1.on b1⟩,rfl,by omega,l1,l2⟩
 obtain ⟨Y1,eY1⟩ : ∃ Y,(w1.alloc (.cells #[.string ⟨#[]⟩,.slice none 0 0,zI t0.p] 87)) = Y := ⟨_,rfl⟩
 rw [eY1] at x3
 have HEY1 : Hid (_ = Y1) := eY1
 have X3 := x3.hid
 obtain ⟨a2,c2,hr2⟩ := x3.R
 have cN := name_any hr2
 rw [gName_hit e1] at cN
 clear cT hr1 hm1 l1 l2 l3 l4 l5 b1 n1 sz1 x3 eY1 hr2 HL
 go_wp2_with fail
 rw [HEY1.out]
 refine cN.mono ?_
 rintro e w2 ⟨rfl,hr2,hm2⟩
 have x4 := X3.out.call hm2 hr2
 have z0 : w2.cell? ⟨w1§,0,none⟩ = some (.string ⟨#[]⟩) := cell_of x4.hM 0
 have q0 : w2.frozen? ⟨w1§,0,none⟩ = false := frozen_of x4.hM 0
 have x5 := x4.set 0 (.string t1.x)
 obtain ⟨Y2,eY2⟩ : ∃ Y,w2.setCell ⟨w1§,0,none⟩ (.string t1.x) = Y := ⟨_,rfl⟩
 rw [eY2] at x5
 have HEY2 : Hid (_ = Y2) := eY2
 have X5 := x5.hid
 obtain ⟨a3,c3,hr3⟩ := x5.R
 have cT2 := take_any hr3 Zk
 rw [gTake_hit e2] at cT2
 clear cN hr2 hm2 x4 x5 eY2 hr3 X3 HEY1
 go_wp2_with fail
 rw [HEY2.out]
 refine cT2.mono ?_
 rintro e w3 ⟨rfl,hr3,hm3⟩
 have x6 := X5.out.call hm3 hr3
 have X6 := x6.hid
 obtain ⟨a4,c4,hr4⟩ := x6.R
 have cLs := fun f1 => list108_none hr4 ⟨#[119,104,101,110]⟩ (by rw [e3]; decide) 12 (.func 109) f1 #[]
 clear cT2 hr3 hm3 x6 hr4 X5 HEY2 z0 q0
 go_wp2_with fail
 refine (cLs _).mono ?_
 rintro e w4 ⟨rfl,hb4⟩
 have x7 := X6.out.below hb4
 have z1 : w4.cell? ⟨w1§,1,none⟩ = some (.slice none 0 0) := cell_of x7.hM 1
 have q1 : w4.frozen? ⟨w1§,1,none⟩ = false := frozen_of x7.hM 1
 have x8 := x7.set 1 (.slice none 0 0)
 obtain ⟨Y3,eY3⟩ : ∃ Y,w4.setCell ⟨w1§,1,none⟩ (.slice none 0 0) = Y := ⟨_,rfl⟩
 rw [eY3] at x8
 have HEY3 : Hid (_ = Y3) := eY3
 have X8 := x8.hid
 obtain ⟨a5,c5,hr5⟩ := x8.R
 have cT3 := take_any hr5 Zs
 rw [gTake_hit e3] at cT3
 clear cLs hb4 x7 x8 eY3 hr5 X6
 go_wp2_with fail
 rw [HEY3.out]
 refine cT3.mono ?_
 rintro e w5 ⟨rfl,hr5,hm5⟩
 have x9 := X8.out.call hm5 hr5
 have X9 := x9.hid
 have m0 : w5.cell? ⟨w1§,0,none⟩ = some (.string t1.x) := cell_of x9.hM 0
 have m1 : w5.cell? ⟨w1§,1,none⟩ = some (.slice none 0 0) := cell_of x9.hM 1
 have m2 : w5.cell? ⟨w1§,2,none⟩ = some (zI t0.p) := cell_of x9.hM 2
 have y0 : w5.cell? ⟨w§,0,none⟩ = some (.string ⟨#[]⟩) := cell_of x9.hN 0
 have y1 : w5.cell? ⟨w§,1,none⟩ = some (.slice none 0 0) := cell_of x9.hN 1
 have y2 : w5.cell? ⟨w§,2,none⟩ = some (zI 0) := cell_of x9.hN 2
 have g0 : w5.frozen? ⟨w§,0,none⟩ = false := frozen_of x9.hN 0
 have g1 : w5.frozen? ⟨w§,1,none⟩ = false := frozen_of x9.hN 1
 have g2 : w5.frozen? ⟨w§,2,none⟩ = false := frozen_of x9.hN 2
 obtain ⟨Y,eY,hY1,hY2,hY3,hY4⟩ := fin3_87 x9.hN (.string t1.x) (.slice none 0 0) (zI t0.p)
 have HEY : Hid (_ = Y) := eY
 have HY : Hid (Y.heap[w§]? = some (.cells #[.string t1.x,.slice none 0 0,zI t0.p] 87 (0,0)) ∧ (∃ a c,Rdr Y b G ts fa fe d a c) ∧ Mv w Y (fun k => k = b)) := by
  obtain ⟨a6,c6,hr6⟩ := x9.R
  have := x9.lb
  have := x9.lg
  exact ⟨hY1,⟨a6,c6,hr6.blk (hY3 _ (by omega)) (hY3 _ (by omega)) (by omega)⟩,hY4 _ _ x9.mv (Nat.le_refl _)⟩
 clear cT3 hr5 hm5 x9 X9 X8 eY hY1 hY2 hY3 hY4 HEY3 z1 q1
 go_wp2_with fail
 rw [HEY.out]
 exact bodyPost_ret (results_cell_row (p := 2) (ty := 87) rfl _ _ w§ 87 #[.string t1.x,.slice none 0 0,zI t0.p] (0,0) _ rfl HY.out.1 Tryz.underlying87 rfl zK) rfl ⟨rfl,HY.out.2⟩
theorem Tryz.info87 : (Tryz.prog.info? 87).map (fun i => (i.zero,i.size,i.bytes)) = some (some (.agg #[.string ⟨#[]⟩,.slice none 0 0,zI 0]),3,48) := by kernel_rfl
def sF (x : ByteArray) (p : Int) (j : Nat) : Value := if j = 0 then .string x else if j = 1 then .slice none 0 0 else zI p
theorem append_state0 {w0 : World} {ops : Array Oper} {rest : List Oper} {o : Oper} {a : Act} {Q : Exit → Act → World → Prop} (hgd : o.guard = none) (d x : Operand)
  (ho : o.op = .call { callee := .builtin .append,args := #[d,x],argTypes := #[41,41] }) (n : ByteArray) (p : Int) (hs : a.eval d = .slice none 0 0) (hx : a.eval x = .slice (some ⟨w0§,0,none⟩) 1 1)
  (h : ∀ g cap w',Row w' 87 3 (.slice (some ⟨g,0,none⟩) 1 cap) 1 (sF n p) → Below w0§ w0 w' → w0§ ≤ g → wpList Tryz.prog ops Q rest (a.put o.dst (.slice (some ⟨g,0,none⟩) 1 cap)) w') :
  wpList Tryz.prog ops Q (o :: rest) a (w0.alloc (.cells #[.string n,.slice none 0 0,zI p] 87)) := by
 obtain ⟨i0,hi,hz0,hz1,hz2⟩ := info_parts Tryz.info87
 refine wpList_append_lies _ hgd d x 41 ho 0 87 i0 _ 3 48 Tryz.underlying41 hi hz0 hz1 hz2 rfl (by decide) (.slice none 0 0) 0 _ hs (Row.nil _ _ _ (fun _ => .nilIface)) ⟨w0§,0,none⟩ 1 1 [.string n,.slice none 0 0,zI p] hx rfl (World.news_of_block (heap_new w0 _)) (by intro u hu; simp at hu; rcases hu with rfl | rfl | rfl <;> rfl) (by decide) (by unfold maxLen; omega) (by omega) (Nat.zero_le _) _ rfl ?_
 intro g cap w' h2 h3 h4 h5
 have hr := Row.snoc (n := 0) (f := fun _ => .nilIface) (x := sF n p) h2 rfl (fun j hj => by
  match j,hj with
  | 0,_ => rfl
  | 1,_ => rfl
  | 2,_ => rfl)
 have hsz := size_alloc w0 (.cells #[.string n,.slice none 0 0,zI p] 87)
 refine h g cap w' (hr.congr fun j hj => by simp) ?_ ?_
 ·exact (below_new w0 _).grown h3 (by omega) (fun k hk => by simp [Value.ownBlock] at hk)
 ·rcases h4 with h4 | h4
  ·simp [Value.ownBlock] at h4
  ·omega
set_option maxRecDepth 100000 in
set_option maxHeartbeats 4000000 in
theorem list70_one {w : World} {b G : Nat} {t0 t1 t2 t3 t4 : Tk} {ts : List Tk} {fa : Int} {fe : Value} {d : Nat} {a : Option Addr} {c : Nat} (h : Rdr w b G (t0 :: t1 :: t2 :: t3 :: t4 :: ts) fa fe d a c) (e0 : t0.x = ZB) (e1 : t1.k = 2) (e2 : t2.x = Zk) (e3 : t3.x = Zs) (en : ¬ t4.x = ZB) :
  Calls zG 70 #[zP b,.string ZB,zI 12,.func (.func 71) #[zP b] #[]] w fun e w' => ∃ g cap,e = .returned (.slice (some ⟨g,0,none⟩) 1 cap) ∧ Row w' 87 3 (.slice (some ⟨g,0,none⟩) 1 cap) 1 (sF t1.x t0.p) ∧ w§ ≤ g ∧ (∃ a c,Rdr w' b G (t4 :: ts) fa fe d a c) ∧ Mv w w' (fun k => k = b) := by
 have cI := is_ok h ZB
 rw [decide_eq_true e0] at cI
 have HH := h.hid
 clear h
 go_enter Tryz.func70,Tryz.ntmps70
 go_wp2_with fail
 refine wp_loop_rounds 2 ?_
 rw [rounds_succ]
 go_wp2_with fail
 refine cI.mono ?_
 rintro e w1 ⟨rfl,hb⟩
 have HB : Hid (Below w§ w w1) := hb
 have cN := need_ok w1 b 131
 have cS := state_one (HH.out.on hb) e0 e1 e2 e3
 clear cI hb
 go_wp2_with (go_at_call 72; refine cN.mono ?_; rintro e w3 ⟨rfl,e9⟩; obtain rfl := e9.symm)
 refine cS.mono ?_
 rintro e w2 ⟨rfl,hr2,hm2⟩
 have HM2 : Hid (Mv w w2 (fun k => k = b)) := (Mv.ofBelow HB.out).trans hm2 (fun k e => .inl e)
 have HR2 : Hid (∃ a c,Rdr w2 b G (t4 :: ts) fa fe d a c) := hr2
 clear cS cN hr2 hm2
 go_wp2_with (at_builtin; refine append_state0 rfl (.tmp 19) (.tmp 22) rfl t1.x t0.p rfl rfl ?_; intro g cap w3 hr3 hb3 hg3; have H3 : Hid (Row w3 87 3 (.slice (some ⟨g,0,none⟩) 1 cap) 1 (sF t1.x t0.p) ∧ Below w2§ w2 w3 ∧ w2§ ≤ g) := ⟨hr3,hb3,hg3⟩; clear hr3 hb3 hg3)
 obtain ⟨a3,c3,hr3⟩ := HR2.out
 have cI2 := is_ok (hr3.on H3.out.2.1) ZB
 rw [decide_eq_false en] at cI2
 have H3R : Hid (∃ a c,Rdr w3 b G (t4 :: ts) fa fe d a c) := ⟨a3,c3,hr3.on H3.out.2.1⟩
 clear hr3
 rw [rounds_succ]
 go_wp2_with fail
 refine cI2.mono ?_
 rintro e w4 ⟨rfl,hb4⟩
 have H4 : Hid (Row w4 87 3 (.slice (some ⟨g,0,none⟩) 1 cap) 1 (sF t1.x t0.p) ∧ w§ ≤ g ∧ (∃ a c,Rdr w4 b G (t4 :: ts) fa fe d a c) ∧ Mv w w4 (fun k => k = b)) := by
  obtain ⟨q1,q2,q3⟩ := H3.out
  obtain ⟨a4,c4,hr4⟩ := H3R.out
  exact ⟨q1.of_block (fun k hk => hb4.block k (q1.lt k hk)),Nat.le_trans HM2.out.size q3,⟨a4,c4,hr4.on hb4⟩,(HM2.out.trans (Mv.ofBelow q2) (fun k e => .inl e)).trans (Mv.ofBelow hb4) (fun k e => .inl e)⟩
 clear cI2 hb4
 go_wp2_with fail
 go_ret
 exact ⟨g,cap,rfl,H4.out⟩
end Go.Proofs.YtkfabnchhjfjjaaGreatDoor
