import Derived.Test.YtighocmdlifheaaDoorM10
import Derived.Test.YtighocmdlifheaaDoorM6
import Derived.BigQuiet
import Derived.Lib.QuietBelow
import Derived.Test.YtighocmdlifheaaDoorM5
import Derived.Test.YtighocmdlifheaaDoorM8
import Derived.Maps.OwnSet
import Derived.Maps.OwnOps
/-
  SameNode of any two expressions: it answers, and of twins it says yes.
-/
namespace Go.Proofs.YtighocmdlifheaaDoor
open Go.RowKit
theorem ba_ext2 {a b : ByteArray} (h : a.data.toList = b.data.toList) : a = b := by
  cases a; cases b; congr 1; exact Array.toList_inj.1 h
theorem str_ne {a b : ByteArray} (h : ¬ a = b) : (a.toList == b.toList) = false := by
  rw [ByteArray.toList_eq, ByteArray.toList_eq]
  exact beq_false_of_ne (fun h' => h (ba_ext2 h'))
mutual
/-- Are two expressions the same, their places too? -/
def idB : Nd → Nd → Bool
  | .mk g _ _ js, m => (alike g m.h && decide (g.p = m.h.p)) && (decide (js.length = m.ks.length) && idsB js m.ks)
def idsB : List Nd → List Nd → Bool
  | [], _ => true
  | _ :: _, [] => true
  | j :: js, k :: ks => idB j k && idsB js ks
end
theorem idsB_false : ∀ (js ks : List Nd) (i : Nat) (h1 : i < js.length) (h2 : i < ks.length), idB js[i] ks[i] = false → idsB js ks = false := by
  intro js
  induction js with
  | nil => intro ks i h1; simp at h1
  | cons j js ih =>
    intro ks i h1 h2 h
    cases ks with
    | nil => simp at h2
    | cons k ks =>
      simp only [idsB]
      cases i with
      | zero => simp at h; rw [h]; rfl
      | succ i =>
        rw [ih ks i (by simpa using h1) (by simpa using h2) (by simpa using h)]
        simp
theorem idsB_true : ∀ (js ks : List Nd), (∀ i (h1 : i < js.length) (h2 : i < ks.length), idB js[i] ks[i] = true) → idsB js ks = true := by
  intro js
  induction js with
  | nil => intro ks _; cases ks <;> rfl
  | cons j js ih =>
    intro ks h
    cases ks with
    | nil => rfl
    | cons k ks =>
      simp only [idsB, Bool.and_eq_true]
      exact ⟨h 0 (by simp) (by simp), ih ks fun i h1 h2 => h (i + 1) (by simpa using h1) (by simpa using h2)⟩
theorem alikeS (h : Hd) : alike h h = true := by simp [alike]
theorem twin_id : ∀ (m k : Nd), Twin m k → idB m k = true := by
  refine Nd.ind fun h a c ks ih k t => ?_
  cases t with
  | mk _ _ a' _ c' _ ks' hl hk =>
    simp only [idB, Nd.h, Nd.ks, alikeS, hl, decide_true, Bool.true_and]
    exact idsB_true ks ks' fun i h1 h2 => ih _ (nth_mem h1) _ (hk i h1 h2)
theorem id_head {h g : Hd} {a a' : Option Addr} {c c' : Nat} {ks ks' : List Nd} (n : h = g ∧ ks.length = ks'.length → False) : idB (.mk h a c ks) (.mk g a' c' ks') = false := by
  cases hb : idB (.mk h a c ks) (.mk g a' c' ks') with
  | false => rfl
  | true =>
    exfalso
    simp only [idB, Nd.h, Nd.ks, alike, Bool.and_eq_true] at hb
    obtain ⟨⟨⟨h1, h2, h3, h4, h5, h6⟩, h7⟩, h8, _⟩ := hb
    refine n ⟨?_, of_decide_eq_true h8⟩
    have h1 := of_decide_eq_true h1
    have h2 := of_decide_eq_true h2
    have h3 := of_decide_eq_true h3
    have h4 := of_decide_eq_true h4
    have h5 := of_decide_eq_true h5
    have h6 := of_decide_eq_true h6
    have h7 := of_decide_eq_true h7
    cases h
    cases g
    simp_all
theorem id_same {h : Hd} {a a' : Option Addr} {c c' : Nat} {ks ks' : List Nd} (hl : ks'.length = ks.length) : idB (.mk h a c ks) (.mk h a' c' ks') = idsB ks ks' := by
  simp [idB, Nd.h, Nd.ks, alikeS, hl]
/-- What SameNode hands back. -/
def Smd (m k : Nd) (w : World) (e : Ending) (w' : World) : Prop := e = .returned (.bool (idB m k)) ∧ Below w.heap.size w w'
set_option maxRecDepth 100000 in
set_option maxHeartbeats 16000000 in
theorem some_any : ∀ (m k : Nd) (w : World), Lies w m → Lies w k → Calls Tryd.prog 18 #[.agg m.vals, .agg k.vals] w (Smd m k w) := by
  refine Nd.ind fun h a c ks ih k w hl hl' => ?_
  cases k with
  | mk g a' c' ks' =>
  have HI : Hid (∀ j (h1 : j < ks.length) (h2 : j < ks'.length) (w : World), Lies w ks[j] → Lies w ks'[j] → Calls Tryd.prog 18 #[.agg ks[j].vals, .agg ks'[j].vals] w (Smd ks[j] ks'[j] w)) := fun j h1 h2 v hv hv' => ih _ (nth_mem h1) _ v hv hv'
  have HL := hl.hid
  have HL' := hl'.hid
  show Calls Tryd.prog 18 #[.agg #[.int .u8 h.k, .int .u8 h.o, .int .u8 h.t, .int .i64 h.n, .int .u8 h.f, .string h.x, .slice a ks.length c, .int .i64 h.p], .agg #[.int .u8 g.k, .int .u8 g.o, .int .u8 g.t, .int .i64 g.n, .int .u8 g.f, .string g.x, .slice a' ks'.length c', .int .i64 g.p]] w _
  clear ih hl hl'
  by_cases n0 : ¬ h.p = g.p
  · have HN : Hid (¬ h.p = g.p) := n0
    go_enter Tryd.func18, Tryd.ntmps18
    go_wp2_with fail
    go_ret
    exact ⟨by show Ending.returned (.bool false) = .returned (.bool (idB _ _)); rw [id_head fun t => HN.out (congrArg Hd.p t.1)], below_two _ _ _⟩
  have e0 : h.p = g.p := Classical.not_not.1 n0
  clear n0
  by_cases n1 : ¬ h.k = g.k
  · have HN : Hid (¬ h.k = g.k) := n1
    go_enter Tryd.func18, Tryd.ntmps18
    go_wp2_with fail
    go_ret
    exact ⟨by show Ending.returned (.bool false) = .returned (.bool (idB _ _)); rw [id_head fun t => HN.out (congrArg Hd.k t.1)], below_two _ _ _⟩
  have e1 : h.k = g.k := Classical.not_not.1 n1
  clear n1
  by_cases n2 : ¬ h.o = g.o
  · have HN : Hid (¬ h.o = g.o) := n2
    go_enter Tryd.func18, Tryd.ntmps18
    go_wp2_with fail
    go_ret
    exact ⟨by show Ending.returned (.bool false) = .returned (.bool (idB _ _)); rw [id_head fun t => HN.out (congrArg Hd.o t.1)], below_two _ _ _⟩
  have e2 : h.o = g.o := Classical.not_not.1 n2
  clear n2
  by_cases n3 : ¬ h.t = g.t
  · have HN : Hid (¬ h.t = g.t) := n3
    go_enter Tryd.func18, Tryd.ntmps18
    go_wp2_with fail
    go_ret
    exact ⟨by show Ending.returned (.bool false) = .returned (.bool (idB _ _)); rw [id_head fun t => HN.out (congrArg Hd.t t.1)], below_two _ _ _⟩
  have e3 : h.t = g.t := Classical.not_not.1 n3
  clear n3
  by_cases n4 : ¬ h.n = g.n
  · have HN : Hid (¬ h.n = g.n) := n4
    go_enter Tryd.func18, Tryd.ntmps18
    go_wp2_with fail
    go_ret
    exact ⟨by show Ending.returned (.bool false) = .returned (.bool (idB _ _)); rw [id_head fun t => HN.out (congrArg Hd.n t.1)], below_two _ _ _⟩
  have e4 : h.n = g.n := Classical.not_not.1 n4
  clear n4
  by_cases n5 : ¬ h.f = g.f
  · have HN : Hid (¬ h.f = g.f) := n5
    go_enter Tryd.func18, Tryd.ntmps18
    go_wp2_with fail
    go_ret
    exact ⟨by show Ending.returned (.bool false) = .returned (.bool (idB _ _)); rw [id_head fun t => HN.out (congrArg Hd.f t.1)], below_two _ _ _⟩
  have e5 : h.f = g.f := Classical.not_not.1 n5
  clear n5
  by_cases n6 : ¬ h.x = g.x
  · have s6 := str_ne n6
    have HN : Hid (¬ h.x = g.x) := n6
    go_enter Tryd.func18, Tryd.ntmps18
    go_wp2_with fail
    go_ret
    exact ⟨by show Ending.returned (.bool false) = .returned (.bool (idB _ _)); rw [id_head fun t => HN.out (congrArg Hd.x t.1)], below_two _ _ _⟩
  have e6 : h.x = g.x := Classical.not_not.1 n6
  clear n6
  by_cases n7x : ¬ ks.length = ks'.length
  · have n7 : ¬ (ks.length : Int) = (ks'.length : Int) := by omega
    have HN : Hid (¬ ks.length = ks'.length) := n7x
    go_enter Tryd.func18, Tryd.ntmps18
    go_wp2_with fail
    go_ret
    exact ⟨by show Ending.returned (.bool false) = .returned (.bool (idB _ _)); rw [id_head fun t => HN.out t.2], below_two _ _ _⟩
  have e7 : ks.length = ks'.length := Classical.not_not.1 n7x
  clear n7x
  obtain rfl : h = g := by cases h; cases g; simp_all
  clear e0 e1 e2 e3 e4 e5 e6
  have HE : Hid (ks'.length = ks.length) := e7.symm
  rw [← e7]
  clear e7
  go_enter Tryd.func18, Tryd.ntmps18
  go_wp2_with fail
  obtain ⟨W0, eW0⟩ : ∃ W0, (w.alloc (.cells #[.int .u8 h.k, .int .u8 h.o, .int .u8 h.t, .int .i64 h.n, .int .u8 h.f, .string h.x, .slice a ks.length c, .int .i64 h.p] 28)).alloc (.cells #[.int .u8 h.k, .int .u8 h.o, .int .u8 h.t, .int .i64 h.n, .int .u8 h.f, .string h.x, .slice a' ks.length c', .int .i64 h.p] 28) = W0 := ⟨_, rfl⟩
  have HB : Hid (Below w.heap.size w W0) := by rw [← eW0]; exact below_two _ _ _
  have HN0 : Hid (W0.heap[w.heap.size]? = some (.cells #[.int .u8 h.k, .int .u8 h.o, .int .u8 h.t, .int .i64 h.n, .int .u8 h.f, .string h.x, .slice a ks.length c, .int .i64 h.p] 28 (0, 0))) := by rw [← eW0]; exact heap_old (heap_new _ _) (by rw [size_alloc]; omega)
  have HN1 : Hid (W0.heap[w.heap.size + 1]? = some (.cells #[.int .u8 h.k, .int .u8 h.o, .int .u8 h.t, .int .i64 h.n, .int .u8 h.f, .string h.x, .slice a' ks.length c', .int .i64 h.p] 28 (0, 0))) := by rw [← eW0, ← size_alloc w (.cells #[.int .u8 h.k, .int .u8 h.o, .int .u8 h.t, .int .i64 h.n, .int .u8 h.f, .string h.x, .slice a ks.length c, .int .i64 h.p] 28)]; exact heap_new _ _
  rw [eW0]
  clear eW0
  go_loopw [5, 6] (fun t _ wr => ∃ i : Nat, i ≤ ks.length ∧ t = .int .i64 i ∧ Hid (Below W0.heap.size W0 wr) ∧ Hid (∀ j (h1 : j < ks.length) (h2 : j < ks'.length), j < i → idB ks[j] ks'[j] = true)) (fun t _ _ => ks.length - (intOf t).toNat)
  case atStart => exact ⟨0, by omega, rfl, Below.refl _ _, fun j _ _ hj => by omega⟩
  case round =>
    obtain ⟨i, hi, rfl, HR, HJ⟩ := hrel
    have q0 : wr.heap[w.heap.size]? = some (.cells #[.int .u8 h.k, .int .u8 h.o, .int .u8 h.t, .int .i64 h.n, .int .u8 h.f, .string h.x, .slice a ks.length c, .int .i64 h.p] 28 (0, 0)) := (HR.out.block _ (Array.getElem?_eq_some_iff.1 HN0.out).1).trans HN0.out
    have q1 : wr.heap[w.heap.size + 1]? = some (.cells #[.int .u8 h.k, .int .u8 h.o, .int .u8 h.t, .int .i64 h.n, .int .u8 h.f, .string h.x, .slice a' ks.length c', .int .i64 h.p] 28 (0, 0)) := (HR.out.block _ (Array.getElem?_eq_some_iff.1 HN1.out).1).trans HN1.out
    have HQ0 : Hid (wr.heap[w.heap.size]? = some (.cells #[.int .u8 h.k, .int .u8 h.o, .int .u8 h.t, .int .i64 h.n, .int .u8 h.f, .string h.x, .slice a ks.length c, .int .i64 h.p] 28 (0, 0))) := q0
    have HQ1 : Hid (wr.heap[w.heap.size + 1]? = some (.cells #[.int .u8 h.k, .int .u8 h.o, .int .u8 h.t, .int .i64 h.n, .int .u8 h.f, .string h.x, .slice a' ks.length c', .int .i64 h.p] 28 (0, 0))) := q1
    have c6 : wr.cell? ⟨w.heap.size, 6, none⟩ = some (.slice a ks.length c) := cell_of q0 6
    have d6 : wr.cell? ⟨w.heap.size + 1, 6, none⟩ = some (.slice a' ks.length c') := cell_of q1 6
    clear q0 q1
    have HBr : Hid (Below w.heap.size w wr) := below2 HB.out HR.out
    by_cases hlt : i < ks.length
    · have hlt' : (i : Int) < (ks.length : Int) := by omega
      have hlt2 : i < ks'.length := by have := HE.out; omega
      obtain ⟨b, o, e1, hat⟩ := (HL.out.on HBr.out).kid i hlt
      have e1' : a = some ⟨b, o, none⟩ := e1
      have hk1 : NdAt wr b (o + i * 8) ks[i] := hat
      obtain ⟨b', o', e2, hat'⟩ := (HL'.out.on HBr.out).kid i hlt2
      have e2' : a' = some ⟨b', o', none⟩ := e2
      have hk2 : NdAt wr b' (o' + i * 8) ks'[i] := hat'
      have cI := fun v (hv : Below wr.heap.size wr v) => HI.out i hlt hlt2 v (((HL.out.sub _ (nth_mem hlt)).on HBr.out).on hv) (((HL'.out.sub _ (nth_mem hlt2)).on HBr.out).on hv)
      obtain ⟨k, ek⟩ : ∃ k, ks[i] = k := ⟨_, rfl⟩
      obtain ⟨k', ek'⟩ : ∃ k, ks'[i] = k := ⟨_, rfl⟩
      have HTW : Hid (idB ks[i] ks'[i] = idB k k') := by show _ = _; rw [ek, ek']
      rw [ek] at hk1 cI
      rw [ek'] at hk2 cI
      have HK1 := hk1.hid
      have HK2 := hk2.hid
      have cI : ∀ v, Below wr.heap.size wr v → Calls Tryd.prog 18 #[.agg #[.int .u8 k.h.k, .int .u8 k.h.o, .int .u8 k.h.t, .int .i64 k.h.n, .int .u8 k.h.f, .string k.h.x, .slice k.a k.ks.length k.c, .int .i64 k.h.p], .agg #[.int .u8 k'.h.k, .int .u8 k'.h.o, .int .u8 k'.h.t, .int .i64 k'.h.n, .int .u8 k'.h.f, .string k'.h.x, .slice k'.a k'.ks.length k'.c, .int .i64 k'.h.p]] v (Smd k k' v) := cI
      rw [e1'] at c6 HQ0
      rw [e2'] at d6 HQ1
      have HKP : Hid (∀ v, GB wr v → v.cell? ⟨w.heap.size, 6, none⟩ = some (.slice (some ⟨b, o, none⟩) ks.length c) ∧ v.cell? ⟨w.heap.size + 1, 6, none⟩ = some (.slice (some ⟨b', o', none⟩) ks.length c') ∧ v.cell? ⟨b, o + i * 8, none⟩ = some (.int .u8 k.h.k) ∧ v.cell? ⟨b, o + i * 8 + 1, none⟩ = some (.int .u8 k.h.o) ∧ v.cell? ⟨b, o + i * 8 + 2, none⟩ = some (.int .u8 k.h.t) ∧ v.cell? ⟨b, o + i * 8 + 3, none⟩ = some (.int .i64 k.h.n) ∧ v.cell? ⟨b, o + i * 8 + 4, none⟩ = some (.int .u8 k.h.f) ∧ v.cell? ⟨b, o + i * 8 + 5, none⟩ = some (.string k.h.x) ∧ v.cell? ⟨b, o + i * 8 + 6, none⟩ = some (.slice k.a k.ks.length k.c) ∧ v.cell? ⟨b, o + i * 8 + 7, none⟩ = some (.int .i64 k.h.p) ∧ v.cell? ⟨b', o' + i * 8, none⟩ = some (.int .u8 k'.h.k) ∧ v.cell? ⟨b', o' + i * 8 + 1, none⟩ = some (.int .u8 k'.h.o) ∧ v.cell? ⟨b', o' + i * 8 + 2, none⟩ = some (.int .u8 k'.h.t) ∧ v.cell? ⟨b', o' + i * 8 + 3, none⟩ = some (.int .i64 k'.h.n) ∧ v.cell? ⟨b', o' + i * 8 + 4, none⟩ = some (.int .u8 k'.h.f) ∧ v.cell? ⟨b', o' + i * 8 + 5, none⟩ = some (.string k'.h.x) ∧ v.cell? ⟨b', o' + i * 8 + 6, none⟩ = some (.slice k'.a k'.ks.length k'.c) ∧ v.cell? ⟨b', o' + i * 8 + 7, none⟩ = some (.int .i64 k'.h.p) ∧ GB wr v) := fun v hv => by
        have hk1' := HK1.out.on hv
        have hk2' := HK2.out.on hv
        exact ⟨cell_of ((hv.block _ (Array.getElem?_eq_some_iff.1 HQ0.out).1).trans HQ0.out) 6, cell_of ((hv.block _ (Array.getElem?_eq_some_iff.1 HQ1.out).1).trans HQ1.out) 6, hk1'.c0, hk1'.c1, hk1'.c2, hk1'.c3, hk1'.c4, hk1'.c5, hk1'.c6, hk1'.c7, hk2'.c0, hk2'.c1, hk2'.c2, hk2'.c3, hk2'.c4, hk2'.c5, hk2'.c6, hk2'.c7, hv⟩
      have hmx : (i : Int) + 1 ≤ 9223372036854775807 := by
        have h1 := HL.out.max
        have h2 := HL.out.cap
        simp only [Nd.ks, Nd.c] at h1 h2
        omega
      clear ek ek' e1 e2 e1' e2' hat hat' hk1 hk2
      go_upto_region 6 with fail
      go_region_held3 (fun v => v.cell? ⟨w.heap.size, 6, none⟩ = some (.slice (some ⟨b, o, none⟩) ks.length c) ∧ v.cell? ⟨w.heap.size + 1, 6, none⟩ = some (.slice (some ⟨b', o', none⟩) ks.length c') ∧ v.cell? ⟨b, o + i * 8, none⟩ = some (.int .u8 k.h.k) ∧ v.cell? ⟨b, o + i * 8 + 1, none⟩ = some (.int .u8 k.h.o) ∧ v.cell? ⟨b, o + i * 8 + 2, none⟩ = some (.int .u8 k.h.t) ∧ v.cell? ⟨b, o + i * 8 + 3, none⟩ = some (.int .i64 k.h.n) ∧ v.cell? ⟨b, o + i * 8 + 4, none⟩ = some (.int .u8 k.h.f) ∧ v.cell? ⟨b, o + i * 8 + 5, none⟩ = some (.string k.h.x) ∧ v.cell? ⟨b, o + i * 8 + 6, none⟩ = some (.slice k.a k.ks.length k.c) ∧ v.cell? ⟨b, o + i * 8 + 7, none⟩ = some (.int .i64 k.h.p) ∧ v.cell? ⟨b', o' + i * 8, none⟩ = some (.int .u8 k'.h.k) ∧ v.cell? ⟨b', o' + i * 8 + 1, none⟩ = some (.int .u8 k'.h.o) ∧ v.cell? ⟨b', o' + i * 8 + 2, none⟩ = some (.int .u8 k'.h.t) ∧ v.cell? ⟨b', o' + i * 8 + 3, none⟩ = some (.int .i64 k'.h.n) ∧ v.cell? ⟨b', o' + i * 8 + 4, none⟩ = some (.int .u8 k'.h.f) ∧ v.cell? ⟨b', o' + i * 8 + 5, none⟩ = some (.string k'.h.x) ∧ v.cell? ⟨b', o' + i * 8 + 6, none⟩ = some (.slice k'.a k'.ks.length k'.c) ∧ v.cell? ⟨b', o' + i * 8 + 7, none⟩ = some (.int .i64 k'.h.p) ∧ GB wr v)
        (exact HKP.out _ (by (repeat (first | with_reducible assumption | with_reducible exact GB.refl _ | with_reducible apply GB.drew | with_reducible apply GB.alloc | with_reducible refine GB.call (by with_reducible assumption) ?_))))
        (first | (go_at_call 18; refine (cI _ ((Below.refl _ _).drew)).mono ?_; rintro e w6 ⟨rfl, hb6⟩))
      all_goals (
        have HB6 : Hid (Below W0.heap.size W0 w6) := below2 HR.out (below2 (Below.refl _ _).drew hb6)
        clear hb6
        obtain ⟨r6, er⟩ : ∃ r, idB k k' = r := ⟨_, rfl⟩
        rw [er]
        have HT6 : Hid (idB ks[i] ks'[i] = r6) := HTW.out.trans er
        clear er
        cases r6 with
        | true =>
          go_wp2_with fail
          exact ⟨⟨i + 1, hlt, rfl, HB6, fun j h1 h2 hj => by
            by_cases e : j = i
            · subst e; exact HT6.out
            · exact HJ.out j h1 h2 (by omega)⟩, by simp only [intOf]; omega⟩
        | false =>
          go_wp2_with fail
          go_ret
          exact ⟨by show Ending.returned (.bool false) = .returned (.bool (idB _ _)); rw [id_same HE.out, idsB_false ks ks' i hlt hlt2 HT6.out], below2 HB.out HB6.out⟩)
    · obtain rfl : i = ks.length := by omega
      have hnot : ¬ (ks.length : Int) < (ks.length : Int) := by omega
      go_wp2_with fail
      go_ret
      exact ⟨by show Ending.returned (.bool true) = .returned (.bool (idB _ _)); rw [id_same HE.out, idsB_true ks ks' fun j h1 h2 => HJ.out j h1 h2 h1], HBr.out⟩
end Go.Proofs.YtighocmdlifheaaDoor

/-
  A region that draws its order and holds calls that make memory, within a round of a loop over a function: one walk serves every order.
-/
namespace Go.Proofs.YtighocmdlifheaaDoor
open Go.RowKit Go.Shelf Go.Sort
set_option linter.unusedVariables false

def plainOp (o : Oper) : Bool := match o.op with | .defer _ => false | _ => true
theorem plainOp_ne {o : Oper} (h : plainOp o = true) : ∀ c, o.op ≠ .defer c := by
  intro c e
  unfold plainOp at h
  rw [e] at h
  cases h
theorem wpOpIn_round {P : Program} {ops : Array Oper} {C : World → Prop} {lo n i : Nat} {a : Act} {w : World} {K : Act → Prop} {K' : Act → World → Prop} {Q' : Exit → Act → World → Prop}
    (hnd : ∀ (i : Nat) o, ops[i]? = some o → plainOp o = true) (hw : C w) (h : ∀ a w', C w' → K a → K' a w') (hh : qOp P ops C i K a) : wpOpIn (Fence.wide.inRound lo) n P ops Q' i K' a w := by
  unfold qOp at hh
  unfold wpOpIn
  cases ho : ops[i]? with
  | none => simp only [ho] at hh ⊢; exact h _ _ hw hh
  | some o =>
    simp only [ho] at hh ⊢
    by_cases hwt : Region.wanted o (yielded ops a.tmps) = true
    · simp only [hwt, if_true] at hh ⊢
      obtain ⟨v, h1, h2⟩ := hh
      refine ⟨fun _ _ => trivial, ?_⟩
      rw [Oper.semAt_plain _ _ _ (plainOp_ne (hnd i o ho))]
      have h1 := h1 w hw
      unfold Oper.quietAt at h1
      cases hr : (execOp a.eval o).run P w with
      | ok x w' =>
        rw [hr] at h1
        cases x with
        | value u => obtain ⟨rfl, rfl⟩ := h1; exact h _ _ hw h2
        | skip => obtain ⟨rfl, rfl⟩ := h1; exact h _ _ hw h2
        | enter f args =>
          obtain ⟨rfl, h1⟩ := h1
          refine ⟨fun e => by simp [Fence.inRound, Fence.wide] at e, ?_⟩
          refine CallsIn.inRound lo (callsIn_wide.2 (h1.mono ?_))
          rintro e w'' ⟨rfl, hc⟩
          exact h _ _ hc h2
        | _ => exact h1.elim
      | halt x w' => rw [hr] at h1; exact h1.elim
    · simp only [hwt] at hh ⊢
      exact ⟨fun _ _ => trivial, h _ _ hw hh⟩
theorem wpAnyIn_round {P : Program} {md : Region.Mode} {ops : Array Oper} {C : World → Prop} {lo n : Nat} {Q : Act → Prop} {Q' : Exit → Act → World → Prop} (hnd : ∀ (i : Nat) o, ops[i]? = some o → plainOp o = true) (hQ : ∀ a w, C w → Q a → Q' .normal a w) : ∀ (fuel : Nat) (listed : Array Bool) (a : Act) (w : World), C w →
    wpAnyQ P md ops C Q fuel listed a → wpAnyIn (Fence.wide.inRound lo) n P md ops Q' fuel listed a w
  | 0, _, _, _, hw, h => ⟨h.1, hQ _ _ hw h.2⟩
  | fuel + 1, _, _, _, hw, h => ⟨fun h0 => hQ _ _ hw (h.1 h0), fun i hi => wpOpIn_round hnd hw (fun a' w' hw' => wpAnyIn_round hnd hQ fuel _ a' w' hw') (h.2 i hi)⟩
theorem wpIn_region_roundC {P : Program} {C : World → Prop} {lo n id : Nat} {Q : Exit → Act → World → Prop} {a : Act} {w : World} {l : List Oper} (hC : C { w with drawn := w.drawn + 1 }) (hm : P.follows .mixedOrders = true) (hB : Region.lexB .any l.toArray = true) (hnd : l.all plainOp = true)
    (h : wpQuiet P l.toArray C (fun a' => ∀ w', C w' → Q .normal a' w') l a) : (Code.region id l.toArray true).wpIn (Fence.wide.inRound lo) n P Q a w := by
  simp only [Region.lexB, Bool.and_eq_true] at hB
  have hnd' : ∀ (i : Nat) o, l.toArray[i]? = some o → plainOp o = true := fun i o ho => by
    rw [List.getElem?_toArray] at ho
    exact List.all_eq_true.1 hnd o (List.mem_of_getElem? ho)
  refine wpIn_region_any hm (wpAnyIn_round (C := C) (Q := fun a' => ∀ w', C w' → Q .normal a' w') hnd' (fun _ w' hw' h => h w' hw') _ _ _ _ hC ?_)
  have := wpAnyQ_lex (C := C) (md := .any) hB.1 l 0 (Array.replicate l.toArray.size false) a (by simp) (by simpa using hB.2) h
  simpa using this
theorem wpIn_region_round {P : Program} {lo n id : Nat} {Q : Exit → Act → World → Prop} {a : Act} {w : World} {l : List Oper} (hm : P.follows .mixedOrders = true) (hB : Region.lexB .any l.toArray = true) (hnd : l.all plainOp = true)
    (h : wpQuiet P l.toArray (fun w' => ∃ n, w' = w.drewN n) (fun a' => ∀ w', (∃ n, w' = w.drewN n) → Q .normal a' w') l a) : (Code.region id l.toArray true).wpIn (Fence.wide.inRound lo) n P Q a w :=
  wpIn_region_roundC ⟨1, rfl⟩ hm hB hnd h
/-- Calls in the region may make memory. -/
theorem wpIn_region_roundB {P : Program} {lo n id : Nat} {Q : Exit → Act → World → Prop} {a : Act} {w : World} {l : List Oper} (hm : P.follows .mixedOrders = true) (hB : Region.lexB .any l.toArray = true) (hnd : l.all plainOp = true)
    (h : wpQuiet P l.toArray (fun w' => ∃ p : Regrown, w' = grow (redrawn w p.d) p.os) (fun a' => ∀ w', (∃ p : Regrown, w' = grow (redrawn w p.d) p.os) → Q .normal a' w') l a) : (Code.region id l.toArray true).wpIn (Fence.wide.inRound lo) n P Q a w :=
  wpIn_region_roundC ⟨⟨w.drawn + 1, #[]⟩, by rw [grow_empty]; rfl⟩ hm hB hnd h
end Go.Proofs.YtighocmdlifheaaDoor

/-
  TreeAlls: what its loops keep.
-/
namespace Go.Proofs.YtighocmdlifheaaDoor
open Go.RowKit Go.Shelf Go.Sort
set_option linter.unusedVariables false
theorem not_prefix {pre : List Nat} {x m : Nat} (hx : x ≠ pre.length) : ¬ (pre ++ [x]) <+: List.range m := by
  rintro ⟨r, hr⟩
  have h1 : (List.range m)[pre.length]? = some x := by rw [← hr]; simp
  by_cases h : pre.length < m
  · rw [List.getElem?_range h] at h1
    exact hx (Option.some.inj h1).symm
  · rw [List.getElem?_eq_none (by simpa using Nat.le_of_not_lt h)] at h1
    cases h1
theorem keeps_mv {W W' : World} {F : Nat → Prop} (m : Mv W W' F) (B : Nat) (hF : ∀ k, F k → ∀ o, W.heap[k]? = some o → o.isCells = true) : KeepsFrom B W W' :=
  ⟨m.size, fun k o _ hk ho => (m.block k (Array.getElem?_eq_some_iff.1 hk).1 (fun e => by rw [hF k e o hk] at ho; cases ho)).trans hk⟩
theorem keeps_below {W W' : World} (h : Below W.heap.size W W') (B : Nat) : KeepsFrom B W W' := keeps_mv (Mv.ofBelow h) B (fun _ e => e.elim)
theorem mv_drewN (Y : World) (n : Nat) (F : Nat → Prop) : Mv Y (Y.drewN n) F := ⟨rfl, rfl, rfl, Nat.le_refl _, fun _ _ _ => rfl⟩
theorem Mv.kc {W W' : World} {F : Nat → Prop} (h : Mv W W' F) : Kc F W W' := ⟨h.size, fun b cs t fr hv hb => h.block b (Array.getElem?_eq_some_iff.1 hb).1 hv⟩
/-- So many have come, and but for that box the world has only grown. -/
structure IC (W0 : World) (Bk k : Nat) (W : World) : Prop where
  mv : Mv W0 W (fun b => b = Bk)
  cnt : Boxed W Bk 3 (.int .i64 (k : Nat))
theorem IC.hid {W0 : World} {Bk k : Nat} {W : World} (h : IC W0 Bk k W) : Hid (IC W0 Bk k W) := h
theorem ic_grown {W0 W W' : World} {Bk k : Nat} {row : Option Nat} (h : IC W0 Bk k W) (hg : W.grownBy W' row) (hr : ∀ r, row = some r → W0.heap.size ≤ r ∧ ∃ o : Obj, W.heap[r]? = some o ∧ o.isCells = false) : IC W0 Bk k W' :=
  ⟨h.mv.grown hg (fun k e => .inr (hr k e).1), boxed_own Bk 3 (fun (_ : Unit) => _) () W W' row h.cnt hg (fun x e => (hr x e).2)⟩
theorem IC.below {W0 W W' : World} {Bk k : Nat} (h : IC W0 Bk k W) (hb : Below W.heap.size W W') : IC W0 Bk k W' :=
  ⟨h.mv.trans (Mv.ofBelow hb) (fun _ e => e.elim), (hb.block _ h.cnt.lt).trans h.cnt⟩
/-- The count, one up. -/
theorem IC.up {W0 W W' : World} {Bk k : Nat} (h : IC W0 Bk k W) (hb : Mv W W' (fun _ => False)) : IC W0 Bk (k + 1) (W'.setCell ⟨Bk, 0, none⟩ (.int .i64 ((k : Int) + 1))) ∧ Mv W (W'.setCell ⟨Bk, 0, none⟩ (.int .i64 ((k : Int) + 1))) (fun b => b = Bk) := by
  have m : Mv W (W'.setCell ⟨Bk, 0, none⟩ (.int .i64 ((k : Int) + 1))) (fun b => b = Bk) := (hb.mono (F' := fun b => b = Bk) (fun _ e => e.elim)).setCell (a := ⟨Bk, 0, none⟩) (Or.inl (rfl : Bk = Bk)) _
  refine ⟨⟨h.mv.trans m (fun _ e => .inl e), ?_⟩, m⟩
  rw [show ((k + 1 : Nat) : Int) = (k : Int) + 1 by omega]
  exact Boxed.set _ (show Boxed W' Bk 3 _ from (hb.block _ h.cnt.lt (fun e => e)).trans h.cnt)
theorem keeps_box {W W' : World} {Bk : Nat} {t : TypeId} {v : Value} (m : Mv W W' (fun b => b = Bk)) (hb : Boxed W Bk t v) (B : Nat) : KeepsFrom B W W' :=
  keeps_mv m B (fun k e o ho => by subst e; rw [show W.heap[k]? = _ from hb] at ho; cases ho; rfl)
theorem ic_own (W0 : World) (Bk : Nat) (p : List Nat → Prop) : OwnFrom W0.heap.size (fun (pre : List Nat) W => p pre ∧ IC W0 Bk pre.length W) :=
  fun pre W W' row hs hg hr => ⟨hs.1, ic_grown hs.2 hg hr⟩
theorem boxed_grown {W W' : World} {B : Nat} {t : TypeId} {v : Value} {row : Option Nat} {C : Nat} (h : Boxed W B t v) (hg : W.grownBy W' row) (hr : ∀ r, row = some r → C ≤ r ∧ ∃ o : Obj, W.heap[r]? = some o ∧ o.isCells = false) : Boxed W' B t v :=
  boxed_own B t (fun (_ : Unit) => _) () W W' row h hg (fun x e => (hr x e).2)
theorem ndh_grown {W W' : World} {B : Nat} {m : Nd} {row : Option Nat} {C : Nat} (h : NdH W B m) (hg : W.grownBy W' row) (hr : ∀ r, row = some r → C ≤ r ∧ ∃ o : Obj, W.heap[r]? = some o ∧ o.isCells = false) : NdH W' B m :=
  (hg.block B h.lt (fun e => by
    obtain ⟨_, o, ho, hc⟩ := hr B e.symm
    rw [show W.heap[B]? = _ from h] at ho
    cases ho
    cases hc)).trans h
/-- What a round is handed. -/
def dN : Nd := .mk ⟨0, 0, 0, 0, 0, ⟨#[]⟩, 0⟩ none 0 []
def nX (N : List Nd) (x : Nat) : Nd := cutN (N.getD x dN)
theorem enc_nX (N : List Nd) (x : Nat) : encN N x = #[.agg (nX N x).vals] := rfl
theorem ax_own {C : Nat} (a' : Act) (A : Nat → Act) (X : Nd) : OwnFrom C (fun (_ : Unit) W => ∃ Bt, a' = A Bt ∧ NdH W Bt X) := by
  intro u W W' row hs hg hr
  obtain ⟨Bt, e, h⟩ := hs
  exact ⟨Bt, e, ndh_grown h hg hr⟩
theorem mem_pres {k : Nd} : ∀ {ks : List Nd}, k ∈ pres ks → ∃ j ∈ ks, k ∈ pre j
  | [], h => by simp [pres] at h
  | j :: js, h => by
    simp only [pres, List.mem_append] at h
    rcases h with h | h
    · exact ⟨j, by simp, h⟩
    · obtain ⟨i, h1, h2⟩ := mem_pres h
      exact ⟨i, List.mem_cons_of_mem _ h1, h2⟩
theorem lies_pre {w : World} : ∀ (m : Nd), Lies w m → ∀ k ∈ pre m, Lies w k := by
  refine Nd.ind fun h a c ks ih hl k hk => ?_
  simp only [pre, List.mem_cons] at hk
  rcases hk with rfl | hk
  · exact hl
  · obtain ⟨j, h1, h2⟩ := mem_pres hk
    exact ih j h1 (hl.sub j h1) k h2
theorem liesX {w : World} {m : Nd} (hl : Lies w m) (x : Nat) : Lies w (nX (pre m) x) := by
  unfold nX
  by_cases hx : x < (pre m).length
  · rw [List.getD_eq_getElem?_getD, List.getElem?_eq_getElem hx, Option.getD_some]
    have := lies_pre m hl _ (List.getElem_mem hx)
    generalize (pre m)[x] = q at this ⊢
    obtain ⟨h, a, c, ks⟩ := q
    exact this.cut (Nat.le_refl _) (Nat.le_trans this.cap this.max)
  · rw [List.getD_eq_getElem?_getD, List.getElem?_eq_none (by omega), Option.getD_none]
    exact .mk _ none 0 [] (by constructor <;> first | decide | (show (0 : Nat) ≤ _; omega)) (by simp) (by simp) (fun i hi => by simp at hi) (fun k hk => by simp at hk)
theorem liesK {w : World} {m : Nd} (hl : Lies w m) {k : Nat} (hk : k < (pre m).length) : Lies w (ldF (pre m) k) := by
  unfold ldF
  rw [List.getD_eq_getElem?_getD, List.getElem?_eq_getElem hk, Option.getD_some]
  exact lies_pre m hl _ (List.getElem_mem hk)
theorem nX_at {N : List Nd} {k : Nat} (hk : k < N.length) : nX N k = cutN (ldF N k) := by
  unfold nX ldF
  rw [List.getD_eq_getElem?_getD, List.getD_eq_getElem?_getD, List.getElem?_eq_getElem hk]
  rfl
theorem same_at {N : List Nd} {k : Nat} (hk : k < N.length) : idB (nX N k) (ldF N k) = true := by
  rw [nX_at hk]
  exact twin_id _ _ (Twin.cut _)
theorem kind_at {N : List Nd} {k : Nat} (hk : k < N.length) : (nX N k).h.k = (ldF N k).h.k := by
  rw [nX_at hk]
  cases ldF N k
  rfl
theorem result4 (tmps : Array Value) (W : World) (a : Addr) (h : tmps[4]?.getD undef = .pointer (some a)) (hc : W.cell? a = some (.bool true)) : (results Tryd.f4 tmps).run Tryd.prog W = .ok (.bool true) W := by
  simp [results, go_sem, h, hc]
def cSnd : Code → Code
  | .seq _ b => b
  | c => c
end Go.Proofs.YtighocmdlifheaaDoor

/-
  PLAIN: the fields and registers that a row of nodes names. A map of counts.
-/
namespace Go.Proofs.YtighocmdlifheaaDoor
open Go.RowKit Go.Shelf Go.Maps
set_option linter.unusedVariables false

/-- One bit, where a mask has it. -/
def bitN (f : Int) : Int := IntKind.u16.wrap (2 ^ min f.toNat 16)
def mkF (a : Int) (x : Nd) : Int := if x.h.k = 3 ∨ x.h.k = 4 then bits .or .u16 a (bitN x.h.f) else a
def hasT (L : List ByteArray) (x : ByteArray) : Bool := L.any (fun y => decide (y = x))
theorem hasT_iff {L : List ByteArray} {x : ByteArray} : hasT L x = true ↔ x ∈ L := by unfold hasT; simp
theorem hasT_not {L : List ByteArray} {x : ByteArray} : hasT L x = false ↔ x ∉ L := by rw [← hasT_iff]; simp
def nmF (L : List ByteArray) (x : Nd) : List ByteArray := if x.h.k = 2 ∧ hasT L x.h.x = false then L ++ [x.h.x] else L
def mkL (T : List Nd) : Int := T.foldl mkF 0
def nmL (T : List Nd) : List ByteArray := T.foldl nmF []
def ctL (T : List Nd) (y : ByteArray) : Nat := (T.filter (fun x => decide (x.h.k = 2 ∧ x.h.x = y))).length
theorem mkL_snoc (T : List Nd) (x : Nd) : mkL (T ++ [x]) = mkF (mkL T) x := by unfold mkL; rw [List.foldl_append]; rfl
theorem nmL_snoc (T : List Nd) (x : Nd) : nmL (T ++ [x]) = nmF (nmL T) x := by unfold nmL; rw [List.foldl_append]; rfl
theorem ctL_snoc (T : List Nd) (x : Nd) (y : ByteArray) : ctL (T ++ [x]) y = ctL T y + if x.h.k = 2 ∧ x.h.x = y then 1 else 0 := by
  unfold ctL
  rw [List.filter_append, List.length_append]
  by_cases h : x.h.k = 2 ∧ x.h.x = y
  · rw [if_pos h, List.filter_cons_of_pos (by simpa using h)]; rfl
  · rw [if_neg h, List.filter_cons_of_neg (by simpa using h)]; rfl
theorem list_snoc_ind {α : Type} {P : List α → Prop} (h0 : P []) (h1 : ∀ T x, P T → P (T ++ [x])) : ∀ T, P T := by
  intro T
  have : ∀ n, ∀ T : List α, T.length = n → P T := by
    intro n
    induction n with
    | zero => intro T hT; rw [List.length_eq_zero_iff.1 hT]; exact h0
    | succ n ih =>
      intro T hT
      have hne : T ≠ [] := by intro e; rw [e] at hT; cases hT
      rw [← List.dropLast_concat_getLast hne]
      exact h1 _ _ (ih _ (by rw [List.length_dropLast, hT]; rfl))
  exact this _ T rfl
theorem mem_nmL (T : List Nd) (y : ByteArray) : y ∈ nmL T ↔ 0 < ctL T y := by
  refine list_snoc_ind (P := fun T => y ∈ nmL T ↔ 0 < ctL T y) ?_ ?_ T
  · constructor
    · intro h; cases h
    · intro h; exact absurd h (Nat.lt_irrefl 0)
  · intro T x ih
    rw [nmL_snoc, ctL_snoc]
    unfold nmF
    by_cases hk : x.h.k = 2
    · by_cases hy : x.h.x = y
      · rw [if_pos (show x.h.k = 2 ∧ x.h.x = y from ⟨hk, hy⟩)]
        constructor
        · intro _; omega
        · intro _
          by_cases hm : x.h.x ∈ nmL T
          · rw [if_neg (fun h => hasT_not.1 h.2 hm)]; rw [← hy]; exact hm
          · rw [if_pos ⟨hk, hasT_not.2 hm⟩]; simp [hy]
      · rw [if_neg (show ¬ (x.h.k = 2 ∧ x.h.x = y) from fun h => hy h.2), Nat.add_zero, ← ih]
        by_cases hm : x.h.x ∈ nmL T
        · rw [if_neg (fun h => hasT_not.1 h.2 hm)]
        · rw [if_pos ⟨hk, hasT_not.2 hm⟩]
          simp only [List.mem_append, List.mem_singleton]
          constructor
          · rintro (h | h)
            · exact h
            · exact absurd h.symm hy
          · exact .inl
    · rw [if_neg (show ¬ (x.h.k = 2 ∧ hasT (nmL T) x.h.x = false) from fun h => hk h.1), if_neg (show ¬ (x.h.k = 2 ∧ x.h.x = y) from fun h => hk h.1), Nat.add_zero]
      exact ih
theorem nmL_len (T : List Nd) : (nmL T).length ≤ T.length := by
  refine list_snoc_ind (P := fun T => (nmL T).length ≤ T.length) (Nat.le_refl _) ?_ T
  intro T x ih
  rw [nmL_snoc]
  unfold nmF
  split
  · simp only [List.length_append, List.length_singleton]; omega
  · simp only [List.length_append, List.length_singleton]; omega
theorem ctL_len (T : List Nd) (y : ByteArray) : ctL T y ≤ T.length := by unfold ctL; exact List.length_filter_le _ _

theorem key_ne {x y : ByteArray} (h : ¬ x = y) : Lit.string y.data.toList ≠ Lit.string x.data.toList := by
  intro e
  apply h
  have e1 : y.data.toList = x.data.toList := by injection e
  have e2 : y.data = x.data := Array.toList_inj.1 e1
  cases x; cases y; simp only at e2; rw [e2]
/-- A map that counts names. -/
def Mp (w : World) (b n : Nat) (L : ByteArray → Nat) : Prop :=
  ∃ (D : DataW Unit), w.ownsMap Tryd.prog 9 (plainElem Tryd.prog 3) b n D ∧ ∀ x : ByteArray, x.size ≤ maxLen → D.atKey (.string x.data.toList) (.lit (.int .i64 0)) = .lit (.int .i64 (L x))
theorem Mp.lt {w : World} {b n : Nat} {L : ByteArray → Nat} (h : Mp w b n L) : b < w.heap.size := let ⟨_, ho, _⟩ := h; ho.lt
theorem Mp.blk {w w' : World} {b n : Nat} {L : ByteArray → Nat} (h : Mp w b n L) (k : w'.heap[b]? = w.heap[b]?) : Mp w' b n L := by
  obtain ⟨D, ho, hL⟩ := h
  obtain ⟨es, clock, hb, F, hs, hD⟩ := ho
  exact ⟨D, ⟨es, clock, k.trans hb, F, hs, hD⟩, hL⟩
theorem Mp.made (w : World) : Mp (w.alloc (.map #[] 0)) w.heap.size 0 (fun _ => 0) := ⟨_, World.ownsMap_made w _ _ _, fun x _ => rfl⟩
theorem Mp.notCells {w : World} {b n : Nat} {L : ByteArray → Nat} (h : Mp w b n L) : ∀ cs t fr, w.heap[b]? ≠ some (.cells cs t fr) := by
  intro cs t fr e
  obtain ⟨D, ⟨es, clock, hb, _⟩, _⟩ := h
  rw [hb] at e
  cases e
theorem Mp.put {w w' : World} {b n : Nat} {L : ByteArray → Nat} {D : DataW Unit} {y : ByteArray} (ho : w.ownsMap Tryd.prog 9 (plainElem Tryd.prog 3) b n D)
    (hL : ∀ x : ByteArray, x.size ≤ maxLen → D.atKey (.string x.data.toList) (.lit (.int .i64 0)) = .lit (.int .i64 (L x)))
    (h : w'.ownsMap Tryd.prog 9 (plainElem Tryd.prog 3) b (n + 1) (D.put (.string y.data.toList) (.lit (.int .i64 ((L y : Int) + 1))))) : Mp w' b (n + 1) (fun x => L x + if y = x then 1 else 0) := by
  have hD : IsMap D := by obtain ⟨es, clock, _, _, _, e⟩ := ho; exact ⟨_, e⟩
  refine ⟨_, h, fun x hx => ?_⟩
  by_cases hr : y = x
  · subst hr
    rw [atKey_put_same hD (by trivial)]
    show DataW.lit (Lit.int .i64 ((L y : Int) + 1)) = DataW.lit (Lit.int .i64 ((L y + if y = y then 1 else 0 : Nat) : Int))
    rw [if_pos rfl]
    rfl
  · rw [atKey_put_other (key_ne hr), hL x hx]
    show DataW.lit (Lit.int .i64 (L x : Int)) = DataW.lit (Lit.int .i64 ((L x + if y = x then 1 else 0 : Nat) : Int))
    rw [if_neg hr]
    rfl
theorem put_at {w : World} {b n : Nat} {D : DataW Unit} (ho : w.ownsMap Tryd.prog 9 (plainElem Tryd.prog 3) b n D) (y : ByteArray) (v : Int) : (D.put (.string y.data.toList) (.lit (.int .i64 v))).atKey (.string y.data.toList) (.lit (.int .i64 0)) = .lit (.int .i64 v) := by
  have hD : IsMap D := by obtain ⟨es, clock, _, _, _, e⟩ := ho; exact ⟨_, e⟩
  rw [atKey_put_same hD (by trivial)]
theorem Mp.mono {w : World} {b n n' : Nat} {L : ByteArray → Nat} (h : Mp w b n L) (k : n ≤ n') : Mp w b n' L := let ⟨D, ho, hL⟩ := h; ⟨D, ho.mono k, hL⟩
theorem law9 : Keyed Tryd.prog 9 := string_keyed Tryd.underlying9
/-- A list of texts of the call's own. -/
def txF (L : List ByteArray) (j : Nat) : Value := .string (L.getD j ⟨#[]⟩)
def RowT (w : World) (v : Value) (L : List ByteArray) : Prop := Row w 9 1 v L.length (txF L)
end Go.Proofs.YtighocmdlifheaaDoor
