import Derived.Test.YtighocmdlifheaaGreatDoorM9
/-
  SameNode of any two expressions: it answers, and of twins it says yes.
-/
namespace Go.Proofs.YtighocmdlifheaaGreatDoor
open Go.RowKit
theorem ba_ext2 {a b : ByteArray} (h : a.data.toList = b.data.toList) : a = b := by
  cases a; cases b; congr 1; exact Array.toList_inj.1 h
theorem str_ne {a b : ByteArray} (h : ¬ a = b) : (a.toList == b.toList) = false := by
  rw [ByteArray.toList_eq, ByteArray.toList_eq]
  exact beq_false_of_ne (fun h' => h (ba_ext2 h'))
mutual
/-- Are two expressions the same, their places too? -/
def idB : Nd → Nd → Bool
  | .mk g _ _ js, m => (alike g m.h && decide (g.p = m.h.p)) && (decide (js.length = m.ks.length) && idsB js m.ks)
def idsB : List Nd → List Nd → Bool
  | [], _ => true
  | _ :: _, [] => true
  | j :: js, k :: ks => idB j k && idsB js ks
end
theorem idsB_false : ∀ (js ks : List Nd) (i : Nat) (h1 : i < js.length) (h2 : i < ks.length), idB js[i] ks[i] = false → idsB js ks = false := by
  intro js
  induction js with
  | nil => intro ks i h1; simp at h1
  | cons j js ih =>
    intro ks i h1 h2 h
    cases ks with
    | nil => simp at h2
    | cons k ks =>
      simp only [idsB]
      cases i with
      | zero => simp at h; rw [h]; rfl
      | succ i =>
        rw [ih ks i (by simpa using h1) (by simpa using h2) (by simpa using h)]
        simp
theorem idsB_true : ∀ (js ks : List Nd), (∀ i (h1 : i < js.length) (h2 : i < ks.length), idB js[i] ks[i] = true) → idsB js ks = true := by
  intro js
  induction js with
  | nil => intro ks _; cases ks <;> rfl
  | cons j js ih =>
    intro ks h
    cases ks with
    | nil => rfl
    | cons k ks =>
      simp only [idsB, Bool.and_eq_true]
      exact ⟨h 0 (by simp) (by simp), ih ks fun i h1 h2 => h (i + 1) (by simpa using h1) (by simpa using h2)⟩
theorem alikeS (h : Hd) : alike h h = true := by simp [alike]
theorem twin_id : ∀ (m k : Nd), Twin m k → idB m k = true := by
  refine Nd.ind fun h a c ks ih k t => ?_
  cases t with
  | mk _ _ a' _ c' _ ks' hl hk =>
    simp only [idB, Nd.h, Nd.ks, alikeS, hl, decide_true, Bool.true_and]
    exact idsB_true ks ks' fun i h1 h2 => ih _ (nth_mem h1) _ (hk i h1 h2)
theorem id_head {h g : Hd} {a a' : Option Addr} {c c' : Nat} {ks ks' : List Nd} (n : h = g ∧ ks.length = ks'.length → False) : idB (.mk h a c ks) (.mk g a' c' ks') = false := by
  cases hb : idB (.mk h a c ks) (.mk g a' c' ks') with
  | false => rfl
  | true =>
    exfalso
    simp only [idB, Nd.h, Nd.ks, alike, Bool.and_eq_true] at hb
    obtain ⟨⟨⟨h1, h2, h3, h4, h5, h6⟩, h7⟩, h8, _⟩ := hb
    refine n ⟨?_, of_decide_eq_true h8⟩
    have h1 := of_decide_eq_true h1
    have h2 := of_decide_eq_true h2
    have h3 := of_decide_eq_true h3
    have h4 := of_decide_eq_true h4
    have h5 := of_decide_eq_true h5
    have h6 := of_decide_eq_true h6
    have h7 := of_decide_eq_true h7
    cases h
    cases g
    simp_all
theorem id_same {h : Hd} {a a' : Option Addr} {c c' : Nat} {ks ks' : List Nd} (hl : ks'.length = ks.length) : idB (.mk h a c ks) (.mk h a' c' ks') = idsB ks ks' := by
  simp [idB, Nd.h, Nd.ks, alikeS, hl]
/-- What SameNode hands back. -/
def Smd (m k : Nd) (w : World) (e : Ending) (w' : World) : Prop := e = .returned (.bool (idB m k)) ∧ Below w.heap.size w w'
set_option maxRecDepth 100000 in
set_option maxHeartbeats 16000000 in
theorem some_any : ∀ (m k : Nd) (w : World), Lies w m → Lies w k → Calls Tryz.prog 29 #[.agg m.vals, .agg k.vals] w (Smd m k w) := by
  refine Nd.ind fun h a c ks ih k w hl hl' => ?_
  cases k with
  | mk g a' c' ks' =>
  have HI : Hid (∀ j (h1 : j < ks.length) (h2 : j < ks'.length) (w : World), Lies w ks[j] → Lies w ks'[j] → Calls Tryz.prog 29 #[.agg ks[j].vals, .agg ks'[j].vals] w (Smd ks[j] ks'[j] w)) := fun j h1 h2 v hv hv' => ih _ (nth_mem h1) _ v hv hv'
  have HL := hl.hid
  have HL' := hl'.hid
  show Calls Tryz.prog 29 #[.agg #[.int .u8 h.k, .int .u8 h.o, .int .u8 h.t, .int .i64 h.n, .int .u8 h.f, .string h.x, .slice a ks.length c, .int .i64 h.p], .agg #[.int .u8 g.k, .int .u8 g.o, .int .u8 g.t, .int .i64 g.n, .int .u8 g.f, .string g.x, .slice a' ks'.length c', .int .i64 g.p]] w _
  clear ih hl hl'
  by_cases n0 : ¬ h.p = g.p
  · have HN : Hid (¬ h.p = g.p) := n0
    go_enter Tryz.func29, Tryz.ntmps29
    go_wp2_with fail
    go_ret
    exact ⟨by show Ending.returned (.bool false) = .returned (.bool (idB _ _)); rw [id_head fun t => HN.out (congrArg Hd.p t.1)], below_two _ _ _⟩
  have e0 : h.p = g.p := Classical.not_not.1 n0
  clear n0
  by_cases n1 : ¬ h.k = g.k
  · have HN : Hid (¬ h.k = g.k) := n1
    go_enter Tryz.func29, Tryz.ntmps29
    go_wp2_with fail
    go_ret
    exact ⟨by show Ending.returned (.bool false) = .returned (.bool (idB _ _)); rw [id_head fun t => HN.out (congrArg Hd.k t.1)], below_two _ _ _⟩
  have e1 : h.k = g.k := Classical.not_not.1 n1
  clear n1
  by_cases n2 : ¬ h.o = g.o
  · have HN : Hid (¬ h.o = g.o) := n2
    go_enter Tryz.func29, Tryz.ntmps29
    go_wp2_with fail
    go_ret
    exact ⟨by show Ending.returned (.bool false) = .returned (.bool (idB _ _)); rw [id_head fun t => HN.out (congrArg Hd.o t.1)], below_two _ _ _⟩
  have e2 : h.o = g.o := Classical.not_not.1 n2
  clear n2
  by_cases n3 : ¬ h.t = g.t
  · have HN : Hid (¬ h.t = g.t) := n3
    go_enter Tryz.func29, Tryz.ntmps29
    go_wp2_with fail
    go_ret
    exact ⟨by show Ending.returned (.bool false) = .returned (.bool (idB _ _)); rw [id_head fun t => HN.out (congrArg Hd.t t.1)], below_two _ _ _⟩
  have e3 : h.t = g.t := Classical.not_not.1 n3
  clear n3
  by_cases n4 : ¬ h.n = g.n
  · have HN : Hid (¬ h.n = g.n) := n4
    go_enter Tryz.func29, Tryz.ntmps29
    go_wp2_with fail
    go_ret
    exact ⟨by show Ending.returned (.bool false) = .returned (.bool (idB _ _)); rw [id_head fun t => HN.out (congrArg Hd.n t.1)], below_two _ _ _⟩
  have e4 : h.n = g.n := Classical.not_not.1 n4
  clear n4
  by_cases n5 : ¬ h.f = g.f
  · have HN : Hid (¬ h.f = g.f) := n5
    go_enter Tryz.func29, Tryz.ntmps29
    go_wp2_with fail
    go_ret
    exact ⟨by show Ending.returned (.bool false) = .returned (.bool (idB _ _)); rw [id_head fun t => HN.out (congrArg Hd.f t.1)], below_two _ _ _⟩
  have e5 : h.f = g.f := Classical.not_not.1 n5
  clear n5
  by_cases n6 : ¬ h.x = g.x
  · have s6 := str_ne n6
    have HN : Hid (¬ h.x = g.x) := n6
    go_enter Tryz.func29, Tryz.ntmps29
    go_wp2_with fail
    go_ret
    exact ⟨by show Ending.returned (.bool false) = .returned (.bool (idB _ _)); rw [id_head fun t => HN.out (congrArg Hd.x t.1)], below_two _ _ _⟩
  have e6 : h.x = g.x := Classical.not_not.1 n6
  clear n6
  by_cases n7x : ¬ ks.length = ks'.length
  · have n7 : ¬ (ks.length : Int) = (ks'.length : Int) := by omega
    have HN : Hid (¬ ks.length = ks'.length) := n7x
    go_enter Tryz.func29, Tryz.ntmps29
    go_wp2_with fail
    go_ret
    exact ⟨by show Ending.returned (.bool false) = .returned (.bool (idB _ _)); rw [id_head fun t => HN.out t.2], below_two _ _ _⟩
  have e7 : ks.length = ks'.length := Classical.not_not.1 n7x
  clear n7x
  obtain rfl : h = g := by cases h; cases g; simp_all
  clear e0 e1 e2 e3 e4 e5 e6
  have HE : Hid (ks'.length = ks.length) := e7.symm
  rw [← e7]
  clear e7
  go_enter Tryz.func29, Tryz.ntmps29
  go_wp2_with fail
  obtain ⟨W0, eW0⟩ : ∃ W0, (w.alloc (.cells #[.int .u8 h.k, .int .u8 h.o, .int .u8 h.t, .int .i64 h.n, .int .u8 h.f, .string h.x, .slice a ks.length c, .int .i64 h.p] 55)).alloc (.cells #[.int .u8 h.k, .int .u8 h.o, .int .u8 h.t, .int .i64 h.n, .int .u8 h.f, .string h.x, .slice a' ks.length c', .int .i64 h.p] 55) = W0 := ⟨_, rfl⟩
  have HB : Hid (Below w.heap.size w W0) := by rw [← eW0]; exact below_two _ _ _
  have HN0 : Hid (W0.heap[w.heap.size]? = some (.cells #[.int .u8 h.k, .int .u8 h.o, .int .u8 h.t, .int .i64 h.n, .int .u8 h.f, .string h.x, .slice a ks.length c, .int .i64 h.p] 55 (0, 0))) := by rw [← eW0]; exact heap_old (heap_new _ _) (by rw [size_alloc]; omega)
  have HN1 : Hid (W0.heap[w.heap.size + 1]? = some (.cells #[.int .u8 h.k, .int .u8 h.o, .int .u8 h.t, .int .i64 h.n, .int .u8 h.f, .string h.x, .slice a' ks.length c', .int .i64 h.p] 55 (0, 0))) := by rw [← eW0, ← size_alloc w (.cells #[.int .u8 h.k, .int .u8 h.o, .int .u8 h.t, .int .i64 h.n, .int .u8 h.f, .string h.x, .slice a ks.length c, .int .i64 h.p] 55)]; exact heap_new _ _
  rw [eW0]
  clear eW0
  go_loopw [5, 6] (fun t _ wr => ∃ i : Nat, i ≤ ks.length ∧ t = .int .i64 i ∧ Hid (Below W0.heap.size W0 wr) ∧ Hid (∀ j (h1 : j < ks.length) (h2 : j < ks'.length), j < i → idB ks[j] ks'[j] = true)) (fun t _ _ => ks.length - (intOf t).toNat)
  case atStart => exact ⟨0, by omega, rfl, Below.refl _ _, fun j _ _ hj => by omega⟩
  case round =>
    obtain ⟨i, hi, rfl, HR, HJ⟩ := hrel
    have q0 : wr.heap[w.heap.size]? = some (.cells #[.int .u8 h.k, .int .u8 h.o, .int .u8 h.t, .int .i64 h.n, .int .u8 h.f, .string h.x, .slice a ks.length c, .int .i64 h.p] 55 (0, 0)) := (HR.out.block _ (Array.getElem?_eq_some_iff.1 HN0.out).1).trans HN0.out
    have q1 : wr.heap[w.heap.size + 1]? = some (.cells #[.int .u8 h.k, .int .u8 h.o, .int .u8 h.t, .int .i64 h.n, .int .u8 h.f, .string h.x, .slice a' ks.length c', .int .i64 h.p] 55 (0, 0)) := (HR.out.block _ (Array.getElem?_eq_some_iff.1 HN1.out).1).trans HN1.out
    have HQ0 : Hid (wr.heap[w.heap.size]? = some (.cells #[.int .u8 h.k, .int .u8 h.o, .int .u8 h.t, .int .i64 h.n, .int .u8 h.f, .string h.x, .slice a ks.length c, .int .i64 h.p] 55 (0, 0))) := q0
    have HQ1 : Hid (wr.heap[w.heap.size + 1]? = some (.cells #[.int .u8 h.k, .int .u8 h.o, .int .u8 h.t, .int .i64 h.n, .int .u8 h.f, .string h.x, .slice a' ks.length c', .int .i64 h.p] 55 (0, 0))) := q1
    have c6 : wr.cell? ⟨w.heap.size, 6, none⟩ = some (.slice a ks.length c) := cell_of q0 6
    have d6 : wr.cell? ⟨w.heap.size + 1, 6, none⟩ = some (.slice a' ks.length c') := cell_of q1 6
    clear q0 q1
    have HBr : Hid (Below w.heap.size w wr) := below2 HB.out HR.out
    by_cases hlt : i < ks.length
    · have hlt' : (i : Int) < (ks.length : Int) := by omega
      have hlt2 : i < ks'.length := by have := HE.out; omega
      obtain ⟨b, o, e1, hat⟩ := (HL.out.on HBr.out).kid i hlt
      have e1' : a = some ⟨b, o, none⟩ := e1
      have hk1 : NdAt wr b (o + i * 8) ks[i] := hat
      obtain ⟨b', o', e2, hat'⟩ := (HL'.out.on HBr.out).kid i hlt2
      have e2' : a' = some ⟨b', o', none⟩ := e2
      have hk2 : NdAt wr b' (o' + i * 8) ks'[i] := hat'
      have cI := fun v (hv : Below wr.heap.size wr v) => HI.out i hlt hlt2 v (((HL.out.sub _ (nth_mem hlt)).on HBr.out).on hv) (((HL'.out.sub _ (nth_mem hlt2)).on HBr.out).on hv)
      obtain ⟨k, ek⟩ : ∃ k, ks[i] = k := ⟨_, rfl⟩
      obtain ⟨k', ek'⟩ : ∃ k, ks'[i] = k := ⟨_, rfl⟩
      have HTW : Hid (idB ks[i] ks'[i] = idB k k') := by show _ = _; rw [ek, ek']
      rw [ek] at hk1 cI
      rw [ek'] at hk2 cI
      have HK1 := hk1.hid
      have HK2 := hk2.hid
      have cI : ∀ v, Below wr.heap.size wr v → Calls Tryz.prog 29 #[.agg #[.int .u8 k.h.k, .int .u8 k.h.o, .int .u8 k.h.t, .int .i64 k.h.n, .int .u8 k.h.f, .string k.h.x, .slice k.a k.ks.length k.c, .int .i64 k.h.p], .agg #[.int .u8 k'.h.k, .int .u8 k'.h.o, .int .u8 k'.h.t, .int .i64 k'.h.n, .int .u8 k'.h.f, .string k'.h.x, .slice k'.a k'.ks.length k'.c, .int .i64 k'.h.p]] v (Smd k k' v) := cI
      rw [e1'] at c6 HQ0
      rw [e2'] at d6 HQ1
      have HKP : Hid (∀ v, GB wr v → v.cell? ⟨w.heap.size, 6, none⟩ = some (.slice (some ⟨b, o, none⟩) ks.length c) ∧ v.cell? ⟨w.heap.size + 1, 6, none⟩ = some (.slice (some ⟨b', o', none⟩) ks.length c') ∧ v.cell? ⟨b, o + i * 8, none⟩ = some (.int .u8 k.h.k) ∧ v.cell? ⟨b, o + i * 8 + 1, none⟩ = some (.int .u8 k.h.o) ∧ v.cell? ⟨b, o + i * 8 + 2, none⟩ = some (.int .u8 k.h.t) ∧ v.cell? ⟨b, o + i * 8 + 3, none⟩ = some (.int .i64 k.h.n) ∧ v.cell? ⟨b, o + i * 8 + 4, none⟩ = some (.int .u8 k.h.f) ∧ v.cell? ⟨b, o + i * 8 + 5, none⟩ = some (.string k.h.x) ∧ v.cell? ⟨b, o + i * 8 + 6, none⟩ = some (.slice k.a k.ks.length k.c) ∧ v.cell? ⟨b, o + i * 8 + 7, none⟩ = some (.int .i64 k.h.p) ∧ v.cell? ⟨b', o' + i * 8, none⟩ = some (.int .u8 k'.h.k) ∧ v.cell? ⟨b', o' + i * 8 + 1, none⟩ = some (.int .u8 k'.h.o) ∧ v.cell? ⟨b', o' + i * 8 + 2, none⟩ = some (.int .u8 k'.h.t) ∧ v.cell? ⟨b', o' + i * 8 + 3, none⟩ = some (.int .i64 k'.h.n) ∧ v.cell? ⟨b', o' + i * 8 + 4, none⟩ = some (.int .u8 k'.h.f) ∧ v.cell? ⟨b', o' + i * 8 + 5, none⟩ = some (.string k'.h.x) ∧ v.cell? ⟨b', o' + i * 8 + 6, none⟩ = some (.slice k'.a k'.ks.length k'.c) ∧ v.cell? ⟨b', o' + i * 8 + 7, none⟩ = some (.int .i64 k'.h.p) ∧ GB wr v) := fun v hv => by
        have hk1' := HK1.out.on hv
        have hk2' := HK2.out.on hv
        exact ⟨cell_of ((hv.block _ (Array.getElem?_eq_some_iff.1 HQ0.out).1).trans HQ0.out) 6, cell_of ((hv.block _ (Array.getElem?_eq_some_iff.1 HQ1.out).1).trans HQ1.out) 6, hk1'.c0, hk1'.c1, hk1'.c2, hk1'.c3, hk1'.c4, hk1'.c5, hk1'.c6, hk1'.c7, hk2'.c0, hk2'.c1, hk2'.c2, hk2'.c3, hk2'.c4, hk2'.c5, hk2'.c6, hk2'.c7, hv⟩
      have hmx : (i : Int) + 1 ≤ 9223372036854775807 := by
        have h1 := HL.out.max
        have h2 := HL.out.cap
        simp only [Nd.ks, Nd.c] at h1 h2
        omega
      clear ek ek' e1 e2 e1' e2' hat hat' hk1 hk2
      go_upto_region 6 with fail
      go_region_held3 (fun v => v.cell? ⟨w.heap.size, 6, none⟩ = some (.slice (some ⟨b, o, none⟩) ks.length c) ∧ v.cell? ⟨w.heap.size + 1, 6, none⟩ = some (.slice (some ⟨b', o', none⟩) ks.length c') ∧ v.cell? ⟨b, o + i * 8, none⟩ = some (.int .u8 k.h.k) ∧ v.cell? ⟨b, o + i * 8 + 1, none⟩ = some (.int .u8 k.h.o) ∧ v.cell? ⟨b, o + i * 8 + 2, none⟩ = some (.int .u8 k.h.t) ∧ v.cell? ⟨b, o + i * 8 + 3, none⟩ = some (.int .i64 k.h.n) ∧ v.cell? ⟨b, o + i * 8 + 4, none⟩ = some (.int .u8 k.h.f) ∧ v.cell? ⟨b, o + i * 8 + 5, none⟩ = some (.string k.h.x) ∧ v.cell? ⟨b, o + i * 8 + 6, none⟩ = some (.slice k.a k.ks.length k.c) ∧ v.cell? ⟨b, o + i * 8 + 7, none⟩ = some (.int .i64 k.h.p) ∧ v.cell? ⟨b', o' + i * 8, none⟩ = some (.int .u8 k'.h.k) ∧ v.cell? ⟨b', o' + i * 8 + 1, none⟩ = some (.int .u8 k'.h.o) ∧ v.cell? ⟨b', o' + i * 8 + 2, none⟩ = some (.int .u8 k'.h.t) ∧ v.cell? ⟨b', o' + i * 8 + 3, none⟩ = some (.int .i64 k'.h.n) ∧ v.cell? ⟨b', o' + i * 8 + 4, none⟩ = some (.int .u8 k'.h.f) ∧ v.cell? ⟨b', o' + i * 8 + 5, none⟩ = some (.string k'.h.x) ∧ v.cell? ⟨b', o' + i * 8 + 6, none⟩ = some (.slice k'.a k'.ks.length k'.c) ∧ v.cell? ⟨b', o' + i * 8 + 7, none⟩ = some (.int .i64 k'.h.p) ∧ GB wr v)
        (exact HKP.out _ (by (repeat (first | with_reducible assumption | with_reducible exact GB.refl _ | with_reducible apply GB.drew | with_reducible apply GB.alloc | with_reducible refine GB.call (by with_reducible assumption) ?_))))
        (first | (go_at_call 29; refine (cI _ ((Below.refl _ _).drew)).mono ?_; rintro e w6 ⟨rfl, hb6⟩))
      all_goals (
        have HB6 : Hid (Below W0.heap.size W0 w6) := below2 HR.out (below2 (Below.refl _ _).drew hb6)
        clear hb6
        obtain ⟨r6, er⟩ : ∃ r, idB k k' = r := ⟨_, rfl⟩
        rw [er]
        have HT6 : Hid (idB ks[i] ks'[i] = r6) := HTW.out.trans er
        clear er
        cases r6 with
        | true =>
          go_wp2_with fail
          exact ⟨⟨i + 1, hlt, rfl, HB6, fun j h1 h2 hj => by
            by_cases e : j = i
            · subst e; exact HT6.out
            · exact HJ.out j h1 h2 (by omega)⟩, by simp only [intOf]; omega⟩
        | false =>
          go_wp2_with fail
          go_ret
          exact ⟨by show Ending.returned (.bool false) = .returned (.bool (idB _ _)); rw [id_same HE.out, idsB_false ks ks' i hlt hlt2 HT6.out], below2 HB.out HB6.out⟩)
    · obtain rfl : i = ks.length := by omega
      have hnot : ¬ (ks.length : Int) < (ks.length : Int) := by omega
      go_wp2_with fail
      go_ret
      exact ⟨by show Ending.returned (.bool true) = .returned (.bool (idB _ _)); rw [id_same HE.out, idsB_true ks ks' fun j h1 h2 => HJ.out j h1 h2 h1], HBr.out⟩
end Go.Proofs.YtighocmdlifheaaGreatDoor

/-
  What an expression is, wherever it lies.
-/
namespace Go.Proofs.YtighocmdlifheaaGreatDoor
open Go.RowKit
inductive Tr where
  | mk (h : Hd) (ks : List Tr)
mutual
def treeOf : Nd → Tr
  | .mk h _ _ ks => .mk h (treesOf ks)
def treesOf : List Nd → List Tr
  | [] => []
  | k :: ks => treeOf k :: treesOf ks
end
theorem trees_len : ∀ l : List Nd, (treesOf l).length = l.length
  | [] => rfl
  | k :: l => by simp only [treesOf, List.length_cons, trees_len l]
theorem trees_at : ∀ {l l' : List Nd}, treesOf l = treesOf l' → ∀ i (h1 : i < l.length) (h2 : i < l'.length), treeOf l[i] = treeOf l'[i]
  | [], _, _, i, h1, _ => absurd h1 (Nat.not_lt_zero _)
  | _ :: _, [], h, _, _, h2 => absurd h2 (Nat.not_lt_zero _)
  | k :: l, k' :: l', h, 0, _, _ => by simp only [treesOf] at h; injection h
  | k :: l, k' :: l', h, i + 1, h1, h2 => by
    simp only [treesOf] at h
    injection h with _ h
    exact trees_at h i (by simpa using h1) (by simpa using h2)
theorem tree_id : ∀ (m k : Nd), treeOf m = treeOf k → idB m k = true := by
  refine Nd.ind fun h a c ks ih k t => ?_
  cases k with
  | mk g a' c' ks' =>
    rw [treeOf, treeOf] at t
    injection t with t1 t2
    subst t1
    have hl : ks.length = ks'.length := by
      have := congrArg List.length t2
      rwa [trees_len, trees_len] at this
    simp only [idB, Nd.h, Nd.ks, alikeS, hl, decide_true, Bool.true_and]
    exact idsB_true ks ks' fun i h1 h2 => ih _ (nth_mem h1) _ (trees_at t2 i h1 h2)
end Go.Proofs.YtighocmdlifheaaGreatDoor
