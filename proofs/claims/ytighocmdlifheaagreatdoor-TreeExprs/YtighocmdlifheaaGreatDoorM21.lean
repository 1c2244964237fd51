import Derived.Test.YtighocmdlifheaaGreatDoorM10
import Derived.Test.YtighocmdlifheaaGreatDoorM20
import Derived.Test.YtighocmdlifheaaGreatDoorM11
import Derived.Test.YtighocmdlifheaaGreatDoorM9
import Derived.Test.YtighocmdlifheaaGreatDoorM1
/-
  The document's LikeNode of any two expressions.
-/
namespace Go.Proofs.YtighocmdlifheaaGreatDoor
open Go.RowKit
theorem samesB_false : ∀ (js ks : List Nd) (i : Nat) (h1 : i < js.length) (h2 : i < ks.length), sameB js[i] ks[i] = false → samesB js ks = false := by
  intro js
  induction js with
  | nil => intro ks i h1; simp at h1
  | cons j js ih =>
    intro ks i h1 h2 h
    cases ks with
    | nil => simp at h2
    | cons k ks =>
      simp only [samesB]
      cases i with
      | zero => simp at h; rw [h]; rfl
      | succ i =>
        rw [ih ks i (by simpa using h1) (by simpa using h2) (by simpa using h)]
        simp
theorem samesB_true : ∀ (js ks : List Nd), (∀ i (h1 : i < js.length) (h2 : i < ks.length), sameB js[i] ks[i] = true) → samesB js ks = true := by
  intro js
  induction js with
  | nil => intro ks _; cases ks <;> rfl
  | cons j js ih =>
    intro ks h
    cases ks with
    | nil => rfl
    | cons k ks =>
      simp only [samesB, Bool.and_eq_true]
      exact ⟨h 0 (by simp) (by simp), ih ks fun i h1 h2 => h (i + 1) (by simpa using h1) (by simpa using h2)⟩
theorem alike_all {g h : Hd} (e : alike g h = true) : g.k = h.k ∧ g.o = h.o ∧ g.t = h.t ∧ g.n = h.n ∧ g.f = h.f ∧ g.x = h.x := by
  simp only [alike, Bool.and_eq_true, decide_eq_true_eq] at e
  exact e
theorem alike_k {g h : Hd} (e : alike g h = true) : g.k = h.k := (alike_all e).1
theorem alike_o {g h : Hd} (e : alike g h = true) : g.o = h.o := (alike_all e).2.1
theorem alike_t {g h : Hd} (e : alike g h = true) : g.t = h.t := (alike_all e).2.2.1
theorem alike_n {g h : Hd} (e : alike g h = true) : g.n = h.n := (alike_all e).2.2.2.1
theorem alike_f {g h : Hd} (e : alike g h = true) : g.f = h.f := (alike_all e).2.2.2.2.1
theorem alike_x {g h : Hd} (e : alike g h = true) : g.x = h.x := (alike_all e).2.2.2.2.2
theorem sk_head {h g : Hd} {a a' : Option Addr} {c c' : Nat} {ks ks' : List Nd} (n : alike h g = true ∧ ks.length = ks'.length → False) : sameB (.mk h a c ks) (.mk g a' c' ks') = false := by
  cases hb : sameB (.mk h a c ks) (.mk g a' c' ks') with
  | false => rfl
  | true =>
    exfalso
    simp only [sameB, Nd.h, Nd.ks, Bool.and_eq_true] at hb
    exact n ⟨hb.1, of_decide_eq_true hb.2.1⟩
theorem sk_same {h g : Hd} {a a' : Option Addr} {c c' : Nat} {ks ks' : List Nd} (ha : alike h g = true) (hl : ks'.length = ks.length) : sameB (.mk h a c ks) (.mk g a' c' ks') = samesB ks ks' := by
  simp [sameB, Nd.h, Nd.ks, ha, hl]
/-- What LikeNode hands back. -/
def Lkd (m k : Nd) (w : World) (e : Ending) (w' : World) : Prop := e = .returned (.bool (sameB m k)) ∧ Below w.heap.size w w'
set_option maxRecDepth 100000 in
set_option maxHeartbeats 16000000 in
theorem like_any : ∀ (m k : Nd) (w : World), Lies w m → Lies w k → Calls Tryz.prog 28 #[.agg m.vals, .agg k.vals] w (Lkd m k w) := by
  refine Nd.ind fun h a c ks ih k w hl hl' => ?_
  cases k with
  | mk g a' c' ks' =>
  have HI : Hid (∀ j (h1 : j < ks.length) (h2 : j < ks'.length) (w : World), Lies w ks[j] → Lies w ks'[j] → Calls Tryz.prog 28 #[.agg ks[j].vals, .agg ks'[j].vals] w (Lkd ks[j] ks'[j] w)) := fun j h1 h2 v hv hv' => ih _ (nth_mem h1) _ v hv hv'
  have HL := hl.hid
  have HL' := hl'.hid
  show Calls Tryz.prog 28 #[.agg #[.int .u8 h.k, .int .u8 h.o, .int .u8 h.t, .int .i64 h.n, .int .u8 h.f, .string h.x, .slice a ks.length c, .int .i64 h.p], .agg #[.int .u8 g.k, .int .u8 g.o, .int .u8 g.t, .int .i64 g.n, .int .u8 g.f, .string g.x, .slice a' ks'.length c', .int .i64 g.p]] w _
  clear ih hl hl'
  by_cases n1 : ¬ h.k = g.k
  · have HN : Hid (¬ h.k = g.k) := n1
    go_enter Tryz.func28, Tryz.ntmps28
    go_wp2_with fail
    go_ret
    exact ⟨by show Ending.returned (.bool false) = .returned (.bool (sameB _ _)); rw [sk_head fun t => HN.out (alike_k t.1)], below_two _ _ _⟩
  have e1 : h.k = g.k := Classical.not_not.1 n1
  clear n1
  by_cases n2 : ¬ h.o = g.o
  · have HN : Hid (¬ h.o = g.o) := n2
    go_enter Tryz.func28, Tryz.ntmps28
    go_wp2_with fail
    go_ret
    exact ⟨by show Ending.returned (.bool false) = .returned (.bool (sameB _ _)); rw [sk_head fun t => HN.out (alike_o t.1)], below_two _ _ _⟩
  have e2 : h.o = g.o := Classical.not_not.1 n2
  clear n2
  by_cases n3 : ¬ h.t = g.t
  · have HN : Hid (¬ h.t = g.t) := n3
    go_enter Tryz.func28, Tryz.ntmps28
    go_wp2_with fail
    go_ret
    exact ⟨by show Ending.returned (.bool false) = .returned (.bool (sameB _ _)); rw [sk_head fun t => HN.out (alike_t t.1)], below_two _ _ _⟩
  have e3 : h.t = g.t := Classical.not_not.1 n3
  clear n3
  by_cases n4 : ¬ h.n = g.n
  · have HN : Hid (¬ h.n = g.n) := n4
    go_enter Tryz.func28, Tryz.ntmps28
    go_wp2_with fail
    go_ret
    exact ⟨by show Ending.returned (.bool false) = .returned (.bool (sameB _ _)); rw [sk_head fun t => HN.out (alike_n t.1)], below_two _ _ _⟩
  have e4 : h.n = g.n := Classical.not_not.1 n4
  clear n4
  by_cases n5 : ¬ h.f = g.f
  · have HN : Hid (¬ h.f = g.f) := n5
    go_enter Tryz.func28, Tryz.ntmps28
    go_wp2_with fail
    go_ret
    exact ⟨by show Ending.returned (.bool false) = .returned (.bool (sameB _ _)); rw [sk_head fun t => HN.out (alike_f t.1)], below_two _ _ _⟩
  have e5 : h.f = g.f := Classical.not_not.1 n5
  clear n5
  by_cases n6 : ¬ h.x = g.x
  · have s6 := str_ne n6
    have HN : Hid (¬ h.x = g.x) := n6
    go_enter Tryz.func28, Tryz.ntmps28
    go_wp2_with fail
    go_ret
    exact ⟨by show Ending.returned (.bool false) = .returned (.bool (sameB _ _)); rw [sk_head fun t => HN.out (alike_x t.1)], below_two _ _ _⟩
  have e6 : h.x = g.x := Classical.not_not.1 n6
  clear n6
  by_cases n7x : ¬ ks.length = ks'.length
  · have n7 : ¬ (ks.length : Int) = (ks'.length : Int) := by omega
    have HN : Hid (¬ ks.length = ks'.length) := n7x
    go_enter Tryz.func28, Tryz.ntmps28
    go_wp2_with fail
    go_ret
    exact ⟨by show Ending.returned (.bool false) = .returned (.bool (sameB _ _)); rw [sk_head fun t => HN.out t.2], below_two _ _ _⟩
  have e7 : ks.length = ks'.length := Classical.not_not.1 n7x
  clear n7x
  have HA : Hid (alike h g = true) := by show _ = _; simp [alike, e1, e2, e3, e4, e5, e6]
  rw [← e1, ← e2, ← e3, ← e4, ← e5, ← e6]
  clear e1 e2 e3 e4 e5 e6
  have HE : Hid (ks'.length = ks.length) := e7.symm
  rw [← e7]
  clear e7
  go_enter Tryz.func28, Tryz.ntmps28
  go_wp2_with fail
  obtain ⟨W0, eW0⟩ : ∃ W0, (w.alloc (.cells #[.int .u8 h.k, .int .u8 h.o, .int .u8 h.t, .int .i64 h.n, .int .u8 h.f, .string h.x, .slice a ks.length c, .int .i64 h.p] 55)).alloc (.cells #[.int .u8 h.k, .int .u8 h.o, .int .u8 h.t, .int .i64 h.n, .int .u8 h.f, .string h.x, .slice a' ks.length c', .int .i64 g.p] 55) = W0 := ⟨_, rfl⟩
  have HB : Hid (Below w.heap.size w W0) := by rw [← eW0]; exact below_two _ _ _
  have HN0 : Hid (W0.heap[w.heap.size]? = some (.cells #[.int .u8 h.k, .int .u8 h.o, .int .u8 h.t, .int .i64 h.n, .int .u8 h.f, .string h.x, .slice a ks.length c, .int .i64 h.p] 55 (0, 0))) := by rw [← eW0]; exact heap_old (heap_new _ _) (by rw [size_alloc]; omega)
  have HN1 : Hid (W0.heap[w.heap.size + 1]? = some (.cells #[.int .u8 h.k, .int .u8 h.o, .int .u8 h.t, .int .i64 h.n, .int .u8 h.f, .string h.x, .slice a' ks.length c', .int .i64 g.p] 55 (0, 0))) := by rw [← eW0, ← size_alloc w (.cells #[.int .u8 h.k, .int .u8 h.o, .int .u8 h.t, .int .i64 h.n, .int .u8 h.f, .string h.x, .slice a ks.length c, .int .i64 h.p] 55)]; exact heap_new _ _
  rw [eW0]
  clear eW0
  go_loopw [5, 6] (fun t _ wr => ∃ i : Nat, i ≤ ks.length ∧ t = .int .i64 i ∧ Hid (Below W0.heap.size W0 wr) ∧ Hid (∀ j (h1 : j < ks.length) (h2 : j < ks'.length), j < i → sameB ks[j] ks'[j] = true)) (fun t _ _ => ks.length - (intOf t).toNat)
  case atStart => exact ⟨0, by omega, rfl, Below.refl _ _, fun j _ _ hj => by omega⟩
  case round =>
    obtain ⟨i, hi, rfl, HR, HJ⟩ := hrel
    have q0 : wr.heap[w.heap.size]? = some (.cells #[.int .u8 h.k, .int .u8 h.o, .int .u8 h.t, .int .i64 h.n, .int .u8 h.f, .string h.x, .slice a ks.length c, .int .i64 h.p] 55 (0, 0)) := (HR.out.block _ (Array.getElem?_eq_some_iff.1 HN0.out).1).trans HN0.out
    have q1 : wr.heap[w.heap.size + 1]? = some (.cells #[.int .u8 h.k, .int .u8 h.o, .int .u8 h.t, .int .i64 h.n, .int .u8 h.f, .string h.x, .slice a' ks.length c', .int .i64 g.p] 55 (0, 0)) := (HR.out.block _ (Array.getElem?_eq_some_iff.1 HN1.out).1).trans HN1.out
    have HQ0 : Hid (wr.heap[w.heap.size]? = some (.cells #[.int .u8 h.k, .int .u8 h.o, .int .u8 h.t, .int .i64 h.n, .int .u8 h.f, .string h.x, .slice a ks.length c, .int .i64 h.p] 55 (0, 0))) := q0
    have HQ1 : Hid (wr.heap[w.heap.size + 1]? = some (.cells #[.int .u8 h.k, .int .u8 h.o, .int .u8 h.t, .int .i64 h.n, .int .u8 h.f, .string h.x, .slice a' ks.length c', .int .i64 g.p] 55 (0, 0))) := q1
    have c6 : wr.cell? ⟨w.heap.size, 6, none⟩ = some (.slice a ks.length c) := cell_of q0 6
    have d6 : wr.cell? ⟨w.heap.size + 1, 6, none⟩ = some (.slice a' ks.length c') := cell_of q1 6
    clear q0 q1
    have HBr : Hid (Below w.heap.size w wr) := below2 HB.out HR.out
    by_cases hlt : i < ks.length
    · have hlt' : (i : Int) < (ks.length : Int) := by omega
      have hlt2 : i < ks'.length := by have := HE.out; omega
      obtain ⟨b, o, e1, hat⟩ := (HL.out.on HBr.out).kid i hlt
      have e1' : a = some ⟨b, o, none⟩ := e1
      have hk1 : NdAt wr b (o + i * 8) ks[i] := hat
      obtain ⟨b', o', e2, hat'⟩ := (HL'.out.on HBr.out).kid i hlt2
      have e2' : a' = some ⟨b', o', none⟩ := e2
      have hk2 : NdAt wr b' (o' + i * 8) ks'[i] := hat'
      have cI := fun v (hv : Below wr.heap.size wr v) => HI.out i hlt hlt2 v (((HL.out.sub _ (nth_mem hlt)).on HBr.out).on hv) (((HL'.out.sub _ (nth_mem hlt2)).on HBr.out).on hv)
      obtain ⟨k, ek⟩ : ∃ k, ks[i] = k := ⟨_, rfl⟩
      obtain ⟨k', ek'⟩ : ∃ k, ks'[i] = k := ⟨_, rfl⟩
      have HTW : Hid (sameB ks[i] ks'[i] = sameB k k') := by show _ = _; rw [ek, ek']
      rw [ek] at hk1 cI
      rw [ek'] at hk2 cI
      have HK1 := hk1.hid
      have HK2 := hk2.hid
      have cI : ∀ v, Below wr.heap.size wr v → Calls Tryz.prog 28 #[.agg #[.int .u8 k.h.k, .int .u8 k.h.o, .int .u8 k.h.t, .int .i64 k.h.n, .int .u8 k.h.f, .string k.h.x, .slice k.a k.ks.length k.c, .int .i64 k.h.p], .agg #[.int .u8 k'.h.k, .int .u8 k'.h.o, .int .u8 k'.h.t, .int .i64 k'.h.n, .int .u8 k'.h.f, .string k'.h.x, .slice k'.a k'.ks.length k'.c, .int .i64 k'.h.p]] v (Lkd k k' v) := cI
      rw [e1'] at c6 HQ0
      rw [e2'] at d6 HQ1
      have HKP : Hid (∀ v, GB wr v → v.cell? ⟨w.heap.size, 6, none⟩ = some (.slice (some ⟨b, o, none⟩) ks.length c) ∧ v.cell? ⟨w.heap.size + 1, 6, none⟩ = some (.slice (some ⟨b', o', none⟩) ks.length c') ∧ v.cell? ⟨b, o + i * 8, none⟩ = some (.int .u8 k.h.k) ∧ v.cell? ⟨b, o + i * 8 + 1, none⟩ = some (.int .u8 k.h.o) ∧ v.cell? ⟨b, o + i * 8 + 2, none⟩ = some (.int .u8 k.h.t) ∧ v.cell? ⟨b, o + i * 8 + 3, none⟩ = some (.int .i64 k.h.n) ∧ v.cell? ⟨b, o + i * 8 + 4, none⟩ = some (.int .u8 k.h.f) ∧ v.cell? ⟨b, o + i * 8 + 5, none⟩ = some (.string k.h.x) ∧ v.cell? ⟨b, o + i * 8 + 6, none⟩ = some (.slice k.a k.ks.length k.c) ∧ v.cell? ⟨b, o + i * 8 + 7, none⟩ = some (.int .i64 k.h.p) ∧ v.cell? ⟨b', o' + i * 8, none⟩ = some (.int .u8 k'.h.k) ∧ v.cell? ⟨b', o' + i * 8 + 1, none⟩ = some (.int .u8 k'.h.o) ∧ v.cell? ⟨b', o' + i * 8 + 2, none⟩ = some (.int .u8 k'.h.t) ∧ v.cell? ⟨b', o' + i * 8 + 3, none⟩ = some (.int .i64 k'.h.n) ∧ v.cell? ⟨b', o' + i * 8 + 4, none⟩ = some (.int .u8 k'.h.f) ∧ v.cell? ⟨b', o' + i * 8 + 5, none⟩ = some (.string k'.h.x) ∧ v.cell? ⟨b', o' + i * 8 + 6, none⟩ = some (.slice k'.a k'.ks.length k'.c) ∧ v.cell? ⟨b', o' + i * 8 + 7, none⟩ = some (.int .i64 k'.h.p) ∧ GB wr v) := fun v hv => by
        have hk1' := HK1.out.on hv
        have hk2' := HK2.out.on hv
        exact ⟨cell_of ((hv.block _ (Array.getElem?_eq_some_iff.1 HQ0.out).1).trans HQ0.out) 6, cell_of ((hv.block _ (Array.getElem?_eq_some_iff.1 HQ1.out).1).trans HQ1.out) 6, hk1'.c0, hk1'.c1, hk1'.c2, hk1'.c3, hk1'.c4, hk1'.c5, hk1'.c6, hk1'.c7, hk2'.c0, hk2'.c1, hk2'.c2, hk2'.c3, hk2'.c4, hk2'.c5, hk2'.c6, hk2'.c7, hv⟩
      have hmx : (i : Int) + 1 ≤ 9223372036854775807 := by
        have h1 := HL.out.max
        have h2 := HL.out.cap
        simp only [Nd.ks, Nd.c] at h1 h2
        omega
      clear ek ek' e1 e2 e1' e2' hat hat' hk1 hk2
      go_upto_region 6 with fail
      go_region_held3 (fun v => v.cell? ⟨w.heap.size, 6, none⟩ = some (.slice (some ⟨b, o, none⟩) ks.length c) ∧ v.cell? ⟨w.heap.size + 1, 6, none⟩ = some (.slice (some ⟨b', o', none⟩) ks.length c') ∧ v.cell? ⟨b, o + i * 8, none⟩ = some (.int .u8 k.h.k) ∧ v.cell? ⟨b, o + i * 8 + 1, none⟩ = some (.int .u8 k.h.o) ∧ v.cell? ⟨b, o + i * 8 + 2, none⟩ = some (.int .u8 k.h.t) ∧ v.cell? ⟨b, o + i * 8 + 3, none⟩ = some (.int .i64 k.h.n) ∧ v.cell? ⟨b, o + i * 8 + 4, none⟩ = some (.int .u8 k.h.f) ∧ v.cell? ⟨b, o + i * 8 + 5, none⟩ = some (.string k.h.x) ∧ v.cell? ⟨b, o + i * 8 + 6, none⟩ = some (.slice k.a k.ks.length k.c) ∧ v.cell? ⟨b, o + i * 8 + 7, none⟩ = some (.int .i64 k.h.p) ∧ v.cell? ⟨b', o' + i * 8, none⟩ = some (.int .u8 k'.h.k) ∧ v.cell? ⟨b', o' + i * 8 + 1, none⟩ = some (.int .u8 k'.h.o) ∧ v.cell? ⟨b', o' + i * 8 + 2, none⟩ = some (.int .u8 k'.h.t) ∧ v.cell? ⟨b', o' + i * 8 + 3, none⟩ = some (.int .i64 k'.h.n) ∧ v.cell? ⟨b', o' + i * 8 + 4, none⟩ = some (.int .u8 k'.h.f) ∧ v.cell? ⟨b', o' + i * 8 + 5, none⟩ = some (.string k'.h.x) ∧ v.cell? ⟨b', o' + i * 8 + 6, none⟩ = some (.slice k'.a k'.ks.length k'.c) ∧ v.cell? ⟨b', o' + i * 8 + 7, none⟩ = some (.int .i64 k'.h.p) ∧ GB wr v)
        (exact HKP.out _ (by (repeat (first | with_reducible assumption | with_reducible exact GB.refl _ | with_reducible apply GB.drew | with_reducible apply GB.alloc | with_reducible refine GB.call (by with_reducible assumption) ?_))))
        (first | (go_at_call 28; refine (cI _ ((Below.refl _ _).drew)).mono ?_; rintro e w6 ⟨rfl, hb6⟩))
      all_goals (
        have HB6 : Hid (Below W0.heap.size W0 w6) := below2 HR.out (below2 (Below.refl _ _).drew hb6)
        clear hb6
        obtain ⟨r6, er⟩ : ∃ r, sameB k k' = r := ⟨_, rfl⟩
        rw [er]
        have HT6 : Hid (sameB ks[i] ks'[i] = r6) := HTW.out.trans er
        clear er
        cases r6 with
        | true =>
          go_wp2_with fail
          exact ⟨⟨i + 1, hlt, rfl, HB6, fun j h1 h2 hj => by
            by_cases e : j = i
            · subst e; exact HT6.out
            · exact HJ.out j h1 h2 (by omega)⟩, by simp only [intOf]; omega⟩
        | false =>
          go_wp2_with fail
          go_ret
          exact ⟨by show Ending.returned (.bool false) = .returned (.bool (sameB _ _)); rw [sk_same HA.out HE.out, samesB_false ks ks' i hlt hlt2 HT6.out], below2 HB.out HB6.out⟩)
    · obtain rfl : i = ks.length := by omega
      have hnot : ¬ (ks.length : Int) < (ks.length : Int) := by omega
      go_wp2_with fail
      go_ret
      exact ⟨by show Ending.returned (.bool true) = .returned (.bool (sameB _ _)); rw [sk_same HA.out HE.out, samesB_true ks ks' fun j h1 h2 => HJ.out j h1 h2 h1], HBr.out⟩
end Go.Proofs.YtighocmdlifheaaGreatDoor

/-
  What was lent is as it was: roomNode, WholeNode.
-/
namespace Go.Proofs.YtighocmdlifheaaGreatDoor
open Go.RowKit
set_option linter.unusedVariables false
set_option linter.unusedSimpArgs false
set_option maxRecDepth 100000 in
set_option maxHeartbeats 8000000 in
theorem room_any : ∀ (m : Nd) (w : World) (lo : Nat), Lnt w lo m → Calls Tryz.prog 55 #[.agg m.vals] w fun e w' => e = .returned (.bool true) ∧ Below w.heap.size w w' := by
  refine Nd.ind fun h a c ks ih w lo hl => ?_
  cases hl with
  | mk _ b _ _ hr hc hm hb m0 m1 hk hs =>
  have HI : Hid (∀ k ∈ ks, ∀ (w : World), Lnt w lo k → Calls Tryz.prog 55 #[.agg k.vals] w fun e w' => e = .returned (.bool true) ∧ Below w.heap.size w w') := fun k hk v hv => ih k hk v lo hv
  have hb1 := below_new w (.cells #[.int .u8 h.k, .int .u8 h.o, .int .u8 h.t, .int .i64 h.n, .int .u8 h.f, .string h.x, .slice (some ⟨b, 0, none⟩) ks.length c, .int .i64 h.p] 55)
  have hn1 := heap_new w (.cells #[.int .u8 h.k, .int .u8 h.o, .int .u8 h.t, .int .i64 h.n, .int .u8 h.f, .string h.x, .slice (some ⟨b, 0, none⟩) ks.length c, .int .i64 h.p] 55)
  obtain ⟨W1, e1⟩ : ∃ W, w.alloc (.cells #[.int .u8 h.k, .int .u8 h.o, .int .u8 h.t, .int .i64 h.n, .int .u8 h.f, .string h.x, .slice (some ⟨b, 0, none⟩) ks.length c, .int .i64 h.p] 55) = W := ⟨_, rfl⟩
  have E1 : Hid (w.alloc (.cells #[.int .u8 h.k, .int .u8 h.o, .int .u8 h.t, .int .i64 h.n, .int .u8 h.f, .string h.x, .slice (some ⟨b, 0, none⟩) ks.length c, .int .i64 h.p] 55) = W1) := e1
  rw [e1] at hb1 hn1
  have HB1 : Hid (Below w.heap.size w W1) := hb1
  have HN1 : Hid (W1.heap[w.heap.size]? = some (.cells #[.int .u8 h.k, .int .u8 h.o, .int .u8 h.t, .int .i64 h.n, .int .u8 h.f, .string h.x, .slice (some ⟨b, 0, none⟩) ks.length c, .int .i64 h.p] 55 (0, 0))) := hn1
  have HKS : Hid (∀ i (hi : i < ks.length), NdAt w b (i * 8) ks[i]) := hk
  have HSS : Hid (∀ k ∈ ks, Lnt w lo k) := hs
  have z0 : W1.cell? ⟨b, ks.length * 8 + 7, none⟩ = some (.int .i64 (-771)) := (World.cell?_of_block (hb1.block b (World.block_lt_of_cell? w _ m0))).trans m0
  have z1 : W1.cell? ⟨b, (ks.length + 1) * 8 + 7, none⟩ = some (.int .i64 (-772)) := (World.cell?_of_block (hb1.block b (World.block_lt_of_cell? w _ m0))).trans m1
  have q6 : W1.cell? ⟨w.heap.size, 6, none⟩ = some (.slice (some ⟨b, 0, none⟩) ks.length c) := cell_of hn1 6
  have k0 : (ks.length : Int) + 2 = (c : Int) := by omega
  have k1 : (ks.length : Int) < (c : Int) := by omega
  have k2 : (ks.length : Int) + 1 < (c : Int) := by omega
  have k3 : (ks.length : Int) + 2 ≤ 9223372036854775807 := by omega
  have k4 : (ks.length : Int) + 1 ≤ 9223372036854775807 := by omega
  have HMX : Hid (ks.length ≤ 1000000000000) := hm
  clear hb1 hn1 e1 ih hr hc hm hb m0 m1 hk hs
  show Calls Tryz.prog 55 #[.agg #[.int .u8 h.k, .int .u8 h.o, .int .u8 h.t, .int .i64 h.n, .int .u8 h.f, .string h.x, .slice (some ⟨b, 0, none⟩) ks.length c, .int .i64 h.p]] w _
  go_enter Tryz.func55, Tryz.ntmps55
  go_upto_region 1 with fail
  rw [E1.out]
  clear E1
  go_upto_region 5 with fail
  clear z0 z1 k0 k1 k2 k3 k4 q6
  go_wp2_with fail
  go_loopw [5, 6] (fun t _ wr => ∃ i : Nat, i ≤ ks.length ∧ t = .int .i64 i ∧ Hid (Below W1.heap.size W1 wr)) (fun t _ _ => ks.length - (intOf t).toNat)
  case atStart => exact ⟨0, by omega, rfl, Below.refl _ _⟩
  case round =>
    obtain ⟨i, hi, rfl, HBR⟩ := hrel
    have q6 : wr.cell? ⟨w.heap.size, 6, none⟩ = some (.slice (some ⟨b, 0, none⟩) ks.length c) := cell_of ((HBR.out.block _ (Array.getElem?_eq_some_iff.1 HN1.out).1).trans HN1.out) 6
    by_cases hlt : i < ks.length
    · have hlt' : (i : Int) < (ks.length : Int) := by omega
      have hmx : (i : Int) + 1 ≤ 9223372036854775807 := by have := HMX.out; omega
      have hat := (HKS.out i hlt).on (below2 HB1.out HBR.out)
      have hli := (HSS.out _ (nth_mem hlt)).on (below2 HB1.out HBR.out)
      have HMEM : Hid (ks[i] ∈ ks) := nth_mem hlt
      obtain ⟨k, ek⟩ : ∃ k, ks[i] = k := ⟨_, rfl⟩
      rw [ek] at hat hli HMEM
      have cI : Calls Tryz.prog 55 #[.agg #[.int .u8 k.h.k, .int .u8 k.h.o, .int .u8 k.h.t, .int .i64 k.h.n, .int .u8 k.h.f, .string k.h.x, .slice k.a k.ks.length k.c, .int .i64 k.h.p]] wr fun e w' => e = .returned (.bool true) ∧ Below wr.heap.size wr w' := HI.out k HMEM.out wr hli
      obtain ⟨y0, y1, y2, y3, y4, y5, y6, y7⟩ := hat
      clear ek hli
      go_wp2_with fail
      refine cI.mono ?_
      rintro e w5 ⟨rfl, hb5⟩
      have HB5 : Hid (Below W1.heap.size W1 w5) := below2 HBR.out hb5
      clear cI hb5 y0 y1 y2 y3 y4 y5 y6 y7 q6
      go_wp2_with fail
      exact ⟨⟨i + 1, hlt, rfl, HB5⟩, by simp only [intOf]; omega⟩
    · obtain rfl : i = ks.length := by omega
      have hnot : ¬ (ks.length : Int) < (ks.length : Int) := by omega
      go_wp2_with fail
      go_ret
      exact ⟨rfl, below2 HB1.out HBR.out⟩
set_option maxRecDepth 100000 in
set_option maxHeartbeats 8000000 in
theorem whole_any (m k : Nd) (w : World) (lo : Nat) (hl : Lnt w lo m) (hk : Lies w k) (ht : treeOf m = treeOf k) : Calls Tryz.prog 26 #[.agg m.vals, .agg k.vals] w fun e w' => e = .returned (.bool true) ∧ Below w.heap.size w w' := by
  obtain ⟨hn1, hn2⟩ := below2of w m k
  have hb := below_two w (.cells m.vals 55) (.cells k.vals 55)
  obtain ⟨W1, e1⟩ : ∃ W, (w.alloc (.cells m.vals 55)).alloc (.cells k.vals 55) = W := ⟨_, rfl⟩
  have E1 : Hid ((w.alloc (.cells m.vals 55)).alloc (.cells k.vals 55) = W1) := e1
  rw [e1] at hn1 hn2 hb
  have HN1 : Hid (W1.heap[w.heap.size]? = some (.cells m.vals 55 (0, 0))) := hn1
  have HN2 : Hid (W1.heap[w.heap.size + 1]? = some (.cells k.vals 55 (0, 0))) := hn2
  have HB : Hid (Below w.heap.size w W1) := hb
  have HLM : Hid (Lnt W1 lo m) := hl.on hb
  have cS := some_any m k W1 (hl.on hb).lies (hk.on hb)
  have hid : idB m k = true := tree_id m k ht
  clear e1 hn1 hn2 hb hl hk
  go_enter Tryz.func26, Tryz.ntmps26
  go_upto_region 1 with fail
  rw [E1.out]
  clear E1
  go_wp2_with (first | (refine wpList_load_row rfl 55 (.tmp 2) rfl w.heap.size rfl 55 m.vals (0, 0) _ HN1.out Tryz.underlying55 rfl sizeN ?_) | (refine wpList_load_row rfl 55 (.tmp 3) rfl (w.heap.size + 1) rfl 55 k.vals (0, 0) _ HN2.out Tryz.underlying55 rfl sizeN ?_))
  refine cS.mono ?_
  rintro e w2 ⟨rfl, hb2⟩
  rw [hid]
  have HB2 : Hid (Below w.heap.size w w2) := below2 HB.out hb2
  have HN3 : Hid (w2.heap[w.heap.size]? = some (.cells m.vals 55 (0, 0))) := (hb2.block _ (Array.getElem?_eq_some_iff.1 HN1.out).1).trans HN1.out
  have c0 : w2.cell? ⟨w.heap.size, 0, none⟩ = some (.int .u8 m.h.k) := cell_of HN3.out 0
  have c1 : w2.cell? ⟨w.heap.size, 1, none⟩ = some (.int .u8 m.h.o) := cell_of HN3.out 1
  have c2 : w2.cell? ⟨w.heap.size, 2, none⟩ = some (.int .u8 m.h.t) := cell_of HN3.out 2
  have c3 : w2.cell? ⟨w.heap.size, 3, none⟩ = some (.int .i64 m.h.n) := cell_of HN3.out 3
  have c4 : w2.cell? ⟨w.heap.size, 4, none⟩ = some (.int .u8 m.h.f) := cell_of HN3.out 4
  have c5 : w2.cell? ⟨w.heap.size, 5, none⟩ = some (.string m.h.x) := cell_of HN3.out 5
  have c6 : w2.cell? ⟨w.heap.size, 6, none⟩ = some (.slice m.a m.ks.length m.c) := cell_of HN3.out 6
  have c7 : w2.cell? ⟨w.heap.size, 7, none⟩ = some (.int .i64 m.h.p) := cell_of HN3.out 7
  have cR : Calls Tryz.prog 55 #[.agg #[.int .u8 m.h.k, .int .u8 m.h.o, .int .u8 m.h.t, .int .i64 m.h.n, .int .u8 m.h.f, .string m.h.x, .slice m.a m.ks.length m.c, .int .i64 m.h.p]] w2 fun e w' => e = .returned (.bool true) ∧ Below w2.heap.size w2 w' := room_any m w2 lo (HLM.out.on hb2)
  clear cS hb2 hid ht
  go_wp2_with fail
  refine cR.mono ?_
  rintro e w3 ⟨rfl, hb3⟩
  have HB3 : Hid (Below w.heap.size w w3) := below2 HB2.out hb3
  clear cR hb3
  go_wp2_with fail
  go_ret
  exact ⟨rfl, HB3.out⟩
end Go.Proofs.YtighocmdlifheaaGreatDoor

/-
  Size: how many nodes an expression has.
-/
namespace Go.Proofs.YtighocmdlifheaaGreatDoor
open Go.RowKit Go.Shelf
attribute [local go_sem] Oper.semAt_some

/-- The marks that loops over functions have left. -/
def dmark (D : Nat) : Deferred := { target := .collected D, args := #[] }
theorem Mv.ofBelow {w w' : World} (h : Below w.heap.size w w') : Mv w w' (fun _ => False) := ⟨h.os, h.tape, h.output, h.size, fun k hk _ => h.block k hk⟩
theorem Mv.toBelow {w w' : World} (h : Mv w w' (fun _ => False)) : Below w.heap.size w w' := h.below (Nat.le_refl _) (fun _ e => e.elim)
theorem leaves_marks {fn : Func} {tmps : Array Value} {R : Ending → World → Prop} {v : Value} (Ds : List Nat) : ∀ (W : World), Ds.Nodup → (∀ D, D ∈ Ds → W.heap[D]? = some (.deferred (some []))) →
    (∀ W', Mv W W' (fun k => k ∈ Ds) → (results fn tmps).run Tryz.prog W' = .ok v W' ∧ R (.returned v) W') → LeavesInM Fence.wide 3 Tryz.prog fn tmps R (Ds.map dmark) .returning W := by
  induction Ds with
  | nil => intro W _ _ h; exact ⟨v, (h W (Mv.refl _ _)).1, (h W (Mv.refl _ _)).2⟩
  | cons D Ds ih =>
    intro W hnd hD h
    rw [List.nodup_cons] at hnd
    have h0 := hD D (by simp)
    refine ⟨by simp, .inl ⟨D, _, rfl, run_takeDeferred h0, ?_⟩⟩
    have hput : Mv W (W.putObj D (.deferred none)) (fun k => k = D) := ⟨rfl, rfl, rfl, by simp, fun k _ hk => World.putObj_heap_other (fun e => hk e)⟩
    refine ih _ hnd.2 (fun D' hD' => ?_) (fun W' m => h W' ?_)
    · rw [World.putObj_heap_other (fun e => hnd.1 (by rw [← e]; exact hD'))]
      exact hD D' (by simp [hD'])
    · exact (hput.mono (F' := fun k => k ∈ D :: Ds) (fun b e => by rw [e]; simp)).trans m (fun b e => .inl (by simp [e]))
/-- Between two rounds: so many have come. -/
structure Cn (w : World) (B : Nat) (pr : List Nat) (W : World) : Prop where
  b : Boxed W B 3 (.int .i64 pr.length)
  m : Below w.heap.size w W
theorem cn_own (w : World) (B : Nat) {C : Nat} (hC : w.heap.size ≤ C) : OwnFrom C (Cn w B) := by
  intro pr W W' row h hg hr
  exact ⟨boxed_own _ _ (fun (_ : Unit) => _) () W W' row h.b hg (fun x e => (hr x e).2), h.m.grown hg h.m.size (fun k e => Nat.le_trans hC (hr k e).1)⟩
theorem results_t1 {P : Program} {fn : Func} {p : Tmp} (h : fn.results = #[.tmp p]) (tmps : Array Value) (w : World) : (results fn tmps).run P w = .ok (tmps.getD p undef) w := by
  simp [results, h]
set_option maxRecDepth 1000000 in
set_option maxHeartbeats 8000000 in
theorem size_any (m : Nd) (w : World) (hl : Lies w m) (hz : size m ≤ 1000000000000) : Calls Tryz.prog 23 #[.agg m.vals] w fun e w' => e = .returned (.int .i64 (size m)) ∧ Below w.heap.size w w' := by
  have HZ : Hid (size m ≤ 1000000000000) := hz
  clear hz
  refine (callsIn_wide (n := 3)).1 (callsIn_of_wp_marks Tryz.func23 rfl trivial ?_ rfl)
  refine wpIn_wide.2 ?_
  simp only [Tryz.ntmps23, List.size_toArray, List.length_cons, List.length_nil, Nat.reduceAdd, Nat.reduceSub, Array.replicate_succ, Array.replicate_zero, List.push_toArray, List.append_toArray, List.nil_append, List.cons_append]
  obtain ⟨B0, hB0⟩ : ∃ x, w.heap.size = x := ⟨_, rfl⟩
  have cL := all_any m ((w.alloc (.cells m.vals 55)).alloc (.cells #[.int .i64 0] 3))
  obtain ⟨W0, hW0⟩ : ∃ W0, ((w.alloc (.cells m.vals 55)).alloc (.cells #[.int .i64 0] 3)).alloc (.cells m.vals 55) = W0 := ⟨_, rfl⟩
  have hbl : Below w.heap.size w W0 := by rw [← hW0]; exact (below_two _ _ _).alloc (by simp; omega) _
  have s0 : W0.heap.size = B0 + 3 := by rw [← hW0]; simp [hB0]
  have z1 : Boxed W0 (B0 + 1) 3 (.int .i64 0) := by
    have := (Boxed.new (w.alloc (.cells m.vals 55)) 3 (.int .i64 0)).alloc (.cells m.vals 55)
    rw [World.size_alloc, hB0] at this
    rw [← hW0]; exact this
  have z2 : NdH W0 (B0 + 2) m := by
    have := heap_new ((w.alloc (.cells m.vals 55)).alloc (.cells #[.int .i64 0] 3)) (.cells m.vals 55)
    rw [size_alloc, size_alloc, hB0] at this
    rw [← hW0]; exact this
  rw [hW0] at cL
  have e2 : ((w.alloc (.cells m.vals 55)).alloc (.cells #[.int .i64 0] 3)).heap.size = B0 + 2 := by rw [size_alloc, size_alloc, hB0]
  rw [e2] at cL
  clear e2
  unfold Nd.vals hdA at cL hW0 ⊢
  clear hW0
  go_wp2_with fail
  refine cL.mono ?_
  rintro e W1 ⟨rfl, e1⟩
  obtain rfl := e1
  go_wp2_with fail
  refine (wpIn_wide (n := 12)).1 ?_
  refine wpIn_rangeFunc_ownH rfl (by omega) (gf := 111) (lb := #[.pointer (some ⟨B0 + 2, 0, none⟩)]) rfl trivial (enters_of Tryz.func111 (by kernel_rfl) rfl)
    (all_stops 11 m (fun b => b = B0 + 1) (B0 + 2) w W1 hl hbl (fun b hb => by rw [s0, hB0, hb]; omega) z2)
    (fun h k => h.trans k) ?hKb (Below.refl _ _) (fun _ => rfl)
    (Cn w (B0 + 1))
    (fun _ pre _ => False)
    (cn_own w (B0 + 1) hbl.size) (fun c => ownFrom_pure _ _) ⟨z1, hbl⟩
    (fun _ a' _ => ∃ u, a' = { tmps := #[.agg #[.int .u8 m.h.k, .int .u8 m.h.o, .int .u8 m.h.t, .int .i64 m.h.n, .int .u8 m.h.f, .string m.h.x, .slice m.a m.ks.length m.c, .int .i64 m.h.p], .pointer (some ⟨B0, 0, none⟩), .int .i64 0, .pointer (some ⟨B0 + 1, 0, none⟩), .agg #[.int .u8 m.h.k, .int .u8 m.h.o, .int .u8 m.h.t, .int .i64 m.h.n, .int .u8 m.h.f, .string m.h.x, .slice m.a m.ks.length m.c, .int .i64 m.h.p], .func (.func 111) #[] #[.pointer (some ⟨B0 + 2, 0, none⟩)], u, undef, undef, undef], defers := [] })
    ?hAx ?assign ?body ?done ?stop
  case hKb => exact fun W l o o' h1 h2 h3 h4 => Kc.bound (w := W1) W l o o' h1 h2 h3 h4
  case hAx => exact fun x a' => ownFrom_pure _ (fun _ => _)
  case assign =>
    rintro lo pr x W K hi hK
    have HK : Hid (∀ a', (∃ u, a' = _) → K a' W) := fun a' ha => hK a' W ⟨Nat.le_refl _, fun _ _ _ h _ => h⟩ (Kc.refl _ _) hi ha
    clear hK hi
    unfold encN
    obtain ⟨u, eu⟩ : ∃ u, Value.agg (cutN ((pre m).getD x (.mk ⟨0, 0, 0, 0, 0, ⟨#[]⟩, 0⟩ none 0 []))).vals = u := ⟨_, rfl⟩
    rw [eu]
    have hA := HK.out _ ⟨u, rfl⟩
    clear HK
    gi_wp2
    simpa using hA
  case body =>
    rintro lo pr x a' W hlo _ ⟨b, hm⟩ ⟨u, rfl⟩ hlen
    have c1 := b.cell
    have f1 := b.frozen
    have HB : Hid (Boxed W (B0 + 1) 3 (.int .i64 pr.length)) := b
    have HM : Hid (Below w.heap.size w W) := hm
    have hmx : (pr.length : Int) + 1 ≤ 9223372036854775807 := by rw [size_pre] at hlen; have := HZ.out; omega
    clear b hm hlen
    gi_wp2
    refine ⟨⟨by simp [World.setCell], fun k o _ hk ho => (Below.heap_setCell _ _ _ _ (fun e => ?_)).trans hk⟩, ⟨by simp [World.setCell], fun k cs t fr hv _ => Below.heap_setCell _ _ _ _ hv⟩, ?_, HM.out.setCell (p := ⟨B0 + 1, 0, none⟩) (by rw [hB0]; exact Nat.le_succ _) _⟩
    · have e : k = B0 + 1 := e
      rw [e, show W.heap[B0 + 1]? = _ from HB.out] at hk
      cases hk
      cases ho
    · have := HB.out.set (.int .i64 ((pr.length : Int) + 1))
      rw [show ((pr ++ [x]).length : Int) = (pr.length : Int) + 1 by simp]
      exact this
  case done =>
    rintro D xs W hD rfl ⟨b, hm⟩ hK
    have c1 := b.cell
    have e1 : (List.range (pre m).length).length = size m := by rw [List.length_range, size_pre]
    rw [e1] at c1
    have HD : Hid (W.heap[D]? = some (.deferred (some []))) := hK
    have HM : Hid (Below w.heap.size w W) := hm
    clear hK hm b
    go_wp2_with fail
    refine leaves_marks (v := .int .i64 (size m)) [D] W (by simp) (fun D' hD' => by simp at hD'; rw [hD']; exact HD.out) (fun W' mv => ⟨results_t1 (p := 2) rfl _ _, rfl, ?_⟩)
    exact ((Mv.ofBelow HM.out).trans mv (fun b e => .inr (by simp at e; rw [e]; omega))).toBelow
  case stop =>
    intro D c pre W _ h1 h2 _
    exact absurd h2 (by simp)
end Go.Proofs.YtighocmdlifheaaGreatDoor
