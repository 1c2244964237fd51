/-
  SameNode of an expression and its twin; Nodes: all nodes, a node ahead of its kids.
-/
import Derived.Test.YtighocmdlifheaaDoorCq
import Derived.Test.YtighocmdlifheaaDoorIt
namespace Go.Proofs.YtighocmdlifheaaDoor
open Go.RowKit
theorem Twin.self : ∀ m : Nd, Twin m m := Nd.ind fun h a c ks ih => .mk h a a c c ks ks rfl (fun _ h1 _ => ih _ (nth_mem h1))
theorem Twin.cut (m : Nd) : Twin (cutN m) m := by
  cases m with
  | mk h a c ks => exact .mk h a a _ c ks ks rfl (fun _ _ _ => Twin.self _)
set_option maxRecDepth 100000 in
set_option maxHeartbeats 8000000 in
theorem twin_any : ∀ (m k : Nd) (w : World), Twin m k → Lies w m → Lies w k → Calls Tryd.prog 18 #[.agg m.vals, .agg k.vals] w fun e w' => e = .returned (.bool true) ∧ Below w.heap.size w w' := by
  refine Nd.ind fun h a c ks ih k w ht hl hl' => ?_
  cases ht with
  | mk _ _ a' _ c' _ ks' hlen hk =>
  have HI : Hid (∀ j (h1 : j < ks.length) (h2 : j < ks'.length) (w : World), Lies w ks[j] → Lies w ks'[j] → Calls Tryd.prog 18 #[.agg ks[j].vals, .agg ks'[j].vals] w fun e w' => e = .returned (.bool true) ∧ Below w.heap.size w w') := fun j h1 h2 v hv hv' => ih _ (nth_mem h1) _ v (hk j h1 h2) hv hv'
  have HL := hl.hid
  have HL' := hl'.hid
  have HE : Hid (ks'.length = ks.length) := hlen
  show Calls Tryd.prog 18 #[.agg #[.int .u8 h.k, .int .u8 h.o, .int .u8 h.t, .int .i64 h.n, .int .u8 h.f, .string h.x, .slice a ks.length c, .int .i64 h.p], .agg #[.int .u8 h.k, .int .u8 h.o, .int .u8 h.t, .int .i64 h.n, .int .u8 h.f, .string h.x, .slice a' ks'.length c', .int .i64 h.p]] w _
  rw [hlen]
  clear ih hl hl' hk hlen
  go_enter Tryd.func18, Tryd.ntmps18
  go_wp2_with fail
  obtain ⟨W0, eW0⟩ : ∃ W0, (w.alloc (.cells #[.int .u8 h.k, .int .u8 h.o, .int .u8 h.t, .int .i64 h.n, .int .u8 h.f, .string h.x, .slice a ks.length c, .int .i64 h.p] 28)).alloc (.cells #[.int .u8 h.k, .int .u8 h.o, .int .u8 h.t, .int .i64 h.n, .int .u8 h.f, .string h.x, .slice a' ks.length c', .int .i64 h.p] 28) = W0 := ⟨_, rfl⟩
  have HB : Hid (Below w.heap.size w W0) := by rw [← eW0]; exact below_two _ _ _
  have HN0 : Hid (W0.heap[w.heap.size]? = some (.cells #[.int .u8 h.k, .int .u8 h.o, .int .u8 h.t, .int .i64 h.n, .int .u8 h.f, .string h.x, .slice a ks.length c, .int .i64 h.p] 28 (0, 0))) := by rw [← eW0]; exact heap_old (heap_new _ _) (by rw [size_alloc]; omega)
  have HN1 : Hid (W0.heap[w.heap.size + 1]? = some (.cells #[.int .u8 h.k, .int .u8 h.o, .int .u8 h.t, .int .i64 h.n, .int .u8 h.f, .string h.x, .slice a' ks.length c', .int .i64 h.p] 28 (0, 0))) := by rw [← eW0, ← size_alloc w (.cells #[.int .u8 h.k, .int .u8 h.o, .int .u8 h.t, .int .i64 h.n, .int .u8 h.f, .string h.x, .slice a ks.length c, .int .i64 h.p] 28)]; exact heap_new _ _
  rw [eW0]
  clear eW0
  go_loopw [5, 6] (fun t _ wr => ∃ i : Nat, i ≤ ks.length ∧ t = .int .i64 i ∧ Hid (Below W0.heap.size W0 wr)) (fun t _ _ => ks.length - (intOf t).toNat)
  case atStart => exact ⟨0, by omega, rfl, Below.refl _ _⟩
  case round =>
    obtain ⟨i, hi, rfl, HR⟩ := hrel
    have q0 : wr.heap[w.heap.size]? = some (.cells #[.int .u8 h.k, .int .u8 h.o, .int .u8 h.t, .int .i64 h.n, .int .u8 h.f, .string h.x, .slice a ks.length c, .int .i64 h.p] 28 (0, 0)) := (HR.out.block _ (Array.getElem?_eq_some_iff.1 HN0.out).1).trans HN0.out
    have q1 : wr.heap[w.heap.size + 1]? = some (.cells #[.int .u8 h.k, .int .u8 h.o, .int .u8 h.t, .int .i64 h.n, .int .u8 h.f, .string h.x, .slice a' ks.length c', .int .i64 h.p] 28 (0, 0)) := (HR.out.block _ (Array.getElem?_eq_some_iff.1 HN1.out).1).trans HN1.out
    have HQ0 : Hid (wr.heap[w.heap.size]? = some (.cells #[.int .u8 h.k, .int .u8 h.o, .int .u8 h.t, .int .i64 h.n, .int .u8 h.f, .string h.x, .slice a ks.length c, .int .i64 h.p] 28 (0, 0))) := q0
    have HQ1 : Hid (wr.heap[w.heap.size + 1]? = some (.cells #[.int .u8 h.k, .int .u8 h.o, .int .u8 h.t, .int .i64 h.n, .int .u8 h.f, .string h.x, .slice a' ks.length c', .int .i64 h.p] 28 (0, 0))) := q1
    have c6 : wr.cell? ⟨w.heap.size, 6, none⟩ = some (.slice a ks.length c) := cell_of q0 6
    have d6 : wr.cell? ⟨w.heap.size + 1, 6, none⟩ = some (.slice a' ks.length c') := cell_of q1 6
    clear q0 q1
    have HBr : Hid (Below w.heap.size w wr) := below2 HB.out HR.out
    by_cases hlt : i < ks.length
    · have hlt' : (i : Int) < (ks.length : Int) := by omega
      have hlt2 : i < ks'.length := by have := HE.out; omega
      obtain ⟨b, o, e1, hat⟩ := (HL.out.on HBr.out).kid i hlt
      have e1' : a = some ⟨b, o, none⟩ := e1
      have hk1 : NdAt wr b (o + i * 8) ks[i] := hat
      obtain ⟨b', o', e2, hat'⟩ := (HL'.out.on HBr.out).kid i hlt2
      have e2' : a' = some ⟨b', o', none⟩ := e2
      have hk2 : NdAt wr b' (o' + i * 8) ks'[i] := hat'
      have cI := fun v (hv : Below wr.heap.size wr v) => HI.out i hlt hlt2 v (((HL.out.sub _ (nth_mem hlt)).on HBr.out).on hv) (((HL'.out.sub _ (nth_mem hlt2)).on HBr.out).on hv)
      obtain ⟨k, ek⟩ : ∃ k, ks[i] = k := ⟨_, rfl⟩
      obtain ⟨k', ek'⟩ : ∃ k, ks'[i] = k := ⟨_, rfl⟩
      rw [ek] at hk1 cI
      rw [ek'] at hk2 cI
      have HK1 := hk1.hid
      have HK2 := hk2.hid
      have cI : ∀ v, Below wr.heap.size wr v → Calls Tryd.prog 18 #[.agg #[.int .u8 k.h.k, .int .u8 k.h.o, .int .u8 k.h.t, .int .i64 k.h.n, .int .u8 k.h.f, .string k.h.x, .slice k.a k.ks.length k.c, .int .i64 k.h.p], .agg #[.int .u8 k'.h.k, .int .u8 k'.h.o, .int .u8 k'.h.t, .int .i64 k'.h.n, .int .u8 k'.h.f, .string k'.h.x, .slice k'.a k'.ks.length k'.c, .int .i64 k'.h.p]] v fun e w' => e = .returned (.bool true) ∧ Below v.heap.size v w' := cI
      rw [e1'] at c6 HQ0
      rw [e2'] at d6 HQ1
      have HKP : Hid (∀ v, GB wr v → v.cell? ⟨w.heap.size, 6, none⟩ = some (.slice (some ⟨b, o, none⟩) ks.length c) ∧ v.cell? ⟨w.heap.size + 1, 6, none⟩ = some (.slice (some ⟨b', o', none⟩) ks.length c') ∧ v.cell? ⟨b, o + i * 8, none⟩ = some (.int .u8 k.h.k) ∧ v.cell? ⟨b, o + i * 8 + 1, none⟩ = some (.int .u8 k.h.o) ∧ v.cell? ⟨b, o + i * 8 + 2, none⟩ = some (.int .u8 k.h.t) ∧ v.cell? ⟨b, o + i * 8 + 3, none⟩ = some (.int .i64 k.h.n) ∧ v.cell? ⟨b, o + i * 8 + 4, none⟩ = some (.int .u8 k.h.f) ∧ v.cell? ⟨b, o + i * 8 + 5, none⟩ = some (.string k.h.x) ∧ v.cell? ⟨b, o + i * 8 + 6, none⟩ = some (.slice k.a k.ks.length k.c) ∧ v.cell? ⟨b, o + i * 8 + 7, none⟩ = some (.int .i64 k.h.p) ∧ v.cell? ⟨b', o' + i * 8, none⟩ = some (.int .u8 k'.h.k) ∧ v.cell? ⟨b', o' + i * 8 + 1, none⟩ = some (.int .u8 k'.h.o) ∧ v.cell? ⟨b', o' + i * 8 + 2, none⟩ = some (.int .u8 k'.h.t) ∧ v.cell? ⟨b', o' + i * 8 + 3, none⟩ = some (.int .i64 k'.h.n) ∧ v.cell? ⟨b', o' + i * 8 + 4, none⟩ = some (.int .u8 k'.h.f) ∧ v.cell? ⟨b', o' + i * 8 + 5, none⟩ = some (.string k'.h.x) ∧ v.cell? ⟨b', o' + i * 8 + 6, none⟩ = some (.slice k'.a k'.ks.length k'.c) ∧ v.cell? ⟨b', o' + i * 8 + 7, none⟩ = some (.int .i64 k'.h.p) ∧ GB wr v) := fun v hv => by
        have hk1' := HK1.out.on hv
        have hk2' := HK2.out.on hv
        exact ⟨cell_of ((hv.block _ (Array.getElem?_eq_some_iff.1 HQ0.out).1).trans HQ0.out) 6, cell_of ((hv.block _ (Array.getElem?_eq_some_iff.1 HQ1.out).1).trans HQ1.out) 6, hk1'.c0, hk1'.c1, hk1'.c2, hk1'.c3, hk1'.c4, hk1'.c5, hk1'.c6, hk1'.c7, hk2'.c0, hk2'.c1, hk2'.c2, hk2'.c3, hk2'.c4, hk2'.c5, hk2'.c6, hk2'.c7, hv⟩
      have hmx : (i : Int) + 1 ≤ 9223372036854775807 := by
        have h1 := HL.out.max
        have h2 := HL.out.cap
        simp only [Nd.ks, Nd.c] at h1 h2
        omega
      clear ek ek' e1 e2 e1' e2' hat hat' hk1 hk2
      go_upto_region 6 with fail
      go_region_held3 (fun v => v.cell? ⟨w.heap.size, 6, none⟩ = some (.slice (some ⟨b, o, none⟩) ks.length c) ∧ v.cell? ⟨w.heap.size + 1, 6, none⟩ = some (.slice (some ⟨b', o', none⟩) ks.length c') ∧ v.cell? ⟨b, o + i * 8, none⟩ = some (.int .u8 k.h.k) ∧ v.cell? ⟨b, o + i * 8 + 1, none⟩ = some (.int .u8 k.h.o) ∧ v.cell? ⟨b, o + i * 8 + 2, none⟩ = some (.int .u8 k.h.t) ∧ v.cell? ⟨b, o + i * 8 + 3, none⟩ = some (.int .i64 k.h.n) ∧ v.cell? ⟨b, o + i * 8 + 4, none⟩ = some (.int .u8 k.h.f) ∧ v.cell? ⟨b, o + i * 8 + 5, none⟩ = some (.string k.h.x) ∧ v.cell? ⟨b, o + i * 8 + 6, none⟩ = some (.slice k.a k.ks.length k.c) ∧ v.cell? ⟨b, o + i * 8 + 7, none⟩ = some (.int .i64 k.h.p) ∧ v.cell? ⟨b', o' + i * 8, none⟩ = some (.int .u8 k'.h.k) ∧ v.cell? ⟨b', o' + i * 8 + 1, none⟩ = some (.int .u8 k'.h.o) ∧ v.cell? ⟨b', o' + i * 8 + 2, none⟩ = some (.int .u8 k'.h.t) ∧ v.cell? ⟨b', o' + i * 8 + 3, none⟩ = some (.int .i64 k'.h.n) ∧ v.cell? ⟨b', o' + i * 8 + 4, none⟩ = some (.int .u8 k'.h.f) ∧ v.cell? ⟨b', o' + i * 8 + 5, none⟩ = some (.string k'.h.x) ∧ v.cell? ⟨b', o' + i * 8 + 6, none⟩ = some (.slice k'.a k'.ks.length k'.c) ∧ v.cell? ⟨b', o' + i * 8 + 7, none⟩ = some (.int .i64 k'.h.p) ∧ GB wr v)
        (exact HKP.out _ (by (repeat (first | with_reducible assumption | with_reducible exact GB.refl _ | with_reducible apply GB.drew | with_reducible apply GB.alloc | with_reducible refine GB.call (by with_reducible assumption) ?_))))
        (first | (go_at_call 18; refine (cI _ ((Below.refl _ _).drew)).mono ?_; rintro e w6 ⟨rfl, hb6⟩))
      all_goals (
        have HB6 : Hid (Below W0.heap.size W0 w6) := below2 HR.out (below2 (Below.refl _ _).drew hb6)
        clear hb6
        go_wp2_with fail
        exact ⟨⟨i + 1, hlt, rfl, HB6⟩, by simp only [intOf]; omega⟩)
    · obtain rfl : i = ks.length := by omega
      have hnot : ¬ (ks.length : Int) < (ks.length : Int) := by omega
      go_wp2_with fail
      go_ret
      exact ⟨rfl, HBr.out⟩
theorem pres_append (a b : List Nd) : pres (a ++ b) = pres a ++ pres b := by
  induction a with
  | nil => simp [pres]
  | cons k a ih => simp only [List.cons_append, pres, ih, List.append_assoc]
theorem pres_take {ks : List Nd} {i : Nat} (hi : i < ks.length) : pres (ks.take (i + 1)) = pres (ks.take i) ++ pre ks[i] := by
  rw [List.take_add_one, pres_append, List.getElem?_eq_getElem hi]
  simp [pres]
theorem pres_len : ∀ ks : List Nd, (pres ks).length = sizes ks
  | [] => rfl
  | k :: ks => by simp only [pres, sizes, List.length_append, pres_len ks, size_pre]
theorem sizes_take' {ks : List Nd} {i : Nat} (hi : i < ks.length) : sizes (ks.take i) + size ks[i] ≤ sizes ks := by
  rw [← pres_len, ← pres_len, ← size_pre, ← List.length_append, ← pres_take hi]
  have := congrArg List.length (pres_append (ks.take (i + 1)) (ks.drop (i + 1)))
  rw [List.take_append_drop, List.length_append] at this
  omega
/-- A list has grown; all else is as it was. -/
structure Grw (w w' : World) (v v' : Value) : Prop where
  s : w.heap.size ≤ w'.heap.size
  k : ∀ b, b < w.heap.size → v.ownBlock ≠ some b → w'.heap[b]? = w.heap[b]?
  o : v'.ownBlock = v.ownBlock ∨ ∃ g, v'.ownBlock = some g ∧ w.heap.size ≤ g
theorem Grw.refl (w : World) (v : Value) : Grw w w v v := ⟨Nat.le_refl _, fun _ _ _ => rfl, .inl rfl⟩
theorem Grw.ne {w w' : World} {v v' : Value} (h : Grw w w' v v') {b : Nat} (hb : b < w.heap.size) (hn : v.ownBlock ≠ some b) : v'.ownBlock ≠ some b := fun e => by
  rcases h.o with e1 | ⟨g, e1, hg⟩
  · exact hn (e1.symm.trans e)
  · rw [e1] at e; cases e; omega
theorem Grw.trans {w1 w2 w3 : World} {v1 v2 v3 : Value} (h : Grw w1 w2 v1 v2) (k : Grw w2 w3 v2 v3) : Grw w1 w3 v1 v3 := by
  refine ⟨Nat.le_trans h.s k.s, fun b hb hn => (k.k b (Nat.lt_of_lt_of_le hb h.s) (h.ne hb hn)).trans (h.k b hb hn), ?_⟩
  rcases k.o with e | ⟨g, e, hg⟩
  · rcases h.o with e1 | ⟨g, e1, hg⟩
    · exact .inl (e.trans e1)
    · exact .inr ⟨g, e.trans e1, hg⟩
  · exact .inr ⟨g, e, Nat.le_trans h.s hg⟩
set_option maxRecDepth 100000 in
set_option maxHeartbeats 4000000 in
theorem below_any : ∀ (m : Nd) (W w : World) (v : Value) (L : List Nd), Lies W m → RN W w v L → L.length + size m ≤ 900000000 → Calls Tryd.prog 42 #[v, .agg m.vals] w fun e w' => ∃ v', e = .returned v' ∧ RN W w' v' (L ++ pre m) ∧ Grw w w' v v' := by
  refine Nd.ind fun h a c ks ih W w v L hl hr hz => ?_
  have HI : Hid (∀ k ∈ ks, ∀ (W w : World) (v : Value) (L : List Nd), Lies W k → RN W w v L → L.length + size k ≤ 900000000 → Calls Tryd.prog 42 #[v, .agg k.vals] w fun e w' => ∃ v', e = .returned v' ∧ RN W w' v' (L ++ pre k) ∧ Grw w w' v v') := ih
  have HL := hl.hid
  have HZ : Hid (L.length + size (.mk h a c ks) ≤ 900000000) := hz
  have HR : Hid (RN W (w.alloc (.cells (Nd.mk h a c ks).vals 28)) v L) := hr.alloc _
  have HLn : Hid (L.length ≤ 1000000000) := by show _ ≤ _; simp only [size] at hz; omega
  have HNO : Hid (v.ownBlock ≠ some w.heap.size) := fun e => by have := hr.row.lt _ e; omega
  clear ih hl hr hz
  show Calls Tryd.prog 42 #[v, .agg #[.int .u8 h.k, .int .u8 h.o, .int .u8 h.t, .int .i64 h.n, .int .u8 h.f, .string h.x, .slice a ks.length c, .int .i64 h.p]] w _
  unfold Nd.vals hdA at HR
  go_enter Tryd.func42, Tryd.ntmps42
  go_wp2_with (at_builtin; refine append_node rfl (.tmp 6) (.tmp 8) rfl (.mk h a c ks) HR.out rfl (by show Value.slice (some ⟨w.heap.size + 1, 0, none⟩) 1 1 = _; rw [size_alloc]) HLn.out ?_; intro v1 w2 hr2 hs2 hq2 hz2; have HX := hr2.hid; have HS2 : Hid (w2.heap[w.heap.size]? = some (.cells #[.int .u8 h.k, .int .u8 h.o, .int .u8 h.t, .int .i64 h.n, .int .u8 h.f, .string h.x, .slice a ks.length c, .int .i64 h.p] 28 (0, 0))) := (hq2 w.heap.size (by rw [size_alloc]; omega) (HNO.out)).trans (heap_new _ _); have HG2 : Hid (Grw w w2 v v1 ∧ v1.ownBlock ≠ some w.heap.size ∧ w.heap.size < w2.heap.size) := (by have s1 := size_alloc w (.cells (Nd.mk h a c ks).vals 28); exact ⟨⟨by rw [size_alloc] at hs2; omega, fun b hb hn => (hq2 b (by rw [size_alloc]; omega) hn).trans (Below.heap_alloc _ _ _ hb), hz2.elim .inl (fun ⟨g, e, hg⟩ => .inr ⟨g, e, by rw [size_alloc] at hg; omega⟩)⟩, fun e => (by rcases hz2 with e1 | ⟨g, e1, hg⟩; exact HNO.out (e1.symm.trans e); (rw [e1] at e; cases e; rw [size_alloc] at hg; omega)), by rw [size_alloc] at hs2; omega⟩); clear hr2 hs2 hq2 hz2)
  have HB2 : Hid (Below W.heap.size W w2) := HX.out.B
  go_loopw [0, 5] (fun v t wr => ∃ i : Nat, i ≤ ks.length ∧ t = .int .i64 i ∧ Hid (RN W wr v (L ++ .mk h a c ks :: pres (ks.take i))) ∧ Hid (Grw w2 wr v1 v)) (fun _ t _ => ks.length - (intOf t).toNat)
  case atStart => exact ⟨0, by omega, rfl, HX, Grw.refl _ _⟩
  case round =>
    obtain ⟨i, hi, rfl, HRr, HGr⟩ := hrel
    have HSr : Hid (wr.heap[w.heap.size]? = some (.cells #[.int .u8 h.k, .int .u8 h.o, .int .u8 h.t, .int .i64 h.n, .int .u8 h.f, .string h.x, .slice a ks.length c, .int .i64 h.p] 28 (0, 0))) := (HGr.out.k _ HG2.out.2.2 HG2.out.2.1).trans HS2.out
    have q6 : wr.cell? ⟨w.heap.size, 6, none⟩ = some (.slice a ks.length c) := cell_of HSr.out 6
    by_cases hlt : i < ks.length
    · have hlt' : (i : Int) < (ks.length : Int) := by omega
      obtain ⟨b, o, e1, hat⟩ := (HL.out.on HRr.out.B).kid i hlt
      have e1' : a = some ⟨b, o, none⟩ := e1
      have hk1 : NdAt wr b (o + i * 8) ks[i] := hat
      have cI := HI.out ks[i] (nth_mem hlt) W wr u0 _ (HL.out.sub _ (nth_mem hlt)) HRr.out (by
        have h1 := HZ.out
        have h2 := sizes_take' hlt
        simp only [size] at h1
        rw [List.length_append, List.length_cons, pres_len]
        omega)
      obtain ⟨k, ek⟩ : ∃ k, ks[i] = k := ⟨_, rfl⟩
      have HE : Hid (L ++ .mk h a c ks :: pres (ks.take i) ++ pre k = L ++ .mk h a c ks :: pres (ks.take (i + 1))) := by
        show _ = _
        rw [pres_take hlt, ek, List.append_assoc, List.cons_append]
      rw [ek] at hk1 cI
      rw [e1'] at q6
      obtain ⟨y0, y1, y2, y3, y4, y5, y6, y7⟩ := hk1
      unfold Nd.vals hdA at cI
      have hmx : (i : Int) + 1 ≤ 9223372036854775807 := by
        have h1 := HL.out.max
        have h2 := HL.out.cap
        simp only [Nd.ks, Nd.c] at h1 h2
        omega
      clear ek e1 e1' hat
      go_wp2_with fail
      refine cI.mono ?_
      rintro e w5 ⟨v5, rfl, hr5, hg5⟩
      have HR5 : Hid (RN W w5 v5 (L ++ .mk h a c ks :: pres (ks.take (i + 1)))) := by rw [← HE.out]; exact hr5
      have HG5 : Hid (Grw w2 w5 v1 v5) := HGr.out.trans hg5
      clear hr5 hg5 cI y0 y1 y2 y3 y4 y5 y6 y7 q6
      go_wp2_with fail
      exact ⟨⟨i + 1, hlt, rfl, HR5, HG5⟩, by simp only [intOf]; omega⟩
    · obtain rfl : i = ks.length := by omega
      have hnot : ¬ (ks.length : Int) < (ks.length : Int) := by omega
      go_wp2_with fail
      go_ret
      exact ⟨_, rfl, by have := HRr.out; rw [List.take_length] at this; exact this, HG2.out.1.trans HGr.out⟩
set_option maxRecDepth 100000 in
theorem nodes_any (m : Nd) (w : World) (hl : Lies w m) (hz : size m ≤ 900000000) : Calls Tryd.prog 16 #[.agg m.vals] w fun e w' => ∃ v', e = .returned v' ∧ RN w w' v' (pre m) := by
  have c := below_any m w (w.alloc (.cells m.vals 28)) (.slice none 0 0) [] hl ((RN.nil w).alloc _) (by simpa using hz)
  unfold Nd.vals hdA at c ⊢
  go_enter Tryd.func16, Tryd.ntmps16
  go_wp2_with fail
  refine c.mono ?_
  rintro e w1 ⟨v', rfl, hr, _⟩
  go_wp2_with fail
  go_ret
  exact ⟨_, rfl, hr⟩
end Go.Proofs.YtighocmdlifheaaDoor
