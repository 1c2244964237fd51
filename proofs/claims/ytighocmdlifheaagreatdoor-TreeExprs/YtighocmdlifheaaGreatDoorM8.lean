import Derived.Test.YtighocmdlifheaaGreatDoorM2
import Derived.Test.YtighocmdlifheaaGreatDoorDp
import Derived.Deep.CutRange
import Derived.Deep.DeepCutAuto
/-
  BareExpr: an expression without places.
-/
namespace Go.Proofs.YtighocmdlifheaaGreatDoor
open Go.RowKit
theorem enter28 (args : Array Value) (v : World) : Sem.run Tryz.prog (callFunc 25 args) v = .ok (.enter 25 args) v := by kernel_rfl
/-- What BareExpr hands back. -/
def Bared (m : Nd) (w : World) (e : Ending) (w' : World) : Prop := ∃ m', e = .returned (.agg m'.vals) ∧ Lies w' m' ∧ Bare m m' ∧ Bk (fun b => w.heap.size ≤ b ∧ b < w'.heap.size) m' ∧ Below w.heap.size w w'
/-- So many have been turned. -/
structure Trn (W wr : World) (v : Value) (ks L : List Nd) (i : Nat) : Prop where
  l : L.length = i
  r : RN W wr v L
  b : ∀ j (h1 : j < ks.length) (h2 : j < L.length), Bare ks[j] L[j]
  y : ∀ k ∈ L, Lies wr k ∧ Bk (fun b => W.heap.size ≤ b ∧ b < wr.heap.size ∧ v.ownBlock ≠ some b) k
theorem Trn.hid {W wr : World} {v : Value} {ks L : List Nd} {i : Nat} (h : Trn W wr v ks L i) : Hid (Trn W wr v ks L i) := h
/-- One more. -/
theorem Trn.snoc {W wr w1 w2 : World} {v v' : Value} {ks L : List Nd} {i : Nat} {k' : Nd} (h : Trn W wr v ks L i) (hi : i < ks.length) (hb1 : Below wr.heap.size wr w1) (hk1 : Lies w1 k') (hk2 : Bare ks[i] k') (hk3 : Bk (fun b => wr.heap.size ≤ b ∧ b < w1.heap.size) k')
    (hr : RN W w2 v' (L ++ [k'])) (hs : w1.heap.size ≤ w2.heap.size) (hk : ∀ b, b < w1.heap.size → v.ownBlock ≠ some b → w2.heap[b]? = w1.heap[b]?) (hq : v'.ownBlock = v.ownBlock ∨ ∃ g, v'.ownBlock = some g ∧ w1.heap.size < g) : Trn W w2 v' ks (L ++ [k']) (i + 1) := by
  have hW := h.r.B.size
  have hne : ∀ b, b < w1.heap.size → v.ownBlock ≠ some b → v'.ownBlock ≠ some b := fun b hb hn e => by
    rcases hq with e1 | ⟨g, e1, hg⟩
    · exact hn (e1.symm.trans e)
    · rw [e1] at e; cases e; omega
  refine ⟨by rw [List.length_append, h.l]; rfl, hr, fun j h1 h2 => ?_, fun k hkm => ?_⟩
  · by_cases hj : j < L.length
    · rw [List.getElem_append_left hj]; exact h.b j h1 hj
    · have e : j = L.length := by rw [List.length_append] at h2; simp at h2; omega
      subst e
      rw [List.getElem_append_right (by omega)]
      simp only [Nat.sub_self, List.getElem_singleton]
      have e2 : L.length = i := h.l
      have e3 : ks[L.length] = ks[i] := by congr 1
      rw [e3]; exact hk2
  · rcases List.mem_append.1 hkm with hm | hm
    · obtain ⟨y1, y2⟩ := h.y k hm
      have y3 : Lies w1 k := y1.on hb1
      refine ⟨y3.bk (fun b hb hp => hk b hb hp.2.2) y2, y2.mono fun b hp => ⟨hp.1, by have := hb1.size; omega, hne b (by have := hb1.size; omega) hp.2.2⟩⟩
    · rw [List.mem_singleton.1 hm]
      have hv : ∀ b, wr.heap.size ≤ b → v.ownBlock ≠ some b := fun b hb e => by have := h.r.row.lt b e; omega
      exact ⟨hk1.bk (fun b hb hp => hk b hb (hv b hp.1)) hk3, hk3.mono fun b hp => ⟨by omega, by omega, hne b hp.2 (hv b hp.1)⟩⟩
set_option maxRecDepth 100000 in
set_option maxHeartbeats 4000000 in
theorem each_any (ks : List Nd) (a : Option Addr) (c : Nat) (g : Hd) (hn : ks.length ≤ 900000000)
    (ih : ∀ k ∈ ks, ∀ (w : World), Lies w k → Calls Tryz.prog 25 #[.agg k.vals] w (Bared k w)) (w : World) (hl : Lies w (.mk g a c ks)) :
    Calls Tryz.prog 82 #[.slice a ks.length c, .func (.func 25) #[] #[]] w fun e w' => ∃ v L, e = .returned v ∧ Trn w w' v ks L ks.length := by
  have HI : Hid (∀ k ∈ ks, ∀ (w : World), Lies w k → Calls Tryz.prog 25 #[.agg k.vals] w (Bared k w)) := ih
  have HL := hl.hid
  have HN : Hid (ks.length ≤ 900000000) := hn
  have he := fun args v => enter28 args v
  clear ih hl hn
  go_enter Tryz.func82, Tryz.ntmps82
  go_wp2_with fail
  go_loopw [5, 7, 10] (fun v _ t wr => ∃ (i : Nat) (L : List Nd), i ≤ ks.length ∧ t = .int .i64 i ∧ Trn w wr v ks L i) (fun _ _ t _ => ks.length - (intOf t).toNat)
  case atStart => exact ⟨0, [], by omega, rfl, rfl, RN.nil w, fun j h1 h2 => by simp at h2, fun k hk => by cases hk⟩
  case round =>
    obtain ⟨i, L, hi, rfl, hT⟩ := hrel
    have HT := hT.hid
    clear hT
    by_cases hlt : i < ks.length
    · have hlt' : (i : Int) < (ks.length : Int) := by omega
      obtain ⟨b, o, e1, hat⟩ := (HL.out.on HT.out.r.B).kid i hlt
      have e2 : a = some ⟨b, o, none⟩ := e1
      clear e1
      have hk1 : NdAt wr b (o + i * 8) ks[i] := hat
      clear hat
      have cI := HI.out ks[i] (nth_mem hlt)
      have HLk : Hid (Lies w ks[i]) := HL.out.sub ks[i] (nth_mem hlt)
      obtain ⟨k, ek⟩ : ∃ k, ks[i] = k := ⟨_, rfl⟩
      rw [ek] at hk1 cI HLk
      subst e2
      obtain ⟨y0, y1, y2, y3, y4, y5, y6, y7⟩ := hk1
      have bk := below_new wr (.cells #[.int .u8 k.h.k, .int .u8 k.h.o, .int .u8 k.h.t, .int .i64 k.h.n, .int .u8 k.h.f, .string k.h.x, .slice k.a k.ks.length k.c, .int .i64 k.h.p] 55)
      have cI := cI (wr.alloc (.cells #[.int .u8 k.h.k, .int .u8 k.h.o, .int .u8 k.h.t, .int .i64 k.h.n, .int .u8 k.h.f, .string k.h.x, .slice k.a k.ks.length k.c, .int .i64 k.h.p] 55)) (HLk.out.on (below2 HT.out.r.B bk))
      have cI : Calls Tryz.prog 25 #[.agg #[.int .u8 k.h.k, .int .u8 k.h.o, .int .u8 k.h.t, .int .i64 k.h.n, .int .u8 k.h.f, .string k.h.x, .slice k.a k.ks.length k.c, .int .i64 k.h.p]] (wr.alloc (.cells #[.int .u8 k.h.k, .int .u8 k.h.o, .int .u8 k.h.t, .int .i64 k.h.n, .int .u8 k.h.f, .string k.h.x, .slice k.a k.ks.length k.c, .int .i64 k.h.p] 55)) (Bared k (wr.alloc (.cells #[.int .u8 k.h.k, .int .u8 k.h.o, .int .u8 k.h.t, .int .i64 k.h.n, .int .u8 k.h.f, .string k.h.x, .slice k.a k.ks.length k.c, .int .i64 k.h.p] 55))) := cI
      have HEK : Hid (ks[i] = k) := ek
      have HBK : Hid (Below wr.heap.size wr (wr.alloc (.cells #[.int .u8 k.h.k, .int .u8 k.h.o, .int .u8 k.h.t, .int .i64 k.h.n, .int .u8 k.h.f, .string k.h.x, .slice k.a k.ks.length k.c, .int .i64 k.h.p] 55))) := bk
      clear ek bk
      go_wp2_with fail
      refine cI.mono ?_
      rintro e w1 ⟨k', rfl, hk1, hk2, hk3, hb1⟩
      have HB1 : Hid (Below wr.heap.size wr w1) := below2 HBK.out hb1
      have HR1 : Hid (RN w w1 u5 L) := HT.out.r.call HB1.out
      have HLn : Hid (L.length ≤ 1000000000) := by have h1 := HN.out; have h2 := HT.out.l; show _ ≤ _; omega
      have HK1 : Hid (Lies w1 k') := hk1
      have HK2 : Hid (Bare k k') := hk2
      have HK3 : Hid (Bk (fun b => wr.heap.size ≤ b ∧ b < w1.heap.size) k') := hk3.mono fun b hp => ⟨by have := hp.1; rw [size_alloc] at this; omega, hp.2⟩
      have hmx : (i : Int) + 1 ≤ 9223372036854775807 := by have := HN.out; omega
      clear hk1 hk2 hk3 hb1 cI y0 y1 y2 y3 y4 y5 y6 y7
      unfold Nd.vals hdA
      go_wp2_with (at_builtin; refine append_node rfl (.tmp 14) (.tmp 18) rfl k' HR1.out rfl rfl HLn.out ?_; intro v1 w2 hr2 hs2 hq2 hz2; have HX : Hid (Trn w w2 v1 ks (L ++ [k']) (i + 1)) := HT.out.snoc hlt HB1.out HK1.out (by rw [HEK.out]; exact HK2.out) HK3.out hr2 hs2 hq2 hz2; clear hr2 hs2 hq2 hz2)
      exact ⟨⟨i + 1, L ++ [k'], hlt, rfl, HX.out⟩, by simp only [intOf]; omega⟩
    · obtain rfl : i = ks.length := by omega
      have hnot : ¬ (ks.length : Int) < (ks.length : Int) := by omega
      go_wp2_with fail
      go_ret
      exact ⟨_, rfl, L, HT.out⟩
theorem put8 {w : World} {b : Nat} {a0 a1 a2 a3 a4 a5 a6 a7 : Value} (h : w.heap[b]? = some (.cells #[a0, a1, a2, a3, a4, a5, a6, a7] 55 (0, 0))) (v0 v1 v2 v3 v4 v5 v6 v7 : Value) :
    ((((((((w.setCell ⟨b, 0, none⟩ v0).setCell ⟨b, 1, none⟩ v1).setCell ⟨b, 2, none⟩ v2).setCell ⟨b, 3, none⟩ v3).setCell ⟨b, 4, none⟩ v4).setCell ⟨b, 5, none⟩ v5).setCell ⟨b, 6, none⟩ v6).setCell ⟨b, 7, none⟩ v7).heap[b]? = some (.cells #[v0, v1, v2, v3, v4, v5, v6, v7] 55 (0, 0)) := by
  have h1 : (w.setCell ⟨b, 0, none⟩ v0).heap[b]? = some (.cells #[v0, a1, a2, a3, a4, a5, a6, a7] 55 (0, 0)) := heap_set v0 h
  have h2 : ((w.setCell ⟨b, 0, none⟩ v0).setCell ⟨b, 1, none⟩ v1).heap[b]? = some (.cells #[v0, v1, a2, a3, a4, a5, a6, a7] 55 (0, 0)) := heap_set v1 h1
  have h3 : (((w.setCell ⟨b, 0, none⟩ v0).setCell ⟨b, 1, none⟩ v1).setCell ⟨b, 2, none⟩ v2).heap[b]? = some (.cells #[v0, v1, v2, a3, a4, a5, a6, a7] 55 (0, 0)) := heap_set v2 h2
  have h4 : ((((w.setCell ⟨b, 0, none⟩ v0).setCell ⟨b, 1, none⟩ v1).setCell ⟨b, 2, none⟩ v2).setCell ⟨b, 3, none⟩ v3).heap[b]? = some (.cells #[v0, v1, v2, v3, a4, a5, a6, a7] 55 (0, 0)) := heap_set v3 h3
  have h5 : (((((w.setCell ⟨b, 0, none⟩ v0).setCell ⟨b, 1, none⟩ v1).setCell ⟨b, 2, none⟩ v2).setCell ⟨b, 3, none⟩ v3).setCell ⟨b, 4, none⟩ v4).heap[b]? = some (.cells #[v0, v1, v2, v3, v4, a5, a6, a7] 55 (0, 0)) := heap_set v4 h4
  have h6 : ((((((w.setCell ⟨b, 0, none⟩ v0).setCell ⟨b, 1, none⟩ v1).setCell ⟨b, 2, none⟩ v2).setCell ⟨b, 3, none⟩ v3).setCell ⟨b, 4, none⟩ v4).setCell ⟨b, 5, none⟩ v5).heap[b]? = some (.cells #[v0, v1, v2, v3, v4, v5, a6, a7] 55 (0, 0)) := heap_set v5 h5
  have h7 : (((((((w.setCell ⟨b, 0, none⟩ v0).setCell ⟨b, 1, none⟩ v1).setCell ⟨b, 2, none⟩ v2).setCell ⟨b, 3, none⟩ v3).setCell ⟨b, 4, none⟩ v4).setCell ⟨b, 5, none⟩ v5).setCell ⟨b, 6, none⟩ v6).heap[b]? = some (.cells #[v0, v1, v2, v3, v4, v5, v6, a7] 55 (0, 0)) := heap_set v6 h6
  have h8 : ((((((((w.setCell ⟨b, 0, none⟩ v0).setCell ⟨b, 1, none⟩ v1).setCell ⟨b, 2, none⟩ v2).setCell ⟨b, 3, none⟩ v3).setCell ⟨b, 4, none⟩ v4).setCell ⟨b, 5, none⟩ v5).setCell ⟨b, 6, none⟩ v6).setCell ⟨b, 7, none⟩ v7).heap[b]? = some (.cells #[v0, v1, v2, v3, v4, v5, v6, v7] 55 (0, 0)) := heap_set v7 h7
  exact h8
theorem belowput8 {B : Nat} {w v : World} {b : Nat} (h : Below B w v) (hb : B ≤ b) (v0 v1 v2 v3 v4 v5 v6 v7 : Value) : Below B w ((((((((v.setCell ⟨b, 0, none⟩ v0).setCell ⟨b, 1, none⟩ v1).setCell ⟨b, 2, none⟩ v2).setCell ⟨b, 3, none⟩ v3).setCell ⟨b, 4, none⟩ v4).setCell ⟨b, 5, none⟩ v5).setCell ⟨b, 6, none⟩ v6).setCell ⟨b, 7, none⟩ v7) := (((((((h.setCell (p := ⟨b, 0, none⟩) hb v0).setCell (p := ⟨b, 1, none⟩) hb v1).setCell (p := ⟨b, 2, none⟩) hb v2).setCell (p := ⟨b, 3, none⟩) hb v3).setCell (p := ⟨b, 4, none⟩) hb v4).setCell (p := ⟨b, 5, none⟩) hb v5).setCell (p := ⟨b, 6, none⟩) hb v6).setCell (p := ⟨b, 7, none⟩) hb v7
theorem fin8 {U : World} {b : Nat} {a0 a1 a2 a3 a4 a5 a6 a7 : Value} (h : U.heap[b]? = some (.cells #[a0, a1, a2, a3, a4, a5, a6, a7] 55 (0, 0))) (v0 v1 v2 v3 v4 v5 v6 v7 : Value) :
    ∃ Y, ((((((((U.setCell ⟨b, 0, none⟩ v0).setCell ⟨b, 1, none⟩ v1).setCell ⟨b, 2, none⟩ v2).setCell ⟨b, 3, none⟩ v3).setCell ⟨b, 4, none⟩ v4).setCell ⟨b, 5, none⟩ v5).setCell ⟨b, 6, none⟩ v6).setCell ⟨b, 7, none⟩ v7) = Y ∧ Y.heap[b]? = some (.cells #[v0, v1, v2, v3, v4, v5, v6, v7] 55 (0, 0)) ∧ Y.heap.size = U.heap.size ∧ (∀ k, k ≠ b → Y.heap[k]? = U.heap[k]?) ∧ (∀ (B : Nat) (w : World), Below B w U → B ≤ b → Below B w Y) := by
  refine ⟨_, rfl, put8 h _ _ _ _ _ _ _ _, ?_, fun k hk => ?_, fun B w hB hb => belowput8 hB hb _ _ _ _ _ _ _ _⟩
  · simp [World.setCell]
  · refine (Below.heap_setCell _ _ _ _ (show k ≠ b from hk)).trans ?_; refine (Below.heap_setCell _ _ _ _ (show k ≠ b from hk)).trans ?_; refine (Below.heap_setCell _ _ _ _ (show k ≠ b from hk)).trans ?_; refine (Below.heap_setCell _ _ _ _ (show k ≠ b from hk)).trans ?_; refine (Below.heap_setCell _ _ _ _ (show k ≠ b from hk)).trans ?_; refine (Below.heap_setCell _ _ _ _ (show k ≠ b from hk)).trans ?_; refine (Below.heap_setCell _ _ _ _ (show k ≠ b from hk)).trans ?_; exact Below.heap_setCell _ _ _ _ (show k ≠ b from hk)
theorem size_kid {h : Hd} {a : Option Addr} {c : Nat} {ks : List Nd} {k : Nd} (hk : k ∈ ks) : size k ≤ size (.mk h a c ks) := by
  have := size_mem hk
  simp only [size]; omega
/-- A list that has been turned, as a node's kids. -/
theorem Trn.nd {W wr : World} {v : Value} {ks L : List Nd} {g : Hd} {a : Option Addr} {c : Nat} (h : Trn W wr v ks L ks.length) (hr : Rg g) : ∃ a' c', v = .slice a' L.length c' ∧ Lies wr (.mk { g with p := 0 } a' c' L) ∧ Bare (.mk g a c ks) (.mk { g with p := 0 } a' c' L) ∧ Bk (fun b => W.heap.size ≤ b ∧ b < wr.heap.size) (.mk { g with p := 0 } a' c' L) := by
  have hr' : Rg { g with p := 0 } := ⟨hr.k0, hr.k1, hr.o0, hr.o1, hr.t0, hr.t1, hr.n0, hr.n1, hr.f0, hr.f1, by show (-9223372036854775808 : Int) ≤ 0; decide, by show (0 : Int) ≤ 9223372036854775807; decide, hr.x1⟩
  rcases h.r.row.lies with ⟨rfl, e⟩ | ⟨b, cap, rfl, hc1, hc2, hat⟩
  · subst e
    exact ⟨none, 0, rfl, .mk _ _ _ _ hr' (Nat.le_refl _) (by decide) (fun i hi => by simp at hi) (fun k hk => by cases hk), .mk _ _ _ _ _ _ _ h.l (fun i h1 h2 => by simp at h2), .mk _ _ _ _ (fun x e => by cases e) (fun k hk => by cases hk)⟩
  · refine ⟨_, cap, rfl, .mk _ _ _ _ hr' hc1 hc2 (fun i hi => ⟨b, 0, rfl, by rw [← ldF_get hi]; exact hat i hi⟩) (fun k hk => (h.y k hk).1), .mk _ _ _ _ _ _ _ h.l (fun i h1 h2 => h.b i h1 h2), .mk _ _ _ _ (fun x e => ?_) (fun k hk => (h.y k hk).2.mono fun b hp => ⟨hp.1, hp.2.1⟩)⟩
    cases e
    exact ⟨h.r.nb b rfl, h.r.row.lt b rfl⟩
set_option maxRecDepth 100000 in
set_option maxHeartbeats 4000000 in
theorem bare_any : ∀ (m : Nd) (w : World), Lies w m → size m ≤ 900000000 → Calls Tryz.prog 25 #[.agg m.vals] w (Bared m w) := by
  refine Nd.ind fun h a c ks ih w hl hz => ?_
  have hn : ks.length ≤ 900000000 := by have := len_sizes ks; simp only [size] at hz; omega
  obtain ⟨W, eW⟩ : ∃ W, (w.alloc (.cells (Nd.mk h a c ks).vals 55)).alloc (.cells #[.int .u8 0, .int .u8 0, .int .u8 0, .int .i64 0, .int .u8 0, .string ⟨#[]⟩, .slice none 0 0, .int .i64 0] 55) = W := ⟨_, rfl⟩
  have hbW : Below w.heap.size w W := by rw [← eW]; exact below_two _ _ _
  have cE := each_any ks a c h hn (fun k hk v hv => ih k hk v hv (Nat.le_trans (size_kid hk) hz)) W (hl.on hbW)
  have h0 : NdH W w.heap.size (.mk h a c ks) := by rw [← eW]; exact heap_old (heap_new _ _) (by rw [size_alloc]; omega)
  have h1 : W.heap[w.heap.size + 1]? = some (.cells #[.int .u8 0, .int .u8 0, .int .u8 0, .int .i64 0, .int .u8 0, .string ⟨#[]⟩, .slice none 0 0, .int .i64 0] 55 (0, 0)) := by
    rw [← eW, ← size_alloc w (.cells (Nd.mk h a c ks).vals 55)]; exact heap_new _ _
  have HBW : Hid (Below w.heap.size w W) := hbW
  have HRg : Hid (Rg h) := hl.rg
  have HWS : Hid (W.heap.size = w.heap.size + 2) := by show _ = _; rw [← eW, size_alloc, size_alloc]
  have H0 := h0.hid
  have H1 : Hid (W.heap[w.heap.size + 1]? = some (.cells #[.int .u8 0, .int .u8 0, .int .u8 0, .int .i64 0, .int .u8 0, .string ⟨#[]⟩, .slice none 0 0, .int .i64 0] 55 (0, 0))) := h1
  obtain ⟨y0, y1, y2, y3, y4, y5, y6, y7⟩ : W.cell? ⟨w.heap.size, 0, none⟩ = some (.int .u8 h.k) ∧ W.cell? ⟨w.heap.size, 1, none⟩ = some (.int .u8 h.o) ∧ W.cell? ⟨w.heap.size, 2, none⟩ = some (.int .u8 h.t) ∧ W.cell? ⟨w.heap.size, 3, none⟩ = some (.int .i64 h.n) ∧ W.cell? ⟨w.heap.size, 4, none⟩ = some (.int .u8 h.f) ∧ W.cell? ⟨w.heap.size, 5, none⟩ = some (.string h.x) ∧ W.cell? ⟨w.heap.size, 6, none⟩ = some (.slice a ks.length c) ∧ W.cell? ⟨w.heap.size, 7, none⟩ = some (.int .i64 h.p) := h0.eight
  clear ih hl hz hn hbW h0 h1
  unfold Nd.vals hdA at eW
  show Calls Tryz.prog 25 #[.agg #[.int .u8 h.k, .int .u8 h.o, .int .u8 h.t, .int .i64 h.n, .int .u8 h.f, .string h.x, .slice a ks.length c, .int .i64 h.p]] w _
  simp only [Nd.h, Nd.a, Nd.c, Nd.ks] at eW
  go_enter Tryz.func25, Tryz.ntmps25
  go_wp2_with fail
  clear eW
  refine cE.mono ?_
  rintro e w1 ⟨v, L, rfl, hT⟩
  have hb1 : Below W.heap.size W w1 := hT.r.B
  obtain ⟨a', c', rfl, hL1, hL2, hL3⟩ := hT.nd (g := h) (a := a) (c := c) HRg.out
  have g0 : NdH w1 w.heap.size (.mk h a c ks) := H0.out.on hb1
  have g1 := (hb1.block (w.heap.size + 1) (Array.getElem?_eq_some_iff.1 H1.out).1).trans H1.out
  have HG0 := g0.hid
  have HG1 : Hid (w1.heap[w.heap.size + 1]? = some (.cells #[.int .u8 0, .int .u8 0, .int .u8 0, .int .i64 0, .int .u8 0, .string ⟨#[]⟩, .slice none 0 0, .int .i64 0] 55 (0, 0))) := g1
  obtain ⟨z0, z1, z2, z3, z4, z5, z6, z7⟩ : w1.cell? ⟨w.heap.size, 0, none⟩ = some (.int .u8 h.k) ∧ w1.cell? ⟨w.heap.size, 1, none⟩ = some (.int .u8 h.o) ∧ w1.cell? ⟨w.heap.size, 2, none⟩ = some (.int .u8 h.t) ∧ w1.cell? ⟨w.heap.size, 3, none⟩ = some (.int .i64 h.n) ∧ w1.cell? ⟨w.heap.size, 4, none⟩ = some (.int .u8 h.f) ∧ w1.cell? ⟨w.heap.size, 5, none⟩ = some (.string h.x) ∧ w1.cell? ⟨w.heap.size, 6, none⟩ = some (.slice a ks.length c) ∧ w1.cell? ⟨w.heap.size, 7, none⟩ = some (.int .i64 h.p) := g0.eight
  obtain ⟨U, eU⟩ : ∃ U, (w1.setCell ⟨w.heap.size, 6, none⟩ (.slice a' L.length c')).setCell ⟨w.heap.size, 7, none⟩ (.int .i64 0) = U := ⟨_, rfl⟩
  have u0 : NdH U w.heap.size (.mk { h with p := 0 } a' c' L) := by rw [← eU]; exact heap_set _ (heap_set _ g0)
  have u1 : U.heap[w.heap.size + 1]? = some (.cells #[.int .u8 0, .int .u8 0, .int .u8 0, .int .i64 0, .int .u8 0, .string ⟨#[]⟩, .slice none 0 0, .int .i64 0] 55 (0, 0)) := by
    rw [← eU]; exact (Below.heap_setCell _ _ _ _ (by simp)).trans ((Below.heap_setCell _ _ _ _ (by simp)).trans g1)
  have f6 : w1.frozen? ⟨w.heap.size, 6, none⟩ = false := frozen_of g0 6
  have f7 : w1.frozen? ⟨w.heap.size, 7, none⟩ = false := frozen_of g0 7
  have HU1 : Hid (U.heap[w.heap.size + 1]? = some (.cells #[.int .u8 0, .int .u8 0, .int .u8 0, .int .i64 0, .int .u8 0, .string ⟨#[]⟩, .slice none 0 0, .int .i64 0] 55 (0, 0))) := u1
  obtain ⟨q0, q1, q2, q3, q4, q5, q6, q7⟩ : U.cell? ⟨w.heap.size, 0, none⟩ = some (.int .u8 h.k) ∧ U.cell? ⟨w.heap.size, 1, none⟩ = some (.int .u8 h.o) ∧ U.cell? ⟨w.heap.size, 2, none⟩ = some (.int .u8 h.t) ∧ U.cell? ⟨w.heap.size, 3, none⟩ = some (.int .i64 h.n) ∧ U.cell? ⟨w.heap.size, 4, none⟩ = some (.int .u8 h.f) ∧ U.cell? ⟨w.heap.size, 5, none⟩ = some (.string h.x) ∧ U.cell? ⟨w.heap.size, 6, none⟩ = some (.slice a' L.length c') ∧ U.cell? ⟨w.heap.size, 7, none⟩ = some (.int .i64 0) := u0.eight
  have p0 : U.cell? ⟨w.heap.size + 1, 0, none⟩ = some (.int .u8 0) := cell_of u1 0
  have p1 : U.cell? ⟨w.heap.size + 1, 1, none⟩ = some (.int .u8 0) := cell_of u1 1
  have p2 : U.cell? ⟨w.heap.size + 1, 2, none⟩ = some (.int .u8 0) := cell_of u1 2
  have p3 : U.cell? ⟨w.heap.size + 1, 3, none⟩ = some (.int .i64 0) := cell_of u1 3
  have p4 : U.cell? ⟨w.heap.size + 1, 4, none⟩ = some (.int .u8 0) := cell_of u1 4
  have p5 : U.cell? ⟨w.heap.size + 1, 5, none⟩ = some (.string ⟨#[]⟩) := cell_of u1 5
  have p6 : U.cell? ⟨w.heap.size + 1, 6, none⟩ = some (.slice none 0 0) := cell_of u1 6
  have p7 : U.cell? ⟨w.heap.size + 1, 7, none⟩ = some (.int .i64 0) := cell_of u1 7
  have r0 : U.frozen? ⟨w.heap.size + 1, 0, none⟩ = false := frozen_of u1 0
  have r1 : U.frozen? ⟨w.heap.size + 1, 1, none⟩ = false := frozen_of u1 1
  have r2 : U.frozen? ⟨w.heap.size + 1, 2, none⟩ = false := frozen_of u1 2
  have r3 : U.frozen? ⟨w.heap.size + 1, 3, none⟩ = false := frozen_of u1 3
  have r4 : U.frozen? ⟨w.heap.size + 1, 4, none⟩ = false := frozen_of u1 4
  have r5 : U.frozen? ⟨w.heap.size + 1, 5, none⟩ = false := frozen_of u1 5
  have r6 : U.frozen? ⟨w.heap.size + 1, 6, none⟩ = false := frozen_of u1 6
  have r7 : U.frozen? ⟨w.heap.size + 1, 7, none⟩ = false := frozen_of u1 7
  have HBU : Hid (Below w.heap.size w U) := by
    show Below _ _ _
    rw [← eU]; exact ((below2 HBW.out hb1).setCell (p := ⟨w.heap.size, 6, none⟩) (Nat.le_refl _) _).setCell (p := ⟨w.heap.size, 7, none⟩) (Nat.le_refl _) _
  have hWs : W.heap.size = w.heap.size + 2 := HWS.out
  have HLU : Hid (Lies U (.mk { h with p := 0 } a' c' L)) := by
    refine hL1.bk (P := fun b => W.heap.size ≤ b ∧ b < w1.heap.size) (fun b _ hp => ?_) hL3
    rw [← eU]; exact (Below.heap_setCell _ _ _ _ (by show b ≠ w.heap.size; omega)).trans (Below.heap_setCell _ _ _ _ (by show b ≠ w.heap.size; omega))
  have HL2 : Hid (Bare (.mk h a c ks) (.mk { h with p := 0 } a' c' L)) := hL2
  have HUs : Hid (U.heap.size = w1.heap.size) := by show _ = _; rw [← eU]; simp [World.setCell]
  have HL3 : Hid (Bk (fun b => W.heap.size ≤ b ∧ b < w1.heap.size) (.mk { h with p := 0 } a' c' L)) := hL3
  have HEU : Hid ((w1.setCell ⟨w.heap.size, 6, none⟩ (.slice a' L.length c')).setCell ⟨w.heap.size, 7, none⟩ (.int .i64 0) = U) := eU
  clear hL1 hL2 hL3 hT hb1 g0 g1 u0 u1 cE y0 y1 y2 y3 y4 y5 y6 y7 eU
  obtain ⟨Y, eY, hY1, hY2, hY3, hY4⟩ := fin8 HU1.out (.int .u8 h.k) (.int .u8 h.o) (.int .u8 h.t) (.int .i64 h.n) (.int .u8 h.f) (.string h.x) (.slice a' L.length c') (.int .i64 0)
  have HY : Hid (Lies Y (.mk { h with p := 0 } a' c' L) ∧ Bk (fun b => w.heap.size ≤ b ∧ b < Y.heap.size) (.mk { h with p := 0 } a' c' L) ∧ Below w.heap.size w Y) := by
    refine ⟨HLU.out.bk (P := fun b => W.heap.size ≤ b ∧ b < w1.heap.size) (fun b _ hp => hY3 b (by omega)) HL3.out, HL3.out.mono fun b hp => ⟨by omega, by rw [hY2, HUs.out]; exact hp.2⟩, hY4 _ _ HBU.out (by omega)⟩
  have HY1 : Hid (Y.heap[w.heap.size + 1]? = some (.cells (Nd.mk { h with p := 0 } a' c' L).vals 55 (0, 0))) := hY1
  have HEY : Hid ((((((((U.setCell ⟨w.heap.size + 1, 0, none⟩ (.int .u8 h.k)).setCell ⟨w.heap.size + 1, 1, none⟩ (.int .u8 h.o)).setCell ⟨w.heap.size + 1, 2, none⟩ (.int .u8 h.t)).setCell ⟨w.heap.size + 1, 3, none⟩ (.int .i64 h.n)).setCell ⟨w.heap.size + 1, 4, none⟩ (.int .u8 h.f)).setCell ⟨w.heap.size + 1, 5, none⟩ (.string h.x)).setCell ⟨w.heap.size + 1, 6, none⟩ (.slice a' L.length c')).setCell ⟨w.heap.size + 1, 7, none⟩ (.int .i64 0) = Y) := eY
  clear eY hY1 hY2 hY3 hY4
  go_upto_region 3 with fail
  rw [HEU.out]
  clear z0 z1 z2 z3 z4 z5 z6 z7 f6 f7
  go_wp2_with fail
  rw [HEY.out]
  exact bodyPost_ret (results_cell_row rfl _ _ (w.heap.size + 1) 55 (Nd.mk { h with p := 0 } a' c' L).vals (0, 0) _ rfl HY1.out Tryz.underlying55 rfl (by kernel_rfl)) rfl ⟨.mk { h with p := 0 } a' c' L, rfl, HY.out.1, HL2.out, HY.out.2.1, HY.out.2.2⟩
end Go.Proofs.YtighocmdlifheaaGreatDoor

/-
  CopyNode: an expression in memory of its own.
-/
namespace Go.Proofs.YtighocmdlifheaaGreatDoor
open Go.RowKit
/-- The same expression, wherever its kids lie. -/
inductive Twin : Nd → Nd → Prop
  | mk (h : Hd) (a a' : Option Addr) (c c' : Nat) (ks ks' : List Nd) (hl : ks'.length = ks.length) (hk : ∀ i (h1 : i < ks.length) (h2 : i < ks'.length), Twin ks[i] ks'[i]) : Twin (.mk h a c ks) (.mk h a' c' ks')
/-- Each node's kids lie in a block of their own, one of P's. -/
inductive Sp : Nd → (Nat → Prop) → Prop
  | mk (h : Hd) (a : Option Addr) (c : Nat) (ks : List Nd) (P : Nat → Prop) (Q : Nat → Nat → Prop) (ha : ∀ x, a = some x → P x.block ∧ x.off = 0 ∧ x.spot = none ∧ ∀ i, ¬ Q i x.block)
      (hs : ∀ i (hi : i < ks.length), Sp ks[i] (Q i)) (hd : ∀ i j b, Q i b → Q j b → i = j) (hQ : ∀ i b, Q i b → P b) : Sp (.mk h a c ks) P
theorem Sp.mono {P P' : Nat → Prop} (hP : ∀ b, P b → P' b) : ∀ {m : Nd}, Sp m P → Sp m P' := by
  intro m h
  cases h with
  | mk h a c ks P Q ha hs hd hQ => exact .mk h a c ks P' Q (fun x e => ⟨hP _ (ha x e).1, (ha x e).2⟩) hs hd (fun i b hq => hP b (hQ i b hq))
theorem Sp.bk {m : Nd} : ∀ {P : Nat → Prop}, Sp m P → Bk P m := by
  refine Nd.ind (P := fun m => ∀ {P : Nat → Prop}, Sp m P → Bk P m) (fun h a c ks ih P hS => ?_) m
  cases hS with
  | mk _ _ _ _ _ Q ha hs hd hQ =>
    refine .mk h a c ks (fun x e => (ha x e).1) (fun k hk => ?_)
    obtain ⟨i, hi, rfl⟩ := List.getElem_of_mem hk
    exact (ih _ hk (hs i hi)).mono fun b hb => hQ i b hb
/-- Each node's kids lie in a row of the call's own. -/
inductive OwnT (w : World) : Nd → Prop
  | mk (h : Hd) (a : Option Addr) (c : Nat) (ks : List Nd) (hr : RowN w (.slice a ks.length c) ks) (hs : ∀ k ∈ ks, OwnT w k) : OwnT w (.mk h a c ks)
theorem OwnT.bk {P : Nat → Prop} {w w' : World} (k : ∀ b, b < w.heap.size → P b → w'.heap[b]? = w.heap[b]?) : ∀ {m : Nd}, OwnT w m → Bk P m → OwnT w' m := by
  intro m hl
  induction hl with
  | mk h a c ks hr _ ih =>
    intro hB
    cases hB with
    | mk _ _ _ _ hb hs =>
      refine .mk h a c ks (Row.of_block hr fun g hg => k g (Row.lt hr g hg) ?_) (fun x hx => ih x hx (hs x hx))
      cases a with
      | none => simp [Value.ownBlock] at hg
      | some x => simp [Value.ownBlock] at hg; rw [← hg]; exact hb x rfl
theorem OwnT.on {w w' : World} {m : Nd} (h : OwnT w m) (k : Below w.heap.size w w') : OwnT w' m := by
  induction h with
  | mk h a c ks hr _ ih => exact .mk h a c ks (Row.of_block hr fun g hg => k.block g (Row.lt hr g hg)) ih
/-- What CopyNode hands back. -/
def Copied (m : Nd) (w : World) (e : Ending) (w' : World) : Prop := ∃ m', e = .returned (.agg m'.vals) ∧ Lies w' m' ∧ Twin m m' ∧ Sp m' (fun b => w.heap.size ≤ b ∧ b < w'.heap.size) ∧ OwnT w' m' ∧ Below w.heap.size w w'
/-- So many have been copied. -/
structure Cpd (W wr : World) (v : Value) (ks L : List Nd) (i : Nat) (Q : Nat → Nat → Prop) : Prop where
  l : L.length = i
  r : RN W wr v L
  b : ∀ j (h1 : j < ks.length) (h2 : j < L.length), Twin ks[j] L[j]
  y : ∀ j (h : j < L.length), Lies wr L[j] ∧ Sp L[j] (Q j) ∧ OwnT wr L[j]
  q : ∀ j b, Q j b → W.heap.size ≤ b ∧ b < wr.heap.size ∧ v.ownBlock ≠ some b
  d : ∀ i j b, Q i b → Q j b → i = j
  z : ∀ j b, L.length ≤ j → ¬ Q j b
theorem Cpd.hid {W wr : World} {v : Value} {ks L : List Nd} {i : Nat} {Q : Nat → Nat → Prop} (h : Cpd W wr v ks L i Q) : Hid (Cpd W wr v ks L i Q) := h
/-- One more. -/
theorem Cpd.snoc {W wr w1 w2 : World} {v v' : Value} {ks L : List Nd} {i : Nat} {k' : Nd} {Q : Nat → Nat → Prop} (h : Cpd W wr v ks L i Q) (hi : i < ks.length) (hb1 : Below wr.heap.size wr w1) (hk1 : Lies w1 k') (hk2 : Twin ks[i] k') (hk3 : Sp k' (fun b => wr.heap.size ≤ b ∧ b < w1.heap.size)) (hk4 : OwnT w1 k')
    (hr : RN W w2 v' (L ++ [k'])) (hs : w1.heap.size ≤ w2.heap.size) (hk : ∀ b, b < w1.heap.size → v.ownBlock ≠ some b → w2.heap[b]? = w1.heap[b]?) (hq : v'.ownBlock = v.ownBlock ∨ ∃ g, v'.ownBlock = some g ∧ w1.heap.size < g) :
    Cpd W w2 v' ks (L ++ [k']) (i + 1) (fun j b => Q j b ∨ (j = i ∧ wr.heap.size ≤ b ∧ b < w1.heap.size)) := by
  have hW := h.r.B.size
  have hS1 := hb1.size
  have hne : ∀ b, b < w1.heap.size → v.ownBlock ≠ some b → v'.ownBlock ≠ some b := fun b hb hn e => by
    rcases hq with e1 | ⟨g, e1, hg⟩
    · exact hn (e1.symm.trans e)
    · rw [e1] at e; cases e; omega
  have hv : ∀ b, wr.heap.size ≤ b → v.ownBlock ≠ some b := fun b hb e => by have := h.r.row.lt b e; omega
  have hli := h.l
  refine ⟨by rw [List.length_append, h.l]; rfl, hr, fun j h1 h2 => ?_, fun j hj => ?_, fun j b hb => ?_, fun a c b h1 h2 => ?_, fun j b hj hb => ?_⟩
  · by_cases hj : j < L.length
    · rw [List.getElem_append_left hj]; exact h.b j h1 hj
    · have e : j = L.length := by rw [List.length_append] at h2; simp at h2; omega
      subst e
      rw [List.getElem_append_right (by omega)]
      simp only [Nat.sub_self, List.getElem_singleton]
      have e3 : ks[L.length] = ks[i] := by congr 1
      rw [e3]; exact hk2
  · by_cases hj' : j < L.length
    · rw [List.getElem_append_left hj']
      obtain ⟨y1, y2, y4⟩ := h.y j hj'
      have y3 : Lies w1 L[j] := y1.on hb1
      refine ⟨y3.bk (fun b hb hp => hk b hb (h.q j b hp).2.2) y2.bk, y2.mono fun b hp => .inl hp, (y4.on hb1).bk (fun b hb hp => hk b hb (h.q j b hp).2.2) y2.bk⟩
    · have e : j = L.length := by rw [List.length_append] at hj; simp at hj; omega
      subst e
      rw [List.getElem_append_right (by omega)]
      simp only [Nat.sub_self, List.getElem_singleton]
      exact ⟨hk1.bk (fun b hb hp => hk b hb (hv b hp.1)) hk3.bk, hk3.mono fun b hp => .inr ⟨hli, hp⟩, hk4.bk (fun b hb hp => hk b hb (hv b hp.1)) hk3.bk⟩
  · rcases hb with hb | ⟨_, hb⟩
    · obtain ⟨q1, q2, q3⟩ := h.q j b hb
      exact ⟨q1, by omega, hne b (by omega) q3⟩
    · exact ⟨by omega, by omega, hne b hb.2 (hv b hb.1)⟩
  · rcases h1 with h1 | ⟨e1, h1⟩ <;> rcases h2 with h2 | ⟨e2, h2⟩
    · exact h.d a c b h1 h2
    · have := (h.q a b h1).2.1; omega
    · have := (h.q c b h2).2.1; omega
    · omega
  · rw [List.length_append] at hj
    simp at hj
    rcases hb with hb | ⟨e, _⟩
    · exact h.z j b (by omega) hb
    · omega
/-- A list that has been copied, as a node's kids. -/
theorem Cpd.nd {W wr : World} {v : Value} {ks L : List Nd} {g : Hd} {a : Option Addr} {c : Nat} {Q : Nat → Nat → Prop} (h : Cpd W wr v ks L ks.length Q) (hr : Rg g) : ∃ a' c', v = .slice a' L.length c' ∧ Lies wr (.mk g a' c' L) ∧ Twin (.mk g a c ks) (.mk g a' c' L) ∧ Sp (.mk g a' c' L) (fun b => W.heap.size ≤ b ∧ b < wr.heap.size) ∧ OwnT wr (.mk g a' c' L) := by
  have hown : ∀ k ∈ L, OwnT wr k := fun k hk => by
    obtain ⟨i, hi, rfl⟩ := List.getElem_of_mem hk
    exact (h.y i hi).2.2
  have hrow := h.r.row
  have hlies : ∀ k ∈ L, Lies wr k := fun k hk => by
    obtain ⟨i, hi, rfl⟩ := List.getElem_of_mem hk
    exact (h.y i hi).1
  rcases h.r.row.lies with ⟨rfl, e⟩ | ⟨b, cap, rfl, hc1, hc2, hat⟩
  · subst e
    exact ⟨none, 0, rfl, .mk _ _ _ _ hr (Nat.le_refl _) (by decide) (fun i hi => by simp at hi) (fun k hk => by cases hk), .mk _ _ _ _ _ _ _ h.l (fun i h1 h2 => by simp at h2), .mk _ _ _ _ _ Q (fun x e => by cases e) (fun i hi => by simp at hi) h.d (fun i b hb => ⟨(h.q i b hb).1, (h.q i b hb).2.1⟩), .mk _ _ _ _ hrow hown⟩
  · refine ⟨_, cap, rfl, .mk _ _ _ _ hr hc1 hc2 (fun i hi => ⟨b, 0, rfl, by rw [← ldF_get hi]; exact hat i hi⟩) hlies, .mk _ _ _ _ _ _ _ h.l (fun i h1 h2 => h.b i h1 h2), .mk _ _ _ _ _ Q (fun x e => ?_) (fun i hi => (h.y i hi).2.1) h.d (fun i b hb => ⟨(h.q i b hb).1, (h.q i b hb).2.1⟩), .mk _ _ _ _ hrow hown⟩
    cases e
    exact ⟨⟨h.r.nb b rfl, h.r.row.lt b rfl⟩, rfl, rfl, fun i hq => (h.q i b hq).2.2 rfl⟩
end Go.Proofs.YtighocmdlifheaaGreatDoor
