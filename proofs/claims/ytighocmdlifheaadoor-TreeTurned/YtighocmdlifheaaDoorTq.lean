/-
  A way into an expression of the call's own, down to the node that is turned.
-/
import Derived.Test.YtighocmdlifheaaDoorCq
import Derived.Test.YtighocmdlifheaaDoorWg
namespace Go.Proofs.YtighocmdlifheaaDoor
open Go.RowKit
/-- Two worlds differ at eight cells, and in P's blocks, alone. -/
structure Dif (W W' : World) (b o : Nat) (P : Nat → Prop) : Prop where
  s : W.heap.size ≤ W'.heap.size
  k : ∀ c, c < W.heap.size → c ≠ b → ¬ P c → W'.heap[c]? = W.heap[c]?
  c : ∀ i, ¬ (o ≤ i ∧ i < o + 8) → W'.cell? ⟨b, i, none⟩ = W.cell? ⟨b, i, none⟩
theorem NdAt.same {w w' : World} {b o : Nat} {m : Nd} (h : NdAt w b o m) (k : ∀ i, o ≤ i → i < o + 8 → w'.cell? ⟨b, i, none⟩ = w.cell? ⟨b, i, none⟩) : NdAt w' b o m :=
  ⟨(k _ (by omega) (by omega)).trans h.c0, (k _ (by omega) (by omega)).trans h.c1, (k _ (by omega) (by omega)).trans h.c2, (k _ (by omega) (by omega)).trans h.c3, (k _ (by omega) (by omega)).trans h.c4, (k _ (by omega) (by omega)).trans h.c5, (k _ (by omega) (by omega)).trans h.c6, (k _ (by omega) (by omega)).trans h.c7⟩
theorem NdAt.kids {w : World} {b o : Nat} {h : Hd} {a : Option Addr} {c : Nat} {ks ks' : List Nd} (n : NdAt w b o (.mk h a c ks)) (e : ks'.length = ks.length) : NdAt w b o (.mk h a c ks') :=
  ⟨n.c0, n.c1, n.c2, n.c3, n.c4, n.c5, by have := n.c6; simp only [Nd.a, Nd.ks, Nd.c] at this ⊢; rw [e]; exact this, n.c7⟩
theorem Lies.cells {P : Nat → Prop} {w w' : World} (k : ∀ b, b < w.heap.size → P b → w'.heap[b]? = w.heap[b]?) {m : Nd} (h : Lies w m) (hb : Bk P m) : Lies w' m := h.bk k hb
theorem samesB_false : ∀ (js ks : List Nd) (i : Nat) (h1 : i < js.length) (h2 : i < ks.length), sameB js[i] ks[i] = false → samesB js ks = false := by
  intro js
  induction js with
  | nil => intro ks i h1; simp at h1
  | cons j js ih =>
    intro ks i h1 h2 h
    cases ks with
    | nil => simp at h2
    | cons k ks =>
      simp only [samesB]
      cases i with
      | zero => simp at h; rw [h]; rfl
      | succ i =>
        rw [ih ks i (by simpa using h1) (by simpa using h2) (by simpa using h)]
        simp
theorem sameB_kid {m k : Nd} {i : Nat} (h1 : i < m.ks.length) (h2 : i < k.ks.length) (h : sameB m.ks[i] k.ks[i] = false) : sameB m k = false := by
  cases m with
  | mk g a c js =>
    simp only [sameB]
    rw [samesB_false js k.ks i h1 h2 h]
    simp
theorem wt_mem {ks : List Nd} {k : Nd} (hk : k ∈ ks) : wt k ≤ wts ks := by
  induction ks with
  | nil => cases hk
  | cons x ks ih =>
    simp only [wts]
    rcases List.mem_cons.1 hk with e | e
    · rw [e]; omega
    · have := ih e; omega
theorem wt_kid {h : Hd} {a : Option Addr} {c : Nat} {ks : List Nd} {k : Nd} (hk : k ∈ ks) : wt k ≤ wt (.mk h a c ks) := by
  have := wt_mem hk
  simp only [wt]; omega
theorem wt_x (m : Nd) : m.h.x.size ≤ wt m := by
  cases m with
  | mk h a c ks =>
    show h.x.size ≤ wt (.mk h a c ks)
    simp only [wt]; omega
/-- A node in an expression of the call's own: what becomes of the whole if it is turned. -/
structure Hole (w0 W : World) (n : Nd) (Bx b o : Nat) (q nq : Nd) (P : Nat → Prop) : Prop where
  at' : NdAt W b o q
  li : Lies W q
  ow : OwnT W q
  sp : Sp q P
  nb : ¬ P b
  tw : Twin nq q
  fz : ∀ i, W.frozen? ⟨b, i, none⟩ = false
  lo : w0.heap.size ≤ b
  lp : ∀ c, P c → w0.heap.size ≤ c
  B : Below w0.heap.size w0 W
  wn : wt nq ≤ 1048576
  cl : ∀ W' q', Dif W W' b o P → NdAt W' b o q' → Lies W' q' → ∃ x', NdAt W' Bx 0 x' ∧ Lies W' x' ∧ (sameB nq q' = false → sameB n x' = false) ∧ (sameB q' nq = false → sameB x' n = false)
theorem cell_heap {w w' : World} (h : w'.heap = w.heap) (a : Addr) : w'.cell? a = w.cell? a := by unfold World.cell?; rw [h]
theorem frozen_heap {w w' : World} (h : w'.heap = w.heap) (a : Addr) : w'.frozen? a = w.frozen? a := by unfold World.frozen?; rw [h]
theorem Hole.heap {w0 W W2 : World} {n : Nd} {Bx b o : Nat} {q nq : Nd} {P : Nat → Prop} (h : Hole w0 W n Bx b o q nq P) (e : W2.heap = W.heap) (hB : Below w0.heap.size w0 W2) : Hole w0 W2 n Bx b o q nq P := by
  have eb : ∀ c : Nat, W2.heap[c]? = W.heap[c]? := fun c => by rw [e]
  refine ⟨h.at'.blk (eb b), h.li.blk (fun c _ => eb c), h.ow.bk (P := P) (fun c _ _ => eb c) h.sp.bk, h.sp, h.nb, h.tw, fun i => (frozen_heap e _).trans (h.fz i), h.lo, h.lp, hB, h.wn, fun W' q' hd => h.cl W' q' ⟨by rw [← e]; exact hd.s, fun c h1 h2 h3 => (hd.k c (by rw [e]; exact h1) h2 h3).trans (eb c), fun i hi => (hd.c i hi).trans (cell_heap e _)⟩⟩
theorem Hole.step {w0 W : World} {n : Nd} {Bx b o : Nat} {q nq : Nd} {P : Nat → Prop} (h : Hole w0 W n Bx b o q nq P) {j : Nat} (hj : j < q.ks.length) :
    ∃ g k nk Q, q.a = some ⟨g, 0, none⟩ ∧ Hole w0 W n Bx g (j * 8) k nk Q := by
  obtain ⟨hat, hli, how, hsp, hnb, htw, hfz, hlo, hlp, hB, hwn, hcl⟩ := h
  cases hsp with
  | mk hh a c ks _ Q ha hs hd hQ =>
  cases htw with
  | mk _ a1 _ c1 _ js _ hjs htk =>
  cases how with
  | mk _ _ _ _ hrow hok =>
  have hj' : j < ks.length := hj
  obtain ⟨g, cap, hv, _, _, hkat⟩ : ∃ g cap, Value.slice a ks.length c = .slice (some ⟨g, 0, none⟩) ks.length cap ∧ ks.length ≤ cap ∧ cap ≤ 9223372036854775807 ∧ ∀ j, j < ks.length → NdAt W g (0 + j * 8) (ldF ks j) := by
    rcases hrow.lies with ⟨e1, e2⟩ | h
    · rw [e2] at hj'; simp at hj'
    · exact h
  cases hv
  obtain ⟨p1, _, _, p2⟩ := ha _ rfl
  have hbg : b ≠ g := fun e => hnb (by rw [e]; exact p1)
  have hkat' : ∀ i (hi : i < ks.length), NdAt W g (i * 8) ks[i] := fun i hi => by
    have := hkat i hi
    rw [Nat.zero_add, ldF_get hi] at this
    exact this
  have hjl : j < js.length := by omega
  refine ⟨g, ks[j], js[j], Q j, rfl, hkat' j hj', hli.sub _ (nth_mem hj'), hok _ (nth_mem hj'), hs j hj', p2 j, htk j hjl hj', fun i => Row.frozen hrow i, hlp _ p1, fun c hc => hlp _ (hQ j c hc), hB, Nat.le_trans (wt_kid (nth_mem hjl)) hwn, ?_⟩
  intro W' k' hdf hk1 hk2
  have hgW : g < W.heap.size := (hkat' j hj').lt
  have hbW : b < W.heap.size := hat.lt
  have eb : W'.heap[b]? = W.heap[b]? := hdf.k b hbW hbg (fun hq => hnb (hQ j b hq))
  obtain ⟨x', g1, g2, g3, g4⟩ := hcl W' (.mk hh (some ⟨g, 0, none⟩) c (ks.set j k')) ⟨hdf.s, fun d h1 h2 h3 => hdf.k d h1 (fun e => h3 (by rw [e]; exact p1)) (fun hq => h3 (hQ j d hq)), fun i _ => World.cell?_of_block eb⟩
    ((hat.blk eb).kids (by simp)) (by
      have hl0 := hli
      cases hli with
      | mk _ _ _ _ hr hc hm hkk hss =>
      refine .mk _ _ _ _ hr (by simpa using hc) hm (fun i hi => ⟨g, 0, rfl, ?_⟩) (fun z hz => ?_)
      · have hi' : i < ks.length := by simpa using hi
        by_cases e : i = j
        · subst e
          rw [List.getElem_set_self, Nat.zero_add]; exact hk1
        · rw [List.getElem_set_ne (fun x => e x.symm), Nat.zero_add]
          refine (hkat' i hi').same fun t h1 h2 => hdf.c t (fun hh => ?_)
          have h3 : i * 8 + 8 ≤ j * 8 ∨ j * 8 + 8 ≤ i * 8 := by omega
          omega
      · obtain ⟨i, hi, rfl⟩ := List.getElem_of_mem hz
        have hi' : i < ks.length := by simpa using hi
        by_cases e : i = j
        · subst e
          rw [List.getElem_set_self]; exact hk2
        · rw [List.getElem_set_ne (fun x => e x.symm)]
          refine (hss _ (nth_mem hi')).bk (P := Q i) (fun d h1 h2 => hdf.k d h1 (fun e2 => p2 i (by rw [← e2]; exact h2)) (fun hq => e (hd i j d h2 hq))) (hs i hi').bk)
  refine ⟨x', g1, g2, fun e => g3 ?_, fun e => g4 ?_⟩
  · exact sameB_kid (m := .mk hh a1 c1 js) (k := .mk hh (some ⟨g, 0, none⟩) c (ks.set j k')) (i := j) hjl (by simp [Nd.ks]; exact hj') (by simp only [Nd.ks]; rw [List.getElem_set_self]; exact e)
  · exact sameB_kid (k := .mk hh a1 c1 js) (m := .mk hh (some ⟨g, 0, none⟩) c (ks.set j k')) (i := j) (by simp [Nd.ks]; exact hj') hjl (by simp only [Nd.ks]; rw [List.getElem_set_self]; exact e)
end Go.Proofs.YtighocmdlifheaaDoor
