import Derived.Test.YtighocmdlifheaaDoorM5
import Derived.Laws.OwnMore
import Derived.ArgAppend
import Derived.Maps.AppendAt
import Derived.Deep.RegionWith
import Derived.Laws.IdiomStrings
import Derived.Test.YtighocmdlifheaaDoorM12
/-
  Lists that are marked, grown and looked at again: what is kept in between. (Of any elements: e their type, s their cells, le the type of a list of them.)
-/
namespace Go.Proofs.YtighocmdlifheaaDoor
open Go.RowKit

/-- One element more, in place or in a new row. -/
theorem run_app1 {P : Program} (w : World) (t ty e : TypeId) (i : TypeInfo) (z : Value) (size bytes : Nat) (ht : P.underlying t = some (.slice e)) (hi : P.info? e = some i) (hz : i.zero = some z)
    (hsize : i.size = size) (hby : i.bytes = bytes) (hzs : z.cells.size = size) (hsz : 0 < size)
    (v : Value) (n : Nat) (xs : List Value) (hown : w.ownsRow 0 e size v n xs)
    (a : Addr) (news : List Value) (hl : news.length = size) (hnews : ∀ j u, news[j]? = some u → w.cell? (a.add j) = some u) (h1 : ∀ u ∈ news, u.oneCell' = true)
    (h63 : n + 1 ≤ maxLen) (hbytes : (n + 1) * bytes ≤ 140737488355328) :
    ∃ v' w', (Builtin.append_ #[t, t] ty #[v, .slice (some a) 1 1]).run P w = .ok v' w' ∧ w'.ownsRow 0 e size v' (n + 1) (xs ++ news) ∧
      ((∃ g, v.ownBlock = some g ∧ v'.ownBlock = some g ∧ w.grownBy w' (some g)) ∨ ((∃ g, v'.ownBlock = some g ∧ w.heap.size ≤ g) ∧ w.grownBy w' none)) := by
  have hl' : news.length = 1 * size := by omega
  rcases hown.2 with ⟨rfl, rfl⟩ | ⟨g, cap, cur, rfl, hbg, hg, hnc, hcm, hcs, htake⟩
  · obtain ⟨v', w', r1, r2, r3, _, r5⟩ := run_append_own_at (P := P) w 0 t ty e i z size bytes ht hi hz hsize hby hzs hsz _ 0 xs hown a 1 1 news hl' hnews h1 h63 hbytes (Nat.zero_le _)
    refine ⟨v', w', r1, r2, .inr ⟨?_, r3⟩⟩
    rcases r5 with r5 | r5
    · exfalso
      rcases r2.2 with ⟨_, h0⟩ | ⟨g', _, _, rfl, _⟩
      · omega
      · simp [Value.ownBlock] at r5
    · exact ⟨_, r5, Nat.le_refl _⟩
  · by_cases hroom : n + 1 ≤ cap
    · obtain ⟨w', r1, r2, r3⟩ := run_append_fits (P := P) w 0 t ty e i size ht hi hsize g n cap xs hown a 1 1 news hl' hnews h1 hroom
      exact ⟨_, w', r1, r2, .inl ⟨g, rfl, rfl, r3⟩⟩
    · obtain ⟨v', w', r1, r2, r3⟩ := run_append_arg_grows (P := P) w t ty e i z size bytes ht hi hz hsize hby hzs hsz ⟨g, 0, none⟩ n cap xs hown.1 (hown.cells (g := g) rfl) a 1 1 news hl' hnews (by omega) h63 hbytes
      refine ⟨v', w', r1, ⟨r2.1, ?_⟩, .inr ⟨?_, r3⟩⟩
      · rcases r2.2 with h | ⟨g', c', cu, h1, h2, h3⟩
        · exact .inl h
        · exact .inr ⟨g', c', cu, h1, Nat.zero_le _, h3⟩
      · rcases r2.2 with ⟨_, h0⟩ | ⟨g', c', cu, rfl, h2, h3⟩
        · omega
        · exact ⟨g', rfl, h2⟩

def bks (N : Nat) (V : Nat → Value) (b : Nat) : Prop := ∃ j, j < N ∧ (V j).ownBlock = some b
/-- The lists lie apart, and apart from the list of them. -/
structure Aprt (w : World) (g N : Nat) (V : Nat → Value) : Prop where
  dis : ∀ j j', j < N → j' < N → j ≠ j' → ∀ b, (V j).ownBlock = some b → (V j').ownBlock ≠ some b
  far : ∀ j, j < N → (V j).ownBlock ≠ some g
  old : ∀ j, j < N → ∀ b, (V j).ownBlock = some b → b < w.heap.size
  gl : g < w.heap.size
theorem Aprt.hid {w : World} {g N : Nat} {V : Nat → Value} (h : Aprt w g N V) : Hid (Aprt w g N V) := h
/-- While the lists are marked. -/
structure P1 (e : TypeId) (s : Nat) (w v : World) (g N : Nat) (V : Nat → Value) (n : Nat → Nat) (C : Nat → Nat → Value) : Prop where
  row : ∀ j, j < N → Row v e s (V j) (n j) (C j)
  cell : ∀ j, j < N → v.cell? ⟨g, j, none⟩ = some (V j)
  mv : Mv w v (bks N V)
section
variable {e le : TypeId} {s K : Nat} {w v : World} {g N : Nat} {V : Nat → Value} {n : Nat → Nat} {C D M A : Nat → Nat → Value} {i : Nat} {U : Nat → Value} {lv : Value} {k : Nat} {X : Value}
theorem P1.hid (h : P1 e s w v g N V n C) : Hid (P1 e s w v g N V n C) := h
theorem P1.congr (h : P1 e s w v g N V n C) (he : ∀ j, j < N → ∀ q, q < n j * s → C j q = D j q) : P1 e s w v g N V n D :=
  ⟨fun j hj => (h.row j hj).congr (fun q hq => he j hj q hq), h.cell, h.mv⟩
theorem P1.drew (h : P1 e s w v g N V n C) : P1 e s w v.drew g N V n C := ⟨fun j hj => (h.row j hj).of_block (fun _ _ => rfl), h.cell, h.mv.drew⟩
theorem P1.put (ap : Aprt w g N V) (h : P1 e s w v g N V n C) {b c : Nat} (q : Nat) (hi : i < N) (hV : V i = .slice (some ⟨b, 0, none⟩) (n i) c) (x : Value) :
    P1 e s w (v.setCell ⟨b, q, none⟩ x) g N V n (fun j r => if j = i ∧ r = q then x else C j r) := by
  have hb : (V i).ownBlock = some b := by rw [hV]; rfl
  have hF : bks N V b := ⟨i, hi, hb⟩
  have hblk : ∀ r, r ≠ b → (v.setCell ⟨b, q, none⟩ x).heap[r]? = v.heap[r]? := fun r hr => Below.heap_setCell _ _ _ _ (by exact hr)
  refine ⟨fun j hj => ?_, fun j hj => ?_, h.mv.setCell (.inl hF) _⟩
  · by_cases e : j = i
    · subst e
      have hr := h.row j hj
      rw [hV] at hr ⊢
      exact (hr.set q x).congr fun r _ => by simp
    · refine ((h.row j hj).of_block (fun r hr => hblk r (fun e2 => ?_))).congr (fun r _ => ?_)
      · subst e2; exact ap.dis j i hj hi e r hr hb
      · simp [e]
  · rw [World.cell?_of_block (hblk g (fun e => ap.far i hi (by rw [hb, e])))]
    exact h.cell j hj
/-- What is read of a list: in its own block. -/
def Rd (v : World) (s : Nat) (V : Value) (n : Nat) (A : Nat → Value) : Prop := ∀ q, q < n * s → ∃ b c, V = .slice (some ⟨b, 0, none⟩) n c ∧ v.cell? ⟨b, q, none⟩ = some (A q)
theorem Rd.of_row {V : Value} {n : Nat} {A : Nat → Value} (h : Row v e s V n A) : Rd v s V n A := by
  intro q hq
  have hn : 0 < n := by
    rcases Nat.eq_zero_or_pos n with h0 | h0
    · rw [h0] at hq; omega
    · exact h0
  obtain ⟨ao, c, rfl, h1, _⟩ := h.form
  obtain ⟨b, rfl⟩ := h1 hn
  exact ⟨b, c, rfl, h.cell hq⟩
theorem Rd.blk {v' : World} {V : Value} {n : Nat} {A : Nat → Value} (h : Rd v s V n A) (hb : ∀ b, V.ownBlock = some b → v'.heap[b]? = v.heap[b]?) : Rd v' s V n A := by
  intro q hq
  obtain ⟨b, c, e, hf⟩ := h q hq
  exact ⟨b, c, e, (World.cell?_of_block (hb b (by rw [e]; rfl))).trans hf⟩
/-- A list that is written on in its own block reads as before. -/
theorem Rd.same {V X : Value} {n m g : Nat} {A B : Nat → Value} (h : Rd v s V n A) {v' : World} (hX : Row v' e s X m B) (hg : X.ownBlock = some g) (hV : V.ownBlock = some g) (hm : n ≤ m) (he : ∀ q, q < n * s → B q = A q) : Rd v' s V n A := by
  intro q hq
  obtain ⟨b, c, rfl, _⟩ := h q hq
  obtain ⟨b', c', rfl, hf⟩ := Rd.of_row hX q (Nat.lt_of_lt_of_le hq (Nat.mul_le_mul_right s hm))
  simp [Value.ownBlock] at hg hV
  subst hg; subst hV
  refine ⟨_, c, rfl, ?_⟩
  rw [← he q hq]; exact hf
/-- While they grow: the first i have grown. -/
structure P2 (e le : TypeId) (s K : Nat) (w v : World) (g N : Nat) (V : Nat → Value) (n : Nat → Nat) (M A : Nat → Nat → Value) (i : Nat) (U : Nat → Value) (lv : Value) : Prop where
  rd : ∀ j, j < N → Rd v s (V j) (n j) (M j)
  row : ∀ j, i ≤ j → j < N → Row v e s (V j) (n j) (M j)
  urow : ∀ j, j < i → Row v e s (U j) (n j + K) (A j)
  uown : ∀ j, j < i → (U j).ownBlock = (V j).ownBlock ∨ ∃ b, (U j).ownBlock = some b ∧ w.heap.size ≤ b
  udis : ∀ j j', j < i → j' < i → j ≠ j' → ∀ b, (U j).ownBlock = some b → (U j').ownBlock ≠ some b
  long : Row v le 1 lv i U
  lnew : ∀ b, lv.ownBlock = some b → w.heap.size ≤ b
  cell : ∀ j, j < N → v.cell? ⟨g, j, none⟩ = some (V j)
  mv : Mv w v (bks N V)
/-- While list i grows: it is X, with k more. -/
structure P3 (e le : TypeId) (s K : Nat) (w v : World) (g N : Nat) (V : Nat → Value) (n : Nat → Nat) (M A : Nat → Nat → Value) (i : Nat) (U : Nat → Value) (lv : Value) (k : Nat) (X : Value) : Prop where
  rd : ∀ j, j < N → Rd v s (V j) (n j) (M j)
  row : ∀ j, i < j → j < N → Row v e s (V j) (n j) (M j)
  urow : ∀ j, j < i → Row v e s (U j) (n j + K) (A j)
  uown : ∀ j, j < i → (U j).ownBlock = (V j).ownBlock ∨ ∃ b, (U j).ownBlock = some b ∧ w.heap.size ≤ b
  udis : ∀ j j', j < i → j' < i → j ≠ j' → ∀ b, (U j).ownBlock = some b → (U j').ownBlock ≠ some b
  xrow : Row v e s X (n i + k) (A i)
  xown : X.ownBlock = (V i).ownBlock ∨ ∃ b, X.ownBlock = some b ∧ w.heap.size ≤ b
  xdis : ∀ j, j < i → ∀ b, X.ownBlock = some b → (U j).ownBlock ≠ some b
  long : Row v le 1 lv i U
  lnew : ∀ b, lv.ownBlock = some b → w.heap.size ≤ b
  cell : ∀ j, j < N → v.cell? ⟨g, j, none⟩ = some (V j)
  mv : Mv w v (bks N V)
theorem P2.hid (h : P2 e le s K w v g N V n M A i U lv) : Hid (P2 e le s K w v g N V n M A i U lv) := h
theorem P3.hid (h : P3 e le s K w v g N V n M A i U lv k X) : Hid (P3 e le s K w v g N V n M A i U lv k X) := h
theorem P2.begin (ap : Aprt w g N V) (h : P2 e le s K w v g N V n M A i U lv) (hi : i < N) (hA : ∀ q, q < n i * s → M i q = A i q) : P3 e le s K w v g N V n M A i U lv 0 (V i) :=
  ⟨h.rd, fun j hj => h.row j (by omega), h.urow, h.uown, h.udis, (h.row i (Nat.le_refl _) hi).congr (fun q hq => hA q hq), .inl rfl, fun j hj b hb e => by
      rcases h.uown j hj with h1 | ⟨b', h1, h2⟩
      · rw [h1] at e; exact ap.dis i j hi (by omega) (by omega) b hb e
      · rw [h1] at e; cases e; have := ap.old i hi _ hb; omega, h.long, h.lnew, h.cell, h.mv⟩
theorem P3.call {v' : World} (ap : Aprt w g N V) (h : P3 e le s K w v g N V n M A i U lv k X) (hb : Below v.heap.size v v') : P3 e le s K w v' g N V n M A i U lv k X := by
  have keep : ∀ {e : TypeId} {s m : Nat} {x : Value} {f : Nat → Value}, Row v e s x m f → Row v' e s x m f := fun hr => hr.of_block (fun b hbb => hb.block b (hr.lt b hbb))
  refine ⟨fun j hj => (h.rd j hj).blk (fun b hbb => hb.block b (Nat.lt_of_lt_of_le (ap.old j hj b hbb) h.mv.size)), fun j h1 h2 => keep (h.row j h1 h2), fun j hj => keep (h.urow j hj), h.uown, h.udis, keep h.xrow, h.xown, h.xdis, keep h.long, h.lnew, fun j hj => ?_, ?_⟩
  · rw [hb.cell (show (⟨g, j, none⟩ : Addr).block < _ from Nat.lt_of_lt_of_le ap.gl h.mv.size)]; exact h.cell j hj
  · exact h.mv.trans (F' := fun _ => False) ⟨hb.os, hb.tape, hb.output, hb.size, fun b hbb _ => hb.block b hbb⟩ (fun b e => e.elim)
/-- One more behind X. -/
theorem P3.app {v' : World} {X' : Value} (hel : e ≠ le) (ap : Aprt w g N V) (hi : i < N) (hA : ∀ q, q < n i * s → A i q = M i q) (h : P3 e le s K w v g N V n M A i U lv k X)
    (hr : Row v' e s X' (n i + (k + 1)) (A i))
    (hc : (∃ q, X.ownBlock = some q ∧ X'.ownBlock = some q ∧ v.grownBy v' (some q)) ∨ ((∃ q, X'.ownBlock = some q ∧ v.heap.size ≤ q) ∧ v.grownBy v' none)) : P3 e le s K w v' g N V n M A i U lv (k + 1) X' := by
  rcases hc with ⟨q, e1, e2, hg⟩ | ⟨⟨q, e2, hq⟩, hg⟩
  · have hblk : ∀ b, b < v.heap.size → b ≠ q → v'.heap[b]? = v.heap[b]? := fun b hb hne => hg.block b hb (fun e => hne (by cases e; rfl))
    have keep : ∀ {e : TypeId} {s m : Nat} {x : Value} {f : Nat → Value}, Row v e s x m f → (∀ b, x.ownBlock = some b → b ≠ q) → Row v' e s x m f := fun hr hne => hr.of_block (fun b hb => hblk b (hr.lt b hb) (hne b hb))
    have vne : ∀ j, j < N → j ≠ i → ∀ b, (V j).ownBlock = some b → b ≠ q := by
      intro j hj hne b hb e
      subst e
      rcases h.xown with h1 | ⟨b', h1, h2⟩
      · exact ap.dis j i hj hi hne b hb (by rw [← h1]; exact e1)
      · rw [e1] at h1; cases h1; have := ap.old j hj b hb; omega
    have gne : g ≠ q := by
      intro e
      rcases h.xown with h1 | ⟨b', h1, h2⟩
      · exact ap.far i hi (by rw [← h1, e1, e])
      · rw [e1] at h1; cases h1; have := ap.gl; omega
    have hF : bks N V q ∨ w.heap.size ≤ q := by
      rcases h.xown with h1 | ⟨b', h1, h2⟩
      · exact .inl ⟨i, hi, by rw [← h1]; exact e1⟩
      · rw [e1] at h1; cases h1; exact .inr h2
    refine ⟨fun j hj => ?_, fun j h1 h2 => keep (h.row j h1 h2) (vne j h2 (by omega)), fun j hj => keep (h.urow j hj) (fun b hb e => ?_), h.uown, h.udis, hr, ?_, fun j hj b hb => ?_, keep h.long (fun b hb e => ?_), h.lnew, fun j hj => ?_, ?_⟩
    · by_cases hji : j = i
      · subst hji
        rcases h.xown with h1 | ⟨b', h1, h2⟩
        · exact (h.rd j hj).same hr e2 (by rw [← h1]; exact e1) (by omega) hA
        · rw [e1] at h1; cases h1
          exact (h.rd j hj).blk (fun b hb => hblk b (Nat.lt_of_lt_of_le (ap.old j hj b hb) h.mv.size) (by have := ap.old j hj b hb; omega))
      · exact (h.rd j hj).blk (fun b hb => hblk b (Nat.lt_of_lt_of_le (ap.old j hj b hb) h.mv.size) (vne j hj hji b hb))
    · subst e; exact h.xdis j hj b e1 hb
    · rcases h.xown with h1 | h1
      · exact .inl (by rw [e2, ← h1, e1])
      · exact .inr (by rw [e2, ← e1]; exact h1)
    · rw [e2] at hb; exact h.xdis j hj b (by rw [e1]; exact hb)
    · subst e; exact (h.xrow.apart h.long hel) b e1 hb
    · rw [World.cell?_of_block (hblk g (Nat.lt_of_lt_of_le ap.gl h.mv.size) gne)]; exact h.cell j hj
    · exact h.mv.grown hg (fun b e => by cases e; exact hF)
  · have hblk : ∀ b, b < v.heap.size → v'.heap[b]? = v.heap[b]? := fun b hb => hg.block b hb (fun e => by cases e)
    have keep : ∀ {e : TypeId} {s m : Nat} {x : Value} {f : Nat → Value}, Row v e s x m f → Row v' e s x m f := fun hr => hr.of_block (fun b hb => hblk b (hr.lt b hb))
    have hsz := h.mv.size
    refine ⟨fun j hj => (h.rd j hj).blk (fun b hb => hblk b (Nat.lt_of_lt_of_le (ap.old j hj b hb) hsz)), fun j h1 h2 => keep (h.row j h1 h2), fun j hj => keep (h.urow j hj), h.uown, h.udis, hr, .inr ⟨q, e2, by omega⟩, fun j hj b hb e => ?_, keep h.long, h.lnew, fun j hj => ?_, h.mv.grown hg (fun b e => by cases e)⟩
    · rw [e2] at hb; cases hb
      have := (h.urow j hj).lt _ e
      omega
    · rw [World.cell?_of_block (hblk g (Nat.lt_of_lt_of_le ap.gl hsz))]; exact h.cell j hj
/-- List i has grown: it is put down. -/
theorem P3.fin {v' : World} {lv' : Value} (hel : e ≠ le) (ap : Aprt w g N V) (h : P3 e le s K w v g N V n M A i U lv K X)
    (hr : Row v' le 1 lv' (i + 1) (fun j => if j = i then X else U j)) (hg : v.grownBy v' lv.ownBlock) (ho : lv'.ownBlock = lv.ownBlock ∨ lv'.ownBlock = some v.heap.size) :
    P2 e le s K w v' g N V n M A (i + 1) (fun j => if j = i then X else U j) lv' := by
  have hblk : ∀ b, b < v.heap.size → lv.ownBlock ≠ some b → v'.heap[b]? = v.heap[b]? := fun b hb hne => hg.block b hb (fun e => hne e.symm)
  have keep : ∀ {m : Nat} {x : Value} {f : Nat → Value}, Row v e s x m f → Row v' e s x m f := fun hr => hr.of_block (fun b hb => hblk b (hr.lt b hb) (fun e => (hr.apart h.long hel) b hb e))
  have lold : ∀ b, b < w.heap.size → lv.ownBlock ≠ some b := fun b hb e => by have := h.lnew b e; omega
  have hsz := h.mv.size
  refine ⟨fun j hj => (h.rd j hj).blk (fun b hb => hblk b (Nat.lt_of_lt_of_le (ap.old j hj b hb) hsz) (lold b (ap.old j hj b hb))), fun j h1 h2 => keep (h.row j (by omega) h2), fun j hj => ?_, fun j hj => ?_, fun j j' hj hj' hne b => ?_, hr, fun b hb => ?_, fun j hj => ?_, h.mv.grown hg (fun b e => .inr (h.lnew b e))⟩
  · by_cases e : j = i
    · subst e; simp only [if_true]; exact keep h.xrow
    · simp only [e, if_false]; exact keep (h.urow j (by omega))
  · by_cases e : j = i
    · subst e; simp only [if_true]; exact h.xown
    · simp only [e, if_false]; exact h.uown j (by omega)
  · by_cases e : j = i
    · subst e
      simp only [if_true, show ¬ j' = j from fun x => hne x.symm, if_false]
      exact fun hb => h.xdis j' (by omega) b hb
    · by_cases e' : j' = i
      · subst e'
        simp only [e, if_false, if_true]
        exact fun hb hb' => h.xdis j (by omega) b hb' hb
      · simp only [e, e', if_false]
        exact h.udis j j' (by omega) (by omega) hne b
  · rcases ho with h1 | h1
    · rw [h1] at hb; exact h.lnew b hb
    · rw [h1] at hb; cases hb; exact hsz
  · rw [World.cell?_of_block (hblk g (Nat.lt_of_lt_of_le ap.gl hsz) (lold g ap.gl))]; exact h.cell j hj
theorem P1.done (h : P1 e s w v g N V n M) : P2 e le s K w v g N V n M A 0 (fun _ => .slice none 0 0) (.slice none 0 0) :=
  ⟨fun j hj => Rd.of_row (h.row j hj), fun j _ hj => h.row j hj, fun j hj => by omega, fun j hj => by omega, fun j j' hj => by omega, Row.nil _ _ _ _, fun b hb => by simp [Value.ownBlock] at hb, h.cell, h.mv⟩
theorem P3.form (h : P3 e le s K w v g N V n M A i U lv k X) : ∃ ao c, X = .slice ao (n i + k) c := by
  obtain ⟨ao, c, e, _⟩ := h.xrow.form
  exact ⟨ao, c, e⟩
/-- What the last look reads of list i. -/
theorem P2.look (hs : 0 < s) (hK : 0 < K) (h : P2 e le s K w v g N V n M A N U lv) (hi : i < N) :
    ∃ gl lc bu cu, lv = .slice (some ⟨gl, 0, none⟩) N lc ∧ U i = .slice (some ⟨bu, 0, none⟩) (n i + K) cu ∧ v.cell? ⟨gl, i, none⟩ = some (.slice (some ⟨bu, 0, none⟩) (n i + K) cu) ∧ ∀ q, q < (n i + K) * s → v.cell? ⟨bu, q, none⟩ = some (A i q) := by
  obtain ⟨ao, lc, e1, h1, _⟩ := h.long.form
  obtain ⟨gl, rfl⟩ := h1 (by omega)
  have hu := h.urow i hi
  obtain ⟨bu, cu, e2, _⟩ := Rd.of_row hu 0 (Nat.mul_pos (by omega) hs)
  have hl := h.long
  rw [e1] at hl
  refine ⟨gl, lc, bu, cu, e1, e2, ?_, fun q hq => ?_⟩
  · rw [← e2]; exact hl.cell (by omega)
  · obtain ⟨b', c', e3, hf⟩ := Rd.of_row hu q hq
    rw [e2] at e3
    simp at e3
    rw [e3.1]; exact hf
end
end Go.Proofs.YtighocmdlifheaaDoor

/-
  The walk of the book's mark: a text for each number.
-/
namespace Go.Proofs.YtighocmdlifheaaDoor
open Go.RowKit

theorem ret1s {a b : ByteArray} (h : a = b) : Ending.returned (.string a) = .returned (.string b) := by rw [h]
/-- One byte as a text. -/
theorem conv1 (x : Int) (c : UInt8) (hx : x = c.toNat) (w : World) :
    (convert 60 9 (.slice (some ⟨w.heap.size, 0, none⟩) 1 1)).run Tryd.prog (w.alloc (.cells #[.int .u8 x] 5)) = .ok (.string ⟨#[c]⟩) (w.alloc (.cells #[.int .u8 x] 5)) := by
  have := run_convert_bytes_back (P := Tryd.prog) (w.alloc (.cells #[.int .u8 x] 5)) 60 9 5 ⟨w.heap.size, 0, none⟩ 1 [c] Tryd.underlying60 Tryd.underlying5 Tryd.underlying9 (fun j hj => by
    obtain rfl : j = 0 := by simp at hj; exact hj
    rw [hx]
    exact World.cell?_alloc_mark w _ _ _ _)
  exact this
def mrk (n : Nat) : List UInt8 := if n < 26 then [UInt8.ofNat (97 + n)] else mrk (n / 26) ++ [UInt8.ofNat (97 + n % 26)]
termination_by n
decreasing_by omega
def mrkP (n : Nat) : ByteArray := ⟨(mrk n).toArray⟩
def mrkI (n : Int) : ByteArray := if n < 0 then (⟨#[45]⟩ : ByteArray) ++ mrkP n.natAbs else mrkP n.natAbs
theorem mrk_len : ∀ (k n : Nat), n ≤ k → (mrk n).length ≤ n + 1 := by
  intro k
  induction k with
  | zero => intro n h; rw [mrk, if_pos (by omega)]; simp
  | succ k ih =>
    intro n h
    by_cases h26 : n < 26
    · rw [mrk, if_pos h26]; simp
    · rw [mrk, if_neg h26, List.length_append]
      have := ih (n / 26) (by omega)
      simp only [List.length_singleton]
      omega
theorem mrkP_size (n : Nat) : (mrkP n).size ≤ n + 1 := by
  have := mrk_len n n (Nat.le_refl _)
  unfold mrkP
  simpa [ByteArray.size] using this
theorem low_byte (m : Nat) (h : m < 26) : ((UInt8.ofNat (97 + m)).toNat : Int) = 97 + m := by
  rw [UInt8.toNat_ofNat_of_lt' (by show _ < 256; omega)]; omega
set_option maxRecDepth 100000 in
set_option maxHeartbeats 1000000 in
theorem mark_small (n : Nat) (h : n < 26) (w : World) : Calls Tryd.prog 56 #[.int .i64 n] w fun e w' => e = .returned (.string (mrkP n)) ∧ Below w.heap.size w w' := by
  obtain ⟨c, ec⟩ : ∃ c, c = UInt8.ofNat (97 + n) := ⟨_, rfl⟩
  have hcv := conv1 (97 + (n : Int) % 26) c (by rw [ec, low_byte n h]; omega)
  have HR : Hid (mrkP n = ⟨#[c]⟩) := by show _ = _; unfold mrkP; rw [mrk, if_pos h, ← ec]
  have h' : (n : Int) < 26 := by omega
  clear ec h
  go_enter Tryd.func56, Tryd.ntmps56
  go_wp2_with fail
  go_ret
  exact ⟨ret1s HR.out.symm, (Below.refl _ _).alloc (Nat.le_refl _) _⟩
set_option maxRecDepth 100000 in
set_option maxHeartbeats 1000000 in
theorem mark_pos (k : Nat) : ∀ (n : Nat) (w : World), n ≤ 1000000000 → n ≤ k → Calls Tryd.prog 56 #[.int .i64 n] w fun e w' => e = .returned (.string (mrkP n)) ∧ Below w.heap.size w w' := by
  induction k with
  | zero => intro n w _ h; exact mark_small n (by omega) w
  | succ k ih =>
    intro n w hn hk
    by_cases h : n < 26
    · exact mark_small n h w
    · obtain ⟨c, ec⟩ : ∃ c, c = UInt8.ofNat (97 + n % 26) := ⟨_, rfl⟩
      obtain ⟨E, eE⟩ : ∃ E, E = mrkP (n / 26) := ⟨_, rfl⟩
      have hEs : E.size ≤ 1000000001 := by rw [eE]; have := mrkP_size (n / 26); omega
      have hcv := conv1 (97 + (n : Int) % 26) c (by rw [ec, low_byte _ (by omega)]; omega)
      have HR : Hid (mrkP n = E ++ ⟨#[c]⟩) := by
        show _ = _
        refine str_eq ?_
        rw [eE]
        unfold mrkP
        rw [mrk, if_neg h, ← ec]
        simp
      have cE : ∀ w, Calls Tryd.prog 56 #[.int .i64 ((n : Int) / 26)] w fun e w' => e = .returned (.string E) ∧ Below w.heap.size w w' := fun w => by
        rw [eE, show ((n : Int) / 26) = ((n / 26 : Nat) : Int) by omega]; exact ih (n / 26) w (by omega) (by omega)
      have h' : ¬ (n : Int) < 26 := by omega
      clear ec eE ih h
      go_enter Tryd.func56, Tryd.ntmps56
      go_wp2_with (go_at_call 56; refine (cE _).mono ?_; rintro e w1 ⟨rfl, hb1⟩)
      go_ret
      exact ⟨ret1s HR.out.symm, (below_new w _).trans (hb1.mono (below_new w _).size)⟩
set_option maxRecDepth 100000 in
set_option maxHeartbeats 1000000 in
theorem mark_any' (n : Int) (h1 : -1000000000 ≤ n) (h2 : n ≤ 1000000000) (w : World) : Calls Tryd.prog 56 #[.int .i64 n] w fun e w' => e = .returned (.string (mrkI n)) ∧ Below w.heap.size w w' := by
  by_cases h : n < 0
  · obtain ⟨E, eE⟩ : ∃ E, E = mrkP n.natAbs := ⟨_, rfl⟩
    have hEs : E.size ≤ 1000000001 := by rw [eE]; have := mrkP_size n.natAbs; omega
    have HR : Hid (mrkI n = (⟨#[45]⟩ : ByteArray) ++ E) := by show _ = _; unfold mrkI; rw [if_pos h, eE]
    have cE : ∀ w, Calls Tryd.prog 56 #[.int .i64 (-n)] w fun e w' => e = .returned (.string E) ∧ Below w.heap.size w w' := fun w => by
      rw [eE, show -n = ((n.natAbs : Nat) : Int) by omega]; exact mark_pos n.natAbs n.natAbs w (by omega) (Nat.le_refl _)
    clear eE
    go_enter Tryd.func56, Tryd.ntmps56
    go_wp2_with (go_at_call 56; refine (cE _).mono ?_; rintro e w1 ⟨rfl, hb1⟩)
    go_ret
    exact ⟨ret1s HR.out.symm, hb1⟩
  · have e : n = ((n.natAbs : Nat) : Int) := by omega
    have HR : mrkI n = mrkP n.natAbs := by unfold mrkI; rw [if_neg h]
    rw [HR]
    have := mark_pos n.natAbs n.natAbs w (by omega) (Nat.le_refl _)
    rw [← e] at this
    exact this
end Go.Proofs.YtighocmdlifheaaDoor

/-
  The owner's look at lists of texts: marks, and the two appends.
-/
namespace Go.Proofs.YtighocmdlifheaaDoor
open Go.RowKit

theorem Tryd.info9 : (Tryd.prog.info? 9).map (fun i => (i.zero, i.size, i.bytes)) = some (some (.string ⟨#[]⟩), 1, 16) := by kernel_rfl
theorem Tryd.info34 : (Tryd.prog.info? 34).map (fun i => (i.zero, i.size, i.bytes)) = some (some (.slice none 0 0), 1, 24) := by kernel_rfl
def mkX (j q : Nat) : Value := .string (mrkI ((j : Int) * 1000 + (q : Int)))
def bhX (j k : Nat) : Value := .string (mrkI ((-1 - (j : Int)) * 1000 - (k : Int)))
def cmX (C : Nat → Nat → Value) (i k : Nat) (j q : Nat) : Value := if j < i ∨ (j = i ∧ q < k) then mkX j q else C j q
def apX (n : Nat → Nat) (j q : Nat) : Value := if q < n j then mkX j q else bhX j (q - n j)
theorem apX_in {n : Nat → Nat} {j q : Nat} (h : q < n j * 1) : apX n j q = mkX j q := if_pos (by omega)
theorem apX_out {n : Nat → Nat} {j k : Nat} : apX n j (n j + k) = bhX j k := by unfold apX; rw [if_neg (by omega), Nat.add_sub_cancel_left]
section
variable {w v : World} {g N : Nat} {V : Nat → Value} {n : Nat → Nat} {C : Nat → Nat → Value} {i : Nat}
theorem P1.call {e : TypeId} {s : Nat} {v' : World} (ap : Aprt w g N V) (h : P1 e s w v g N V n C) (hb : Below v.heap.size v v') : P1 e s w v' g N V n C := by
  refine ⟨fun j hj => (h.row j hj).of_block (fun b hbb => hb.block b ((h.row j hj).lt b hbb)), fun j hj => ?_, ?_⟩
  · rw [hb.cell (show (⟨g, j, none⟩ : Addr).block < _ from Nat.lt_of_lt_of_le ap.gl h.mv.size)]; exact h.cell j hj
  · exact h.mv.trans (F' := fun _ => False) ⟨hb.os, hb.tape, hb.output, hb.size, fun b hbb _ => hb.block b hbb⟩ (fun b e => e.elim)
theorem P1.startX (h : P1 9 1 w v g N V n C) : P1 9 1 w v g N V n (cmX C 0 0) := h.congr (fun j _ q _ => by unfold cmX; rw [if_neg (by omega)])
theorem P1.nextX (h : P1 9 1 w v g N V n (cmX C i (n i))) : P1 9 1 w v g N V n (cmX C (i + 1) 0) :=
  h.congr (fun j _ q hq => by
    unfold cmX
    by_cases e : j < i
    · rw [if_pos (.inl e), if_pos (.inl (by omega))]
    · by_cases e' : j = i
      · subst e'
        rw [if_pos (.inr ⟨rfl, by omega⟩), if_pos (.inl (by omega))]
      · rw [if_neg (by omega), if_neg (by omega)])
theorem P1.markX (ap : Aprt w g N V) {k b c : Nat} (h : P1 9 1 w v g N V n (cmX C i k)) (hi : i < N) (hV : V i = .slice (some ⟨b, 0, none⟩) (n i) c) :
    P1 9 1 w (v.setCell ⟨b, k, none⟩ (mkX i k)) g N V n (cmX C i (k + 1)) :=
  (h.put ap k hi hV (mkX i k)).congr (fun j _ q _ => by
    unfold cmX
    by_cases e : j = i ∧ q = k
    · obtain ⟨rfl, rfl⟩ := e
      rw [if_pos ⟨rfl, rfl⟩, if_pos (.inr ⟨rfl, by omega⟩)]
    · rw [if_neg e]
      by_cases e' : j < i ∨ (j = i ∧ q < k)
      · rw [if_pos e', if_pos (e'.elim (fun h => .inl h) (fun h => .inr ⟨h.1, by omega⟩))]
      · rw [if_neg e', if_neg (by omega)])
theorem P1.doneX (h : P1 9 1 w v g N V n (cmX C N 0)) : P1 9 1 w v g N V n mkX := h.congr (fun j hj q _ => by unfold cmX; rw [if_pos (.inl hj)])
end
theorem append_markX {w v : World} {g N : Nat} {V : Nat → Value} {n : Nat → Nat} {i : Nat} {U : Nat → Value} {lv : Value} {k : Nat} {X : Value} {ops : Array Oper} {rest : List Oper} {o : Oper} {a : Act} {Q : Exit → Act → World → Prop} (hgd : o.guard = none) (d x : Operand)
    (ho : o.op = .call { callee := .builtin .append, args := #[d, x], argTypes := #[34, 34] }) (ap : Aprt w g N V) (hi : i < N) (h : P3 9 34 1 16 w v g N V n mkX (apX n) i U lv k X) (y : ByteArray) (hy : bhX i k = .string y) (hs : a.eval d = X) (hx : a.eval x = .slice (some ⟨v.heap.size, 0, none⟩) 1 1) (hlen : n i + k ≤ 1000000000)
    (hK : ∀ X' v', P3 9 34 1 16 w v' g N V n mkX (apX n) i U lv (k + 1) X' → wpList Tryd.prog ops Q rest (a.put o.dst X') v') :
    wpList Tryd.prog ops Q (o :: rest) a (v.alloc (.cells #[.string y] 9)) := by
  obtain ⟨i0, h0, hz0, hz1, hz2⟩ := info_parts Tryd.info9
  have h' := h.call ap (below_new v (.cells #[.string y] 9))
  obtain ⟨X', v', r1, r2, r3⟩ := run_app1 (P := Tryd.prog) (v.alloc (.cells #[.string y] 9)) 34 o.type 9 i0 _ 1 16 Tryd.underlying34 h0 hz0 hz1 hz2 rfl (by decide) X (n i + k) _ h'.xrow ⟨v.heap.size, 0, none⟩ [.string y] rfl (World.news_of_block (heap_new v _)) (by intro u hu; simp at hu; rw [hu]; rfl) (by unfold maxLen; omega) (by omega)
  refine wpList_plain hgd fun K hK' => ?_
  unfold Oper.wp execOp
  simp only [ho, resolve, invoke, builtin, Sem.run_bind, Sem.run_pure, Result.andThen_ok, List.map_toArray, List.map_cons, List.map_nil, hs, hx, r1]
  refine hK' _ _ (hK X' v' (h'.app (by decide) ap hi (fun q hq => apX_in hq) ?_ r3))
  have hr := Row.snoc (x := fun _ => .string y) r2 rfl (fun j hj => by obtain rfl : j = 0 := by omega
                                                                       rfl)
  refine (show Row v' 9 1 X' (n i + (k + 1)) _ from hr).congr fun j hj => ?_
  by_cases e : j < (n i + k) * 1
  · rw [if_pos e]
  · rw [if_neg e, show j = n i + k by omega, apX_out, hy]
theorem append_longX {w v : World} {g N : Nat} {V : Nat → Value} {n : Nat → Nat} {M A : Nat → Nat → Value} {i : Nat} {U : Nat → Value} {lv : Value} {X : Value} {ops : Array Oper} {rest : List Oper} {o : Oper} {a : Act} {Q : Exit → Act → World → Prop} (hgd : o.guard = none) (d x : Operand)
    (ho : o.op = .call { callee := .builtin .append, args := #[d, x], argTypes := #[50, 50] }) (ap : Aprt w g N V) (h : P3 9 34 1 16 w v g N V n M A i U lv 16 X) (hX1 : X.oneCell' = true) (hs : a.eval d = lv) (hx : a.eval x = .slice (some ⟨v.heap.size, 0, none⟩) 1 1) (hlen : i ≤ 3000000)
    (hK : ∀ lv' v', P2 9 34 1 16 w v' g N V n M A (i + 1) (fun j => if j = i then X else U j) lv' → wpList Tryd.prog ops Q rest (a.put o.dst lv') v') :
    wpList Tryd.prog ops Q (o :: rest) a (v.alloc (.cells #[X] 34)) := by
  obtain ⟨i0, h0, hz0, hz1, hz2⟩ := info_parts Tryd.info34
  have h' := h.call ap (below_new v (.cells #[X] 34))
  refine wpList_append_own_at _ hgd d x 50 ho 0 34 i0 _ 1 24 Tryd.underlying50 h0 hz0 hz1 hz2 rfl (by decide) lv i _ hs h'.long ⟨v.heap.size, 0, none⟩ 1 1 [X] hx rfl (World.news_of_block (heap_new v _)) (by intro u hu; simp at hu; rw [hu]; exact hX1) (by unfold maxLen; omega) (by omega) (Nat.zero_le _) ?_
  intro lv' v' r1 r2 _ r4
  refine hK lv' v' (h'.fin (by decide) ap ?_ r2 r4)
  have hr := Row.snoc (x := fun _ => X) r1 rfl (fun j hj => by obtain rfl : j = 0 := by omega
                                                               rfl)
  refine hr.congr fun j hj => ?_
  by_cases e : j < i * 1
  · rw [if_pos e, if_neg (show ¬ j = i by omega)]
  · rw [if_neg e, if_pos (show j = i by omega)]
theorem mark_mk (j q : Nat) (h1 : j ≤ 1000) (h2 : q ≤ 3000000) : ∃ x, mkX j q = .string x ∧ ∀ w, Calls Tryd.prog 56 #[.int .i64 ((j : Int) * 1000 + (q : Int))] w fun e w' => e = .returned (.string x) ∧ Below w.heap.size w w' :=
  ⟨_, rfl, fun w => mark_any' _ (by omega) (by omega) w⟩
theorem mark_bh (j q : Nat) (h1 : j ≤ 1000) (h2 : q ≤ 3000000) : ∃ x, bhX j q = .string x ∧ ∀ w, Calls Tryd.prog 56 #[.int .i64 ((-1 - (j : Int)) * 1000 - (q : Int))] w fun e w' => e = .returned (.string x) ∧ Below w.heap.size w w' :=
  ⟨_, rfl, fun w => mark_any' _ (by omega) (by omega) w⟩
end Go.Proofs.YtighocmdlifheaaDoor
