/-
  Lists that are marked, grown and looked at again: what is kept in between. (Of any elements: e their type, s their cells, le the type of a list of them.)
-/
import Derived.Test.YtelanneckjgnbaaDoorMv
import Derived.Laws.OwnMore
import Derived.ArgAppend
import Derived.Maps.AppendAt
namespace Go.Proofs.YtelanneckjgnbaaDoor
open Go.RowKit

/-- One element more, in place or in a new row. -/
theorem run_app1 {P : Program} (w : World) (t ty e : TypeId) (i : TypeInfo) (z : Value) (size bytes : Nat) (ht : P.underlying t = some (.slice e)) (hi : P.info? e = some i) (hz : i.zero = some z)
    (hsize : i.size = size) (hby : i.bytes = bytes) (hzs : z.cells.size = size) (hsz : 0 < size)
    (v : Value) (n : Nat) (xs : List Value) (hown : w.ownsRow 0 e size v n xs)
    (a : Addr) (news : List Value) (hl : news.length = size) (hnews : ∀ j u, news[j]? = some u → w.cell? (a.add j) = some u) (h1 : ∀ u ∈ news, u.oneCell' = true)
    (h63 : n + 1 ≤ maxLen) (hbytes : (n + 1) * bytes ≤ 140737488355328) :
    ∃ v' w', (Builtin.append_ #[t, t] ty #[v, .slice (some a) 1 1]).run P w = .ok v' w' ∧ w'.ownsRow 0 e size v' (n + 1) (xs ++ news) ∧
      ((∃ g, v.ownBlock = some g ∧ v'.ownBlock = some g ∧ w.grownBy w' (some g)) ∨ ((∃ g, v'.ownBlock = some g ∧ w.heap.size ≤ g) ∧ w.grownBy w' none)) := by
  have hl' : news.length = 1 * size := by omega
  rcases hown.2 with ⟨rfl, rfl⟩ | ⟨g, cap, cur, rfl, hbg, hg, hnc, hcm, hcs, htake⟩
  · obtain ⟨v', w', r1, r2, r3, _, r5⟩ := run_append_own_at (P := P) w 0 t ty e i z size bytes ht hi hz hsize hby hzs hsz _ 0 xs hown a 1 1 news hl' hnews h1 h63 hbytes (Nat.zero_le _)
    refine ⟨v', w', r1, r2, .inr ⟨?_, r3⟩⟩
    rcases r5 with r5 | r5
    · exfalso
      rcases r2.2 with ⟨_, h0⟩ | ⟨g', _, _, rfl, _⟩
      · omega
      · simp [Value.ownBlock] at r5
    · exact ⟨_, r5, Nat.le_refl _⟩
  · by_cases hroom : n + 1 ≤ cap
    · obtain ⟨w', r1, r2, r3⟩ := run_append_fits (P := P) w 0 t ty e i size ht hi hsize g n cap xs hown a 1 1 news hl' hnews h1 hroom
      exact ⟨_, w', r1, r2, .inl ⟨g, rfl, rfl, r3⟩⟩
    · obtain ⟨v', w', r1, r2, r3⟩ := run_append_arg_grows (P := P) w t ty e i z size bytes ht hi hz hsize hby hzs hsz ⟨g, 0, none⟩ n cap xs hown.1 (hown.cells (g := g) rfl) a 1 1 news hl' hnews (by omega) h63 hbytes
      refine ⟨v', w', r1, ⟨r2.1, ?_⟩, .inr ⟨?_, r3⟩⟩
      · rcases r2.2 with h | ⟨g', c', cu, h1, h2, h3⟩
        · exact .inl h
        · exact .inr ⟨g', c', cu, h1, Nat.zero_le _, h3⟩
      · rcases r2.2 with ⟨_, h0⟩ | ⟨g', c', cu, rfl, h2, h3⟩
        · omega
        · exact ⟨g', rfl, h2⟩

def bks (N : Nat) (V : Nat → Value) (b : Nat) : Prop := ∃ j, j < N ∧ (V j).ownBlock = some b
/-- The lists lie apart, and apart from the list of them. -/
structure Aprt (w : World) (g N : Nat) (V : Nat → Value) : Prop where
  dis : ∀ j j', j < N → j' < N → j ≠ j' → ∀ b, (V j).ownBlock = some b → (V j').ownBlock ≠ some b
  far : ∀ j, j < N → (V j).ownBlock ≠ some g
  old : ∀ j, j < N → ∀ b, (V j).ownBlock = some b → b < w.heap.size
  gl : g < w.heap.size
theorem Aprt.hid {w : World} {g N : Nat} {V : Nat → Value} (h : Aprt w g N V) : Hid (Aprt w g N V) := h
/-- While the lists are marked. -/
structure P1 (e : TypeId) (s : Nat) (w v : World) (g N : Nat) (V : Nat → Value) (n : Nat → Nat) (C : Nat → Nat → Value) : Prop where
  row : ∀ j, j < N → Row v e s (V j) (n j) (C j)
  cell : ∀ j, j < N → v.cell? ⟨g, j, none⟩ = some (V j)
  mv : Mv w v (bks N V)
section
variable {e le : TypeId} {s K : Nat} {w v : World} {g N : Nat} {V : Nat → Value} {n : Nat → Nat} {C D M A : Nat → Nat → Value} {i : Nat} {U : Nat → Value} {lv : Value} {k : Nat} {X : Value}
theorem P1.hid (h : P1 e s w v g N V n C) : Hid (P1 e s w v g N V n C) := h
theorem P1.congr (h : P1 e s w v g N V n C) (he : ∀ j, j < N → ∀ q, q < n j * s → C j q = D j q) : P1 e s w v g N V n D :=
  ⟨fun j hj => (h.row j hj).congr (fun q hq => he j hj q hq), h.cell, h.mv⟩
theorem P1.drew (h : P1 e s w v g N V n C) : P1 e s w v.drew g N V n C := ⟨fun j hj => (h.row j hj).of_block (fun _ _ => rfl), h.cell, h.mv.drew⟩
theorem P1.put (ap : Aprt w g N V) (h : P1 e s w v g N V n C) {b c : Nat} (q : Nat) (hi : i < N) (hV : V i = .slice (some ⟨b, 0, none⟩) (n i) c) (x : Value) :
    P1 e s w (v.setCell ⟨b, q, none⟩ x) g N V n (fun j r => if j = i ∧ r = q then x else C j r) := by
  have hb : (V i).ownBlock = some b := by rw [hV]; rfl
  have hF : bks N V b := ⟨i, hi, hb⟩
  have hblk : ∀ r, r ≠ b → (v.setCell ⟨b, q, none⟩ x).heap[r]? = v.heap[r]? := fun r hr => Below.heap_setCell _ _ _ _ (by exact hr)
  refine ⟨fun j hj => ?_, fun j hj => ?_, h.mv.setCell (.inl hF) _⟩
  · by_cases e : j = i
    · subst e
      have hr := h.row j hj
      rw [hV] at hr ⊢
      exact (hr.set q x).congr fun r _ => by simp
    · refine ((h.row j hj).of_block (fun r hr => hblk r (fun e2 => ?_))).congr (fun r _ => ?_)
      · subst e2; exact ap.dis j i hj hi e r hr hb
      · simp [e]
  · rw [World.cell?_of_block (hblk g (fun e => ap.far i hi (by rw [hb, e])))]
    exact h.cell j hj
/-- What is read of a list: in its own block. -/
def Rd (v : World) (s : Nat) (V : Value) (n : Nat) (A : Nat → Value) : Prop := ∀ q, q < n * s → ∃ b c, V = .slice (some ⟨b, 0, none⟩) n c ∧ v.cell? ⟨b, q, none⟩ = some (A q)
theorem Rd.of_row {V : Value} {n : Nat} {A : Nat → Value} (h : Row v e s V n A) : Rd v s V n A := by
  intro q hq
  have hn : 0 < n := by
    rcases Nat.eq_zero_or_pos n with h0 | h0
    · rw [h0] at hq; omega
    · exact h0
  obtain ⟨ao, c, rfl, h1, _⟩ := h.form
  obtain ⟨b, rfl⟩ := h1 hn
  exact ⟨b, c, rfl, h.cell hq⟩
theorem Rd.blk {v' : World} {V : Value} {n : Nat} {A : Nat → Value} (h : Rd v s V n A) (hb : ∀ b, V.ownBlock = some b → v'.heap[b]? = v.heap[b]?) : Rd v' s V n A := by
  intro q hq
  obtain ⟨b, c, e, hf⟩ := h q hq
  exact ⟨b, c, e, (World.cell?_of_block (hb b (by rw [e]; rfl))).trans hf⟩
/-- A list that is written on in its own block reads as before. -/
theorem Rd.same {V X : Value} {n m g : Nat} {A B : Nat → Value} (h : Rd v s V n A) {v' : World} (hX : Row v' e s X m B) (hg : X.ownBlock = some g) (hV : V.ownBlock = some g) (hm : n ≤ m) (he : ∀ q, q < n * s → B q = A q) : Rd v' s V n A := by
  intro q hq
  obtain ⟨b, c, rfl, _⟩ := h q hq
  obtain ⟨b', c', rfl, hf⟩ := Rd.of_row hX q (Nat.lt_of_lt_of_le hq (Nat.mul_le_mul_right s hm))
  simp [Value.ownBlock] at hg hV
  subst hg; subst hV
  refine ⟨_, c, rfl, ?_⟩
  rw [← he q hq]; exact hf
/-- While they grow: the first i have grown. -/
structure P2 (e le : TypeId) (s K : Nat) (w v : World) (g N : Nat) (V : Nat → Value) (n : Nat → Nat) (M A : Nat → Nat → Value) (i : Nat) (U : Nat → Value) (lv : Value) : Prop where
  rd : ∀ j, j < N → Rd v s (V j) (n j) (M j)
  row : ∀ j, i ≤ j → j < N → Row v e s (V j) (n j) (M j)
  urow : ∀ j, j < i → Row v e s (U j) (n j + K) (A j)
  uown : ∀ j, j < i → (U j).ownBlock = (V j).ownBlock ∨ ∃ b, (U j).ownBlock = some b ∧ w.heap.size ≤ b
  udis : ∀ j j', j < i → j' < i → j ≠ j' → ∀ b, (U j).ownBlock = some b → (U j').ownBlock ≠ some b
  long : Row v le 1 lv i U
  lnew : ∀ b, lv.ownBlock = some b → w.heap.size ≤ b
  cell : ∀ j, j < N → v.cell? ⟨g, j, none⟩ = some (V j)
  mv : Mv w v (bks N V)
/-- While list i grows: it is X, with k more. -/
structure P3 (e le : TypeId) (s K : Nat) (w v : World) (g N : Nat) (V : Nat → Value) (n : Nat → Nat) (M A : Nat → Nat → Value) (i : Nat) (U : Nat → Value) (lv : Value) (k : Nat) (X : Value) : Prop where
  rd : ∀ j, j < N → Rd v s (V j) (n j) (M j)
  row : ∀ j, i < j → j < N → Row v e s (V j) (n j) (M j)
  urow : ∀ j, j < i → Row v e s (U j) (n j + K) (A j)
  uown : ∀ j, j < i → (U j).ownBlock = (V j).ownBlock ∨ ∃ b, (U j).ownBlock = some b ∧ w.heap.size ≤ b
  udis : ∀ j j', j < i → j' < i → j ≠ j' → ∀ b, (U j).ownBlock = some b → (U j').ownBlock ≠ some b
  xrow : Row v e s X (n i + k) (A i)
  xown : X.ownBlock = (V i).ownBlock ∨ ∃ b, X.ownBlock = some b ∧ w.heap.size ≤ b
  xdis : ∀ j, j < i → ∀ b, X.ownBlock = some b → (U j).ownBlock ≠ some b
  long : Row v le 1 lv i U
  lnew : ∀ b, lv.ownBlock = some b → w.heap.size ≤ b
  cell : ∀ j, j < N → v.cell? ⟨g, j, none⟩ = some (V j)
  mv : Mv w v (bks N V)
theorem P2.hid (h : P2 e le s K w v g N V n M A i U lv) : Hid (P2 e le s K w v g N V n M A i U lv) := h
theorem P3.hid (h : P3 e le s K w v g N V n M A i U lv k X) : Hid (P3 e le s K w v g N V n M A i U lv k X) := h
theorem P2.begin (ap : Aprt w g N V) (h : P2 e le s K w v g N V n M A i U lv) (hi : i < N) (hA : ∀ q, q < n i * s → M i q = A i q) : P3 e le s K w v g N V n M A i U lv 0 (V i) :=
  ⟨h.rd, fun j hj => h.row j (by omega), h.urow, h.uown, h.udis, (h.row i (Nat.le_refl _) hi).congr (fun q hq => hA q hq), .inl rfl, fun j hj b hb e => by
      rcases h.uown j hj with h1 | ⟨b', h1, h2⟩
      · rw [h1] at e; exact ap.dis i j hi (by omega) (by omega) b hb e
      · rw [h1] at e; cases e; have := ap.old i hi _ hb; omega, h.long, h.lnew, h.cell, h.mv⟩
theorem P3.call {v' : World} (ap : Aprt w g N V) (h : P3 e le s K w v g N V n M A i U lv k X) (hb : Below v.heap.size v v') : P3 e le s K w v' g N V n M A i U lv k X := by
  have keep : ∀ {e : TypeId} {s m : Nat} {x : Value} {f : Nat → Value}, Row v e s x m f → Row v' e s x m f := fun hr => hr.of_block (fun b hbb => hb.block b (hr.lt b hbb))
  refine ⟨fun j hj => (h.rd j hj).blk (fun b hbb => hb.block b (Nat.lt_of_lt_of_le (ap.old j hj b hbb) h.mv.size)), fun j h1 h2 => keep (h.row j h1 h2), fun j hj => keep (h.urow j hj), h.uown, h.udis, keep h.xrow, h.xown, h.xdis, keep h.long, h.lnew, fun j hj => ?_, ?_⟩
  · rw [hb.cell (show (⟨g, j, none⟩ : Addr).block < _ from Nat.lt_of_lt_of_le ap.gl h.mv.size)]; exact h.cell j hj
  · exact h.mv.trans (F' := fun _ => False) ⟨hb.os, hb.tape, hb.output, hb.size, fun b hbb _ => hb.block b hbb⟩ (fun b e => e.elim)
/-- One more behind X. -/
theorem P3.app {v' : World} {X' : Value} (hel : e ≠ le) (ap : Aprt w g N V) (hi : i < N) (hA : ∀ q, q < n i * s → A i q = M i q) (h : P3 e le s K w v g N V n M A i U lv k X)
    (hr : Row v' e s X' (n i + (k + 1)) (A i))
    (hc : (∃ q, X.ownBlock = some q ∧ X'.ownBlock = some q ∧ v.grownBy v' (some q)) ∨ ((∃ q, X'.ownBlock = some q ∧ v.heap.size ≤ q) ∧ v.grownBy v' none)) : P3 e le s K w v' g N V n M A i U lv (k + 1) X' := by
  rcases hc with ⟨q, e1, e2, hg⟩ | ⟨⟨q, e2, hq⟩, hg⟩
  · have hblk : ∀ b, b < v.heap.size → b ≠ q → v'.heap[b]? = v.heap[b]? := fun b hb hne => hg.block b hb (fun e => hne (by cases e; rfl))
    have keep : ∀ {e : TypeId} {s m : Nat} {x : Value} {f : Nat → Value}, Row v e s x m f → (∀ b, x.ownBlock = some b → b ≠ q) → Row v' e s x m f := fun hr hne => hr.of_block (fun b hb => hblk b (hr.lt b hb) (hne b hb))
    have vne : ∀ j, j < N → j ≠ i → ∀ b, (V j).ownBlock = some b → b ≠ q := by
      intro j hj hne b hb e
      subst e
      rcases h.xown with h1 | ⟨b', h1, h2⟩
      · exact ap.dis j i hj hi hne b hb (by rw [← h1]; exact e1)
      · rw [e1] at h1; cases h1; have := ap.old j hj b hb; omega
    have gne : g ≠ q := by
      intro e
      rcases h.xown with h1 | ⟨b', h1, h2⟩
      · exact ap.far i hi (by rw [← h1, e1, e])
      · rw [e1] at h1; cases h1; have := ap.gl; omega
    have hF : bks N V q ∨ w.heap.size ≤ q := by
      rcases h.xown with h1 | ⟨b', h1, h2⟩
      · exact .inl ⟨i, hi, by rw [← h1]; exact e1⟩
      · rw [e1] at h1; cases h1; exact .inr h2
    refine ⟨fun j hj => ?_, fun j h1 h2 => keep (h.row j h1 h2) (vne j h2 (by omega)), fun j hj => keep (h.urow j hj) (fun b hb e => ?_), h.uown, h.udis, hr, ?_, fun j hj b hb => ?_, keep h.long (fun b hb e => ?_), h.lnew, fun j hj => ?_, ?_⟩
    · by_cases hji : j = i
      · subst hji
        rcases h.xown with h1 | ⟨b', h1, h2⟩
        · exact (h.rd j hj).same hr e2 (by rw [← h1]; exact e1) (by omega) hA
        · rw [e1] at h1; cases h1
          exact (h.rd j hj).blk (fun b hb => hblk b (Nat.lt_of_lt_of_le (ap.old j hj b hb) h.mv.size) (by have := ap.old j hj b hb; omega))
      · exact (h.rd j hj).blk (fun b hb => hblk b (Nat.lt_of_lt_of_le (ap.old j hj b hb) h.mv.size) (vne j hj hji b hb))
    · subst e; exact h.xdis j hj b e1 hb
    · rcases h.xown with h1 | h1
      · exact .inl (by rw [e2, ← h1, e1])
      · exact .inr (by rw [e2, ← e1]; exact h1)
    · rw [e2] at hb; exact h.xdis j hj b (by rw [e1]; exact hb)
    · subst e; exact (h.xrow.apart h.long hel) b e1 hb
    · rw [World.cell?_of_block (hblk g (Nat.lt_of_lt_of_le ap.gl h.mv.size) gne)]; exact h.cell j hj
    · exact h.mv.grown hg (fun b e => by cases e; exact hF)
  · have hblk : ∀ b, b < v.heap.size → v'.heap[b]? = v.heap[b]? := fun b hb => hg.block b hb (fun e => by cases e)
    have keep : ∀ {e : TypeId} {s m : Nat} {x : Value} {f : Nat → Value}, Row v e s x m f → Row v' e s x m f := fun hr => hr.of_block (fun b hb => hblk b (hr.lt b hb))
    have hsz := h.mv.size
    refine ⟨fun j hj => (h.rd j hj).blk (fun b hb => hblk b (Nat.lt_of_lt_of_le (ap.old j hj b hb) hsz)), fun j h1 h2 => keep (h.row j h1 h2), fun j hj => keep (h.urow j hj), h.uown, h.udis, hr, .inr ⟨q, e2, by omega⟩, fun j hj b hb e => ?_, keep h.long, h.lnew, fun j hj => ?_, h.mv.grown hg (fun b e => by cases e)⟩
    · rw [e2] at hb; cases hb
      have := (h.urow j hj).lt _ e
      omega
    · rw [World.cell?_of_block (hblk g (Nat.lt_of_lt_of_le ap.gl hsz))]; exact h.cell j hj
/-- List i has grown: it is put down. -/
theorem P3.fin {v' : World} {lv' : Value} (hel : e ≠ le) (ap : Aprt w g N V) (h : P3 e le s K w v g N V n M A i U lv K X)
    (hr : Row v' le 1 lv' (i + 1) (fun j => if j = i then X else U j)) (hg : v.grownBy v' lv.ownBlock) (ho : lv'.ownBlock = lv.ownBlock ∨ lv'.ownBlock = some v.heap.size) :
    P2 e le s K w v' g N V n M A (i + 1) (fun j => if j = i then X else U j) lv' := by
  have hblk : ∀ b, b < v.heap.size → lv.ownBlock ≠ some b → v'.heap[b]? = v.heap[b]? := fun b hb hne => hg.block b hb (fun e => hne e.symm)
  have keep : ∀ {m : Nat} {x : Value} {f : Nat → Value}, Row v e s x m f → Row v' e s x m f := fun hr => hr.of_block (fun b hb => hblk b (hr.lt b hb) (fun e => (hr.apart h.long hel) b hb e))
  have lold : ∀ b, b < w.heap.size → lv.ownBlock ≠ some b := fun b hb e => by have := h.lnew b e; omega
  have hsz := h.mv.size
  refine ⟨fun j hj => (h.rd j hj).blk (fun b hb => hblk b (Nat.lt_of_lt_of_le (ap.old j hj b hb) hsz) (lold b (ap.old j hj b hb))), fun j h1 h2 => keep (h.row j (by omega) h2), fun j hj => ?_, fun j hj => ?_, fun j j' hj hj' hne b => ?_, hr, fun b hb => ?_, fun j hj => ?_, h.mv.grown hg (fun b e => .inr (h.lnew b e))⟩
  · by_cases e : j = i
    · subst e; simp only [if_true]; exact keep h.xrow
    · simp only [e, if_false]; exact keep (h.urow j (by omega))
  · by_cases e : j = i
    · subst e; simp only [if_true]; exact h.xown
    · simp only [e, if_false]; exact h.uown j (by omega)
  · by_cases e : j = i
    · subst e
      simp only [if_true, show ¬ j' = j from fun x => hne x.symm, if_false]
      exact fun hb => h.xdis j' (by omega) b hb
    · by_cases e' : j' = i
      · subst e'
        simp only [e, if_false, if_true]
        exact fun hb hb' => h.xdis j (by omega) b hb' hb
      · simp only [e, e', if_false]
        exact h.udis j j' (by omega) (by omega) hne b
  · rcases ho with h1 | h1
    · rw [h1] at hb; exact h.lnew b hb
    · rw [h1] at hb; cases hb; exact hsz
  · rw [World.cell?_of_block (hblk g (Nat.lt_of_lt_of_le ap.gl hsz) (lold g ap.gl))]; exact h.cell j hj
theorem P1.done (h : P1 e s w v g N V n M) : P2 e le s K w v g N V n M A 0 (fun _ => .slice none 0 0) (.slice none 0 0) :=
  ⟨fun j hj => Rd.of_row (h.row j hj), fun j _ hj => h.row j hj, fun j hj => by omega, fun j hj => by omega, fun j j' hj => by omega, Row.nil _ _ _ _, fun b hb => by simp [Value.ownBlock] at hb, h.cell, h.mv⟩
theorem P3.form (h : P3 e le s K w v g N V n M A i U lv k X) : ∃ ao c, X = .slice ao (n i + k) c := by
  obtain ⟨ao, c, e, _⟩ := h.xrow.form
  exact ⟨ao, c, e⟩
/-- What the last look reads of list i. -/
theorem P2.look (hs : 0 < s) (hK : 0 < K) (h : P2 e le s K w v g N V n M A N U lv) (hi : i < N) :
    ∃ gl lc bu cu, lv = .slice (some ⟨gl, 0, none⟩) N lc ∧ U i = .slice (some ⟨bu, 0, none⟩) (n i + K) cu ∧ v.cell? ⟨gl, i, none⟩ = some (.slice (some ⟨bu, 0, none⟩) (n i + K) cu) ∧ ∀ q, q < (n i + K) * s → v.cell? ⟨bu, q, none⟩ = some (A i q) := by
  obtain ⟨ao, lc, e1, h1, _⟩ := h.long.form
  obtain ⟨gl, rfl⟩ := h1 (by omega)
  have hu := h.urow i hi
  obtain ⟨bu, cu, e2, _⟩ := Rd.of_row hu 0 (Nat.mul_pos (by omega) hs)
  have hl := h.long
  rw [e1] at hl
  refine ⟨gl, lc, bu, cu, e1, e2, ?_, fun q hq => ?_⟩
  · rw [← e2]; exact hl.cell (by omega)
  · obtain ⟨b', c', e3, hf⟩ := Rd.of_row hu q hq
    rw [e2] at e3
    simp at e3
    rw [e3.1]; exact hf
end
end Go.Proofs.YtelanneckjgnbaaDoor
