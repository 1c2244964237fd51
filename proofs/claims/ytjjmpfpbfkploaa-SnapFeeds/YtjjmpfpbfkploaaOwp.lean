/-
  Lists of feeds that are marked, grown and looked at again: what is kept in between.
-/
import Derived.Test.YtjjmpfpbfkploaaAp
import Derived.Laws.OwnMore
import Derived.ArgAppend
namespace Go.Proofs.Ytjjmpfpbfkploaa
open Go.RowKit

/-- One element more, in place or in a new row. -/
theorem run_app1 {P : Program} (w : World) (t ty e : TypeId) (i : TypeInfo) (z : Value) (size bytes : Nat) (ht : P.underlying t = some (.slice e)) (hi : P.info? e = some i) (hz : i.zero = some z)
    (hsize : i.size = size) (hby : i.bytes = bytes) (hzs : z.cells.size = size) (hsz : 0 < size)
    (v : Value) (n : Nat) (xs : List Value) (hown : w.ownsRow 0 e size v n xs)
    (a : Addr) (news : List Value) (hl : news.length = size) (hnews : ∀ j u, news[j]? = some u → w.cell? (a.add j) = some u) (h1 : ∀ u ∈ news, u.oneCell' = true)
    (h63 : n + 1 ≤ maxLen) (hbytes : (n + 1) * bytes ≤ 140737488355328) :
    ∃ v' w', (Builtin.append_ #[t, t] ty #[v, .slice (some a) 1 1]).run P w = .ok v' w' ∧ w'.ownsRow 0 e size v' (n + 1) (xs ++ news) ∧
      ((∃ g, v.ownBlock = some g ∧ v'.ownBlock = some g ∧ w.grownBy w' (some g)) ∨ ((∃ g, v'.ownBlock = some g ∧ w.heap.size ≤ g) ∧ w.grownBy w' none)) := by
  have hl' : news.length = 1 * size := by omega
  rcases hown.2 with ⟨rfl, rfl⟩ | ⟨g, cap, cur, rfl, hbg, hg, hnc, hcm, hcs, htake⟩
  · obtain ⟨v', w', r1, r2, r3, _, r5⟩ := run_append_own_at (P := P) w 0 t ty e i z size bytes ht hi hz hsize hby hzs hsz _ 0 xs hown a 1 1 news hl' hnews h1 h63 hbytes (Nat.zero_le _)
    refine ⟨v', w', r1, r2, .inr ⟨?_, r3⟩⟩
    rcases r5 with r5 | r5
    · exfalso
      rcases r2.2 with ⟨_, h0⟩ | ⟨g', _, _, rfl, _⟩
      · omega
      · simp [Value.ownBlock] at r5
    · exact ⟨_, r5, Nat.le_refl _⟩
  · by_cases hroom : n + 1 ≤ cap
    · obtain ⟨w', r1, r2, r3⟩ := run_append_fits (P := P) w 0 t ty e i size ht hi hsize g n cap xs hown a 1 1 news hl' hnews h1 hroom
      exact ⟨_, w', r1, r2, .inl ⟨g, rfl, rfl, r3⟩⟩
    · obtain ⟨v', w', r1, r2, r3⟩ := run_append_arg_grows (P := P) w t ty e i z size bytes ht hi hz hsize hby hzs hsz ⟨g, 0, none⟩ n cap xs hown.1 (hown.cells (g := g) rfl) a 1 1 news hl' hnews (by omega) h63 hbytes
      refine ⟨v', w', r1, ⟨r2.1, ?_⟩, .inr ⟨?_, r3⟩⟩
      · rcases r2.2 with h | ⟨g', c', cu, h1, h2, h3⟩
        · exact .inl h
        · exact .inr ⟨g', c', cu, h1, Nat.zero_le _, h3⟩
      · rcases r2.2 with ⟨_, h0⟩ | ⟨g', c', cu, rfl, h2, h3⟩
        · omega
        · exact ⟨g', rfl, h2⟩

/-- The marks of list i: in its places, and behind them. -/
def mkF (i : Nat) (k : Nat) : Fd := ⟨0, i * 1000 + k, 0⟩
def apF (i n : Nat) (k : Nat) : Fd := if k < n then mkF i k else ⟨0, (-1 - (i : Int)) * 1000 - ((k - n : Nat) : Int), 0⟩
def cmF (C : Nat → Nat → Fd) (i k : Nat) (j k' : Nat) : Fd := if j < i ∨ (j = i ∧ k' < k) then mkF j k' else C j k'
def bks (N : Nat) (V : Nat → Value) (b : Nat) : Prop := ∃ j, j < N ∧ (V j).ownBlock = some b
/-- The lists lie apart, and apart from the list of them. -/
structure Aprt (w : World) (g N : Nat) (V : Nat → Value) : Prop where
  dis : ∀ j j', j < N → j' < N → j ≠ j' → ∀ b, (V j).ownBlock = some b → (V j').ownBlock ≠ some b
  far : ∀ j, j < N → (V j).ownBlock ≠ some g
  old : ∀ j, j < N → ∀ b, (V j).ownBlock = some b → b < w.heap.size
  gl : g < w.heap.size
/-- While the lists are marked. -/
structure P1 (w v : World) (g N : Nat) (V : Nat → Value) (n : Nat → Nat) (C : Nat → Nat → Fd) : Prop where
  row : ∀ j, j < N → Row v 66 3 (V j) (n j) (fdF (C j))
  cell : ∀ j, j < N → v.cell? ⟨g, j, none⟩ = some (V j)
  mv : Mv w v (bks N V)
theorem P1.congr {w v : World} {g N : Nat} {V : Nat → Value} {n : Nat → Nat} {C D : Nat → Nat → Fd} (h : P1 w v g N V n C) (he : ∀ j, j < N → ∀ k, k < n j → C j k = D j k) : P1 w v g N V n D :=
  ⟨fun j hj => (h.row j hj).congr (fun k hk => by
    have := he j hj (k / 3) (by omega)
    unfold fdF; rw [this]), h.cell, h.mv⟩
theorem fdF_set (A : Nat → Fd) (x : Fd) (k j : Nat) : (if j = k * 3 + 2 then Value.int .i64 x.b else if j = k * 3 + 1 then Value.int .i64 x.a else if j = k * 3 then Value.int .u8 x.k else fdF A j) = fdF (fun q => if q = k then x else A q) j := by
  unfold fdF
  by_cases h2 : j = k * 3 + 2
  · subst h2
    rw [if_pos rfl, if_neg (show ¬ (k * 3 + 2) % 3 = 0 by omega), if_neg (show ¬ (k * 3 + 2) % 3 = 1 by omega)]
    simp only [show (k * 3 + 2) / 3 = k by omega, if_true]
  · rw [if_neg h2]
    by_cases h1 : j = k * 3 + 1
    · subst h1
      rw [if_pos rfl, if_neg (show ¬ (k * 3 + 1) % 3 = 0 by omega), if_pos (show (k * 3 + 1) % 3 = 1 by omega)]
      simp only [show (k * 3 + 1) / 3 = k by omega, if_true]
    · rw [if_neg h1]
      by_cases h0 : j = k * 3
      · subst h0
        rw [if_pos rfl, if_pos (show k * 3 % 3 = 0 by omega)]
        simp only [show k * 3 / 3 = k by omega, if_true]
      · rw [if_neg h0]
        simp only [show ¬ j / 3 = k by omega, if_false]
theorem P1.put {w v : World} {g N : Nat} {V : Nat → Value} {n : Nat → Nat} {C : Nat → Nat → Fd} (ap : Aprt w g N V) (h : P1 w v g N V n C) {i k b c : Nat} (hi : i < N) (hV : V i = .slice (some ⟨b, 0, none⟩) (n i) c) (x : Fd) :
    P1 w (((v.setCell ⟨b, k * 3, none⟩ (.int .u8 x.k)).setCell ⟨b, k * 3 + 1, none⟩ (.int .i64 x.a)).setCell ⟨b, k * 3 + 2, none⟩ (.int .i64 x.b)) g N V n (fun j k' => if j = i ∧ k' = k then x else C j k') := by
  have hb : (V i).ownBlock = some b := by rw [hV]; rfl
  have hF : bks N V b := ⟨i, hi, hb⟩
  have hblk : ∀ q, q ≠ b → (((v.setCell ⟨b, k * 3, none⟩ (.int .u8 x.k)).setCell ⟨b, k * 3 + 1, none⟩ (.int .i64 x.a)).setCell ⟨b, k * 3 + 2, none⟩ (.int .i64 x.b)).heap[q]? = v.heap[q]? := fun q hq => by
    rw [Below.heap_setCell _ _ _ _ (by exact hq), Below.heap_setCell _ _ _ _ (by exact hq), Below.heap_setCell _ _ _ _ (by exact hq)]
  refine ⟨fun j hj => ?_, fun j hj => ?_, ((h.mv.setCell (.inl hF) _).setCell (.inl hF) _).setCell (.inl hF) _⟩
  · by_cases e : j = i
    · subst e
      have hr := h.row j hj
      rw [hV] at hr ⊢
      have := ((hr.set (k * 3) (.int .u8 x.k)).set (k * 3 + 1) (.int .i64 x.a)).set (k * 3 + 2) (.int .i64 x.b)
      refine this.congr fun q _ => ?_
      have e := fdF_set (C j) x k q
      simp only at e ⊢
      rw [e]
      unfold fdF
      simp
    · refine ((h.row j hj).of_block (fun q hq => hblk q (fun e2 => ?_))).congr (fun q _ => ?_)
      · subst e2; exact ap.dis j i hj hi e q hq hb
      · unfold fdF; simp [e]
  · rw [World.cell?_of_block (hblk g (fun e => ap.far i hi (by rw [hb, e])))]
    exact h.cell j hj
/-- What is read of a list: in its own block. -/
def Rd (v : World) (V : Value) (n : Nat) (A : Nat → Fd) : Prop := ∀ k, k < n → ∃ b c, V = .slice (some ⟨b, 0, none⟩) n c ∧ FdAt v b (k * 3) (A k)
theorem Rd.of_row {v : World} {V : Value} {n : Nat} {A : Nat → Fd} (h : Row v 66 3 V n (fdF A)) : Rd v V n A := by
  intro k hk
  obtain ⟨ao, c, rfl, h1, _⟩ := h.form
  obtain ⟨b, rfl⟩ := h1 (by omega)
  refine ⟨b, c, rfl, ⟨?_, ?_, ?_⟩⟩
  · rw [h.cell (by omega), fdF0]
  · rw [h.cell (by omega), fdF1]
  · rw [h.cell (by omega), fdF2]
theorem FdAt.blk {w w' : World} {b o : Nat} {e : Fd} (h : FdAt w b o e) (hb : w'.heap[b]? = w.heap[b]?) : FdAt w' b o e :=
  ⟨(World.cell?_of_block hb).trans h.c0, (World.cell?_of_block hb).trans h.c1, (World.cell?_of_block hb).trans h.c2⟩
theorem Rd.blk {v v' : World} {V : Value} {n : Nat} {A : Nat → Fd} (h : Rd v V n A) (hb : ∀ b, V.ownBlock = some b → v'.heap[b]? = v.heap[b]?) : Rd v' V n A := by
  intro k hk
  obtain ⟨b, c, e, hf⟩ := h k hk
  exact ⟨b, c, e, hf.blk (hb b (by rw [e]; rfl))⟩
/-- A list that is written on in its own block reads as before. -/
theorem Rd.same {v : World} {V X : Value} {n m g : Nat} {A B : Nat → Fd} (h : Rd v V n A) {v' : World} (hX : Row v' 66 3 X m (fdF B)) (hg : X.ownBlock = some g) (hV : V.ownBlock = some g) (hm : n ≤ m) (he : ∀ k, k < n → B k = A k) : Rd v' V n A := by
  intro k hk
  obtain ⟨b, c, rfl, _⟩ := h k hk
  obtain ⟨b', c', rfl, hf⟩ := Rd.of_row hX k (by omega)
  simp [Value.ownBlock] at hg hV
  subst hg; subst hV
  refine ⟨_, c, rfl, ?_⟩
  rw [← he k hk]; exact hf
/-- While they grow: the first i have grown. -/
structure P2 (w v : World) (g N : Nat) (V : Nat → Value) (n : Nat → Nat) (i : Nat) (U : Nat → Value) (lv : Value) : Prop where
  rd : ∀ j, j < N → Rd v (V j) (n j) (mkF j)
  row : ∀ j, i ≤ j → j < N → Row v 66 3 (V j) (n j) (fdF (mkF j))
  urow : ∀ j, j < i → Row v 66 3 (U j) (n j + 16) (fdF (apF j (n j)))
  uown : ∀ j, j < i → (U j).ownBlock = (V j).ownBlock ∨ ∃ b, (U j).ownBlock = some b ∧ w.heap.size ≤ b
  udis : ∀ j j', j < i → j' < i → j ≠ j' → ∀ b, (U j).ownBlock = some b → (U j').ownBlock ≠ some b
  long : Row v 25 1 lv i U
  lnew : ∀ b, lv.ownBlock = some b → w.heap.size ≤ b
  cell : ∀ j, j < N → v.cell? ⟨g, j, none⟩ = some (V j)
  mv : Mv w v (bks N V)
/-- While list i grows: it is X, with k more. -/
structure P3 (w v : World) (g N : Nat) (V : Nat → Value) (n : Nat → Nat) (i : Nat) (U : Nat → Value) (lv : Value) (k : Nat) (X : Value) : Prop where
  rd : ∀ j, j < N → Rd v (V j) (n j) (mkF j)
  row : ∀ j, i < j → j < N → Row v 66 3 (V j) (n j) (fdF (mkF j))
  urow : ∀ j, j < i → Row v 66 3 (U j) (n j + 16) (fdF (apF j (n j)))
  uown : ∀ j, j < i → (U j).ownBlock = (V j).ownBlock ∨ ∃ b, (U j).ownBlock = some b ∧ w.heap.size ≤ b
  udis : ∀ j j', j < i → j' < i → j ≠ j' → ∀ b, (U j).ownBlock = some b → (U j').ownBlock ≠ some b
  xrow : Row v 66 3 X (n i + k) (fdF (apF i (n i)))
  xown : X.ownBlock = (V i).ownBlock ∨ ∃ b, X.ownBlock = some b ∧ w.heap.size ≤ b
  xdis : ∀ j, j < i → ∀ b, X.ownBlock = some b → (U j).ownBlock ≠ some b
  long : Row v 25 1 lv i U
  lnew : ∀ b, lv.ownBlock = some b → w.heap.size ≤ b
  cell : ∀ j, j < N → v.cell? ⟨g, j, none⟩ = some (V j)
  mv : Mv w v (bks N V)
theorem P2.begin {w v : World} {g N : Nat} {V : Nat → Value} {n : Nat → Nat} {i : Nat} {U : Nat → Value} {lv : Value} (ap : Aprt w g N V) (h : P2 w v g N V n i U lv) (hi : i < N) : P3 w v g N V n i U lv 0 (V i) :=
  ⟨h.rd, fun j hj => h.row j (by omega), h.urow, h.uown, h.udis, (h.row i (Nat.le_refl _) hi).congr (fun q hq => by
      have : q / 3 < n i := by omega
      unfold fdF apF; rw [if_pos this]), .inl rfl, fun j hj b hb e => by
      rcases h.uown j hj with h1 | ⟨b', h1, h2⟩
      · rw [h1] at e; exact ap.dis i j hi (by omega) (by omega) b hb e
      · rw [h1] at e; cases e; have := ap.old i hi _ hb; omega, h.long, h.lnew, h.cell, h.mv⟩
theorem P3.call {w v v' : World} {g N : Nat} {V : Nat → Value} {n : Nat → Nat} {i : Nat} {U : Nat → Value} {lv : Value} {k : Nat} {X : Value} (ap : Aprt w g N V) (h : P3 w v g N V n i U lv k X) (hb : Below v.heap.size v v') : P3 w v' g N V n i U lv k X := by
  have keep : ∀ {e : TypeId} {s m : Nat} {x : Value} {f : Nat → Value}, Row v e s x m f → Row v' e s x m f := fun hr => hr.of_block (fun b hbb => hb.block b (hr.lt b hbb))
  refine ⟨fun j hj => (h.rd j hj).blk (fun b hbb => hb.block b (Nat.lt_of_lt_of_le (ap.old j hj b hbb) h.mv.size)), fun j h1 h2 => keep (h.row j h1 h2), fun j hj => keep (h.urow j hj), h.uown, h.udis, keep h.xrow, h.xown, h.xdis, keep h.long, h.lnew, fun j hj => ?_, ?_⟩
  · rw [hb.cell (show (⟨g, j, none⟩ : Addr).block < _ from Nat.lt_of_lt_of_le ap.gl h.mv.size)]; exact h.cell j hj
  · exact h.mv.trans (F' := fun _ => False) ⟨hb.os, hb.tape, hb.output, hb.size, fun b hbb _ => hb.block b hbb⟩ (fun b e => e.elim)
/-- One more behind X. -/
theorem P3.app {w v v' : World} {g N : Nat} {V : Nat → Value} {n : Nat → Nat} {i : Nat} {U : Nat → Value} {lv : Value} {k : Nat} {X X' : Value} (ap : Aprt w g N V) (hi : i < N) (h : P3 w v g N V n i U lv k X)
    (hr : Row v' 66 3 X' (n i + (k + 1)) (fdF (apF i (n i))))
    (hc : (∃ q, X.ownBlock = some q ∧ X'.ownBlock = some q ∧ v.grownBy v' (some q)) ∨ ((∃ q, X'.ownBlock = some q ∧ v.heap.size ≤ q) ∧ v.grownBy v' none)) : P3 w v' g N V n i U lv (k + 1) X' := by
  rcases hc with ⟨q, e1, e2, hg⟩ | ⟨⟨q, e2, hq⟩, hg⟩
  · have hblk : ∀ b, b < v.heap.size → b ≠ q → v'.heap[b]? = v.heap[b]? := fun b hb hne => hg.block b hb (fun e => hne (by cases e; rfl))
    have keep : ∀ {e : TypeId} {s m : Nat} {x : Value} {f : Nat → Value}, Row v e s x m f → (∀ b, x.ownBlock = some b → b ≠ q) → Row v' e s x m f := fun hr hne => hr.of_block (fun b hb => hblk b (hr.lt b hb) (hne b hb))
    have vne : ∀ j, j < N → j ≠ i → ∀ b, (V j).ownBlock = some b → b ≠ q := by
      intro j hj hne b hb e
      subst e
      rcases h.xown with h1 | ⟨b', h1, h2⟩
      · exact ap.dis j i hj hi hne b hb (by rw [← h1]; exact e1)
      · rw [e1] at h1; cases h1; have := ap.old j hj b hb; omega
    have gne : g ≠ q := by
      intro e
      rcases h.xown with h1 | ⟨b', h1, h2⟩
      · exact ap.far i hi (by rw [← h1, e1, e])
      · rw [e1] at h1; cases h1; have := ap.gl; omega
    have hF : bks N V q ∨ w.heap.size ≤ q := by
      rcases h.xown with h1 | ⟨b', h1, h2⟩
      · exact .inl ⟨i, hi, by rw [← h1]; exact e1⟩
      · rw [e1] at h1; cases h1; exact .inr h2
    refine ⟨fun j hj => ?_, fun j h1 h2 => keep (h.row j h1 h2) (vne j h2 (by omega)), fun j hj => keep (h.urow j hj) (fun b hb e => ?_), h.uown, h.udis, hr, ?_, fun j hj b hb => ?_, keep h.long (fun b hb e => ?_), h.lnew, fun j hj => ?_, ?_⟩
    · by_cases hji : j = i
      · subst hji
        rcases h.xown with h1 | ⟨b', h1, h2⟩
        · exact (h.rd j hj).same hr e2 (by rw [← h1]; exact e1) (by omega) (fun k' hk' => by unfold apF; rw [if_pos hk'])
        · rw [e1] at h1; cases h1
          exact (h.rd j hj).blk (fun b hb => hblk b (Nat.lt_of_lt_of_le (ap.old j hj b hb) h.mv.size) (by have := ap.old j hj b hb; omega))
      · exact (h.rd j hj).blk (fun b hb => hblk b (Nat.lt_of_lt_of_le (ap.old j hj b hb) h.mv.size) (vne j hj hji b hb))
    · subst e; exact h.xdis j hj b e1 hb
    · rcases h.xown with h1 | h1
      · exact .inl (by rw [e2, ← h1, e1])
      · exact .inr (by rw [e2, ← e1]; exact h1)
    · rw [e2] at hb; exact h.xdis j hj b (by rw [e1]; exact hb)
    · subst e; exact (h.xrow.apart h.long (by decide)) b e1 hb
    · rw [World.cell?_of_block (hblk g (Nat.lt_of_lt_of_le ap.gl h.mv.size) gne)]; exact h.cell j hj
    · exact h.mv.grown hg (fun b e => by cases e; exact hF)
  · have hblk : ∀ b, b < v.heap.size → v'.heap[b]? = v.heap[b]? := fun b hb => hg.block b hb (fun e => by cases e)
    have keep : ∀ {e : TypeId} {s m : Nat} {x : Value} {f : Nat → Value}, Row v e s x m f → Row v' e s x m f := fun hr => hr.of_block (fun b hb => hblk b (hr.lt b hb))
    have hsz := h.mv.size
    refine ⟨fun j hj => (h.rd j hj).blk (fun b hb => hblk b (Nat.lt_of_lt_of_le (ap.old j hj b hb) hsz)), fun j h1 h2 => keep (h.row j h1 h2), fun j hj => keep (h.urow j hj), h.uown, h.udis, hr, .inr ⟨q, e2, by omega⟩, fun j hj b hb e => ?_, keep h.long, h.lnew, fun j hj => ?_, h.mv.grown hg (fun b e => by cases e)⟩
    · rw [e2] at hb; cases hb
      have := (h.urow j hj).lt _ e
      omega
    · rw [World.cell?_of_block (hblk g (Nat.lt_of_lt_of_le ap.gl hsz))]; exact h.cell j hj
/-- List i has grown: it is put down. -/
theorem P3.fin {w v v' : World} {g N : Nat} {V : Nat → Value} {n : Nat → Nat} {i : Nat} {U : Nat → Value} {lv lv' : Value} {X : Value} (ap : Aprt w g N V) (h : P3 w v g N V n i U lv 16 X)
    (hr : Row v' 25 1 lv' (i + 1) (fun j => if j = i then X else U j)) (hg : v.grownBy v' lv.ownBlock) (ho : lv'.ownBlock = lv.ownBlock ∨ lv'.ownBlock = some v.heap.size) :
    P2 w v' g N V n (i + 1) (fun j => if j = i then X else U j) lv' := by
  have hblk : ∀ b, b < v.heap.size → lv.ownBlock ≠ some b → v'.heap[b]? = v.heap[b]? := fun b hb hne => hg.block b hb (fun e => hne e.symm)
  have keep : ∀ {m : Nat} {x : Value} {f : Nat → Value}, Row v 66 3 x m f → Row v' 66 3 x m f := fun hr => hr.of_block (fun b hb => hblk b (hr.lt b hb) (fun e => (hr.apart h.long (by decide)) b hb e))
  have lold : ∀ b, b < w.heap.size → lv.ownBlock ≠ some b := fun b hb e => by have := h.lnew b e; omega
  have hsz := h.mv.size
  refine ⟨fun j hj => (h.rd j hj).blk (fun b hb => hblk b (Nat.lt_of_lt_of_le (ap.old j hj b hb) hsz) (lold b (ap.old j hj b hb))), fun j h1 h2 => keep (h.row j (by omega) h2), fun j hj => ?_, fun j hj => ?_, fun j j' hj hj' hne b => ?_, hr, fun b hb => ?_, fun j hj => ?_, h.mv.grown hg (fun b e => .inr (h.lnew b e))⟩
  · by_cases e : j = i
    · subst e; simp only [if_true]; exact keep h.xrow
    · simp only [e, if_false]; exact keep (h.urow j (by omega))
  · by_cases e : j = i
    · subst e; simp only [if_true]; exact h.xown
    · simp only [e, if_false]; exact h.uown j (by omega)
  · by_cases e : j = i
    · subst e
      simp only [if_true, show ¬ j' = j from fun x => hne x.symm, if_false]
      exact fun hb => h.xdis j' (by omega) b hb
    · by_cases e' : j' = i
      · subst e'
        simp only [e, if_false, if_true]
        exact fun hb hb' => h.xdis j (by omega) b hb' hb
      · simp only [e, e', if_false]
        exact h.udis j j' (by omega) (by omega) hne b
  · rcases ho with h1 | h1
    · rw [h1] at hb; exact h.lnew b hb
    · rw [h1] at hb; cases hb; exact hsz
  · rw [World.cell?_of_block (hblk g (Nat.lt_of_lt_of_le ap.gl hsz) (lold g ap.gl))]; exact h.cell j hj
end Go.Proofs.Ytjjmpfpbfkploaa
