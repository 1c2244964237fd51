import Derived.Test.YtighocmdlifheaaGreatDoorM12
import Derived.Deep.AppendLies
import Derived.Test.YtighocmdlifheaaGreatDoorM11
/-
  A book of nodes while expressions come in.
-/
namespace Go.Proofs.YtighocmdlifheaaGreatDoor
open Go.RowKit
set_option linter.unusedVariables false
set_option linter.unusedSimpArgs false
theorem oneAt (x : Value) : ∀ j, j < 1 → [x][j]? = some ((fun _ => x) j) := by
  intro j hj
  obtain rfl : j = 0 := by omega
  rfl
/-- Lists in a book, in blocks of A; each is as ok says. -/
def LE (e le : TypeId) (s : Nat) (ok : (Nat → Value) → Nat → Prop) (A : Nat → Prop) (w : World) (lv : Value) (N : Nat) : Prop :=
  ∃ V n C, Lk e le s w lv N V n C ∧ (∀ j, j < N → ok (C j) (n j) ∧ n j ≤ 100000000) ∧ ∀ b, bks N V b → A b
section
variable {e le : TypeId} {s : Nat} {ok : (Nat → Value) → Nat → Prop} {A A' F : Nat → Prop} {w v v' : World} {lv : Value} {N : Nat}
theorem LE.keep (h : LE e le s ok A v lv N) (m : Mv v v' F) (hF : ∀ b, F b → ¬ A b ∧ lv.ownBlock ≠ some b) (hA : ∀ b, A b → A' b) : LE e le s ok A' v' lv N := by
  obtain ⟨V, n, C, h1, h2, h3⟩ := h
  exact ⟨V, n, C, ⟨fun j hj => m.rowX (h1.row j hj) (fun b hb hf => (hF b hf).1 (h3 b ⟨j, hj, hb⟩)), m.row h1.long (fun b hb hf => (hF b hf).2 hb), h1.dis⟩, h2, fun b hb => hA b (h3 b hb)⟩
theorem LE.more {V : Nat → Value} {n : Nat → Nat} {C : Nat → Nat → Value} {X lv' : Value} {mx : Nat} {f : Nat → Value} (h1 : Lk e le s v lv N V n C) (h2 : ∀ j, j < N → ok (C j) (n j) ∧ n j ≤ 100000000) (h3 : ∀ b, bks N V b → A b) (m : Mv v v' F) (hF : ∀ b, F b → ¬ A b)
    (hX : RowX v' e s X mx f) (hok : ok f mx) (hmx : mx ≤ 100000000) (hXA : ∀ b, X.ownBlock = some b → ¬ A b) (hl : Row v' le 1 lv' (N + 1) (fun j => if j = N then X else V j)) : LE e le s ok (fun b => A b ∨ X.ownBlock = some b) v' lv' (N + 1) := by
  refine ⟨fun j => if j = N then X else V j, fun j => if j = N then mx else n j, fun j => if j = N then f else C j, ⟨fun j hj => ?_, hl, fun j j' hj hj' hne b => ?_⟩, fun j hj => ?_, fun b hb => ?_⟩
  · by_cases e1 : j = N
    · simp only [e1, if_true]; exact hX
    · simp only [e1, if_false]
      exact m.rowX (h1.row j (by omega)) (fun b hb hf => hF b hf (h3 b ⟨j, by omega, hb⟩))
  · by_cases e1 : j = N
    · have e2 : ¬ j' = N := by omega
      simp only [e1, e2, if_true, if_false]
      exact fun hb hb' => hXA b hb (h3 b ⟨j', by omega, hb'⟩)
    · by_cases e2 : j' = N
      · simp only [e1, e2, if_true, if_false]
        exact fun hb hb' => hXA b hb' (h3 b ⟨j, by omega, hb⟩)
      · simp only [e1, e2, if_false]
        exact h1.dis j j' (by omega) (by omega) hne b
  · by_cases e1 : j = N
    · simp only [e1, if_true]; exact ⟨hok, hmx⟩
    · simp only [e1, if_false]; exact h2 j (by omega)
  · obtain ⟨j, hj, hb⟩ := hb
    by_cases e1 : j = N
    · simp only [e1, if_true] at hb; exact .inr hb
    · simp only [e1, if_false] at hb; exact .inl (h3 b ⟨j, by omega, hb⟩)
theorem LE.lt (h : LE e le s ok A v lv N) : ∀ b, lv.ownBlock = some b → ∃ c fz, v.heap[b]? = some (.cells c le fz) := by
  obtain ⟨V, n, C, h1, _⟩ := h
  exact h1.long.kind
theorem LE.form (h : LE e le s ok A v lv N) : ∃ ao c, lv = .slice ao N c := by
  obtain ⟨V, n, C, h1, _⟩ := h
  obtain ⟨ao, c, e1, _⟩ := h1.long.form
  exact ⟨ao, c, e1⟩
theorem step_lk {V : Nat → Value} {X : Value} {o : Oper} {ops : Array Oper} {a : Act} {K : Act → World → Prop} {Q : Exit → Act → World → Prop} {E : Prop} (hL : Row v le 1 lv N V) (hX1 : X.oneCell' = true) (ll : TypeId) (ht : Tryz.prog.underlying ll = some (.slice le))
    (hi : (Tryz.prog.info? le).map (fun i => (i.zero, i.size, i.bytes)) = some (some (.slice none 0 0), 1, 24)) (hN : N ≤ 3000000) (hgd : o.guard = none) (d x : Operand)
    (ho : o.op = .call { callee := .builtin .append, args := #[d, x], argTypes := #[ll, ll] }) (hs : a.eval d = lv) (hx : a.eval x = .slice (some ⟨v.heap.size, 0, none⟩) 1 1)
    (h : ∀ g cap w', Row w' le 1 (.slice (some ⟨g, 0, none⟩) (N + 1) cap) (N + 1) (fun j => if j = N then X else V j) → (v.alloc (.cells #[X] le)).grownBy w' lv.ownBlock → (lv.ownBlock = some g ∨ g = v.heap.size + 1) → K (a.put o.dst (.slice (some ⟨g, 0, none⟩) (N + 1) cap)) w') :
    if Region.wanted o (yielded ops a.tmps) = true then Oper.wp Tryz.prog o a (v.alloc (.cells #[X] le)) K Q else E := by
  obtain ⟨i0, hi0, hz0, hz1, hz2⟩ := info_parts hi
  have hA := hL.alloc (.cells #[X] le)
  refine step_append_lies _ hgd d x ll ho 0 le i0 _ 1 24 ht hi0 hz0 hz1 hz2 rfl (by decide) lv N _ hs hA ⟨v.heap.size, 0, none⟩ 1 1 [X] hx rfl (World.news_of_block (heap_new v _)) (fun u hu => by simp at hu; rw [hu]; exact hX1) (by decide) (by unfold maxLen; omega) (by omega) (Nat.zero_le _) _ rfl ?_
  intro g cap w' h2 h3 h4 _
  refine h g cap w' ?_ h3 (h4.imp id (fun e => by rw [e, size_alloc]))
  have hr := Row.snoc (x := fun _ => X) h2 rfl (oneAt X)
  refine hr.congr fun j hj => ?_
  by_cases e : j < N * 1
  · rw [if_pos e, if_neg (show ¬ j = N by omega)]
  · rw [if_neg e, if_pos (show j = N by omega)]
end
def oqN (f : Nat → Value) (m : Nat) : Prop := ∀ k, k < m → ∃ p, f (k * 8 + 7) = .int .i64 p
/-- The book, while expressions come in: U: the blocks of expressions (they lie as they lay in w1), A: those that are in. -/
structure TBn (w0 w1 : World) (bk : Nat) (U A : Nat → Prop) (NI : Nat) (v : World) (lI : Value) : Prop where
  B : v.heap[bk]? = some (.cells (trN lI) 47 (0, 0))
  I : LE 55 53 8 oqN A v lI NI
  sub : ∀ b, A b → U b
  out : ∀ b, U b → b ≠ bk ∧ lI.ownBlock ≠ some b
  old : ∀ b, U b → b < w1.heap.size
  same : ∀ b, U b → v.heap[b]? = w1.heap[b]?
  sz : w1.heap.size ≤ v.heap.size
  new : w0.heap.size ≤ bk ∧ (∀ b, lI.ownBlock = some b → w0.heap.size ≤ b)
  B0 : Below w0.heap.size w0 v
section
variable {w0 w1 v : World} {bk : Nat} {U A : Nat → Prop} {NI : Nat} {lI : Value}
theorem TBn.hid (h : TBn w0 w1 bk U A NI v lI) : Hid (TBn w0 w1 bk U A NI v lI) := h
theorem TBn.add (h : TBn w0 w1 bk U A NI v lI) {V : Nat → Value} {n : Nat → Nat} {C : Nat → Nat → Value} (h1 : Lk 55 53 8 v lI NI V n C) (h2 : ∀ j, j < NI → oqN (C j) (n j) ∧ n j ≤ 100000000) (h3 : ∀ b, bks NI V b → A b) {X : Value} {mx : Nat} {f : Nat → Value} (hX : RowX w1 55 8 X mx f) (hok : oqN f mx) (hmx : mx ≤ 100000000) (hXU : ∀ b, X.ownBlock = some b → U b ∧ ¬ A b)
    {g cap : Nat} {w' : World} (hr : Row w' 53 1 (.slice (some ⟨g, 0, none⟩) (NI + 1) cap) (NI + 1) (fun j => if j = NI then X else V j)) (hg : (v.alloc (.cells #[X] 53)).grownBy w' lI.ownBlock) (hq : lI.ownBlock = some g ∨ g = v.heap.size + 1) {lv' : Value} (hlv : lv' = .slice (some ⟨g, 0, none⟩) (NI + 1) cap) :
    w'.heap[bk]? = some (.cells (trN lI) 47 (0, 0)) ∧ (∀ b, U b → w'.heap[b]? = w1.heap[b]?) ∧ TBn w0 w1 bk U (fun b => A b ∨ X.ownBlock = some b) (NI + 1) (w'.setCell ⟨bk, 1, none⟩ lv') lv' := by
  have hbk := (Array.getElem?_eq_some_iff.1 h.B).1
  have kd : ∀ b, lI.ownBlock = some b → b ≠ bk := fun b hb e1 => by
    obtain ⟨c, fz, hk⟩ := h1.long.kind b hb
    rw [e1, h.B] at hk
    simp at hk
  have m0 : Mv v w' (fun b => lI.ownBlock = some b) := ((Mv.refl v _).alloc _).grown hg (fun b e1 => .inl e1)
  have hB : w'.heap[bk]? = some (.cells (trN lI) 47 (0, 0)) := (m0.block bk hbk (fun e1 => kd bk e1 rfl)).trans h.B
  have hsm : ∀ b, U b → w'.heap[b]? = w1.heap[b]? := fun b hb => (m0.block b (Nat.lt_of_lt_of_le (h.old b hb) h.sz) (h.out b hb).2).trans (h.same b hb)
  have m1 : Mv v (w'.setCell ⟨bk, 1, none⟩ lv') (fun b => b = bk ∨ lI.ownBlock = some b) := (m0.mono (fun b hb => .inr hb)).setCell (.inl (.inl rfl)) _
  have hF : ∀ b, (b = bk ∨ lI.ownBlock = some b) → ¬ A b := fun b hb ha => hb.elim (h.out b (h.sub b ha)).1 (h.out b (h.sub b ha)).2
  have sset : ∀ b, b ≠ bk → (w'.setCell ⟨bk, 1, none⟩ lv').heap[b]? = w'.heap[b]? := fun b hb => Below.heap_setCell _ _ _ _ hb
  have hsU : ∀ b, U b → (w'.setCell ⟨bk, 1, none⟩ lv').heap[b]? = w1.heap[b]? := fun b hb => (sset b (h.out b hb).1).trans (hsm b hb)
  have hkB : ∀ {e1 : TypeId} {s1 m1 : Nat} {x : Value} {f1 : Nat → Value}, Row w' e1 s1 x m1 f1 → e1 ≠ 47 → x.ownBlock ≠ some bk := fun hx he e2 => by
    obtain ⟨c, fz, hk⟩ := hx.kind bk e2
    rw [hB] at hk
    simp at hk
    exact he hk.2.1.symm
  have hlo : ∀ b, lv'.ownBlock = some b → lI.ownBlock = some b ∨ b = v.heap.size + 1 := fun b hb => by
    rw [hlv] at hb
    have eg : g = b := by simpa [Value.ownBlock] using hb
    rw [← eg]; exact hq
  have hzz := m1.size
  refine ⟨hB, hsm, ⟨?_, ?_, fun b hb => hb.elim (h.sub b) (fun e1 => (hXU b e1).1), fun b hb => ?_, h.old, hsU, Nat.le_trans h.sz hzz, ?_, ?_⟩⟩
  · rw [hlv]; exact heap_set _ hB
  · have hlr : Row (w'.setCell ⟨bk, 1, none⟩ lv') 53 1 lv' (NI + 1) (fun j => if j = NI then X else V j) := by
      have hr' : Row w' 53 1 lv' (NI + 1) (fun j => if j = NI then X else V j) := by rw [hlv]; exact hr
      exact hr'.of_block (fun b hb => sset b (fun e1 => hkB hr' (by decide) (by rw [hb, e1])))
    exact LE.more h1 h2 h3 m1 hF (hX.of_block (fun b hb => hsU b (hXU b hb).1)) hok hmx (fun b hb => (hXU b hb).2) hlr
  · obtain ⟨o0, o1⟩ := h.out b hb
    refine ⟨o0, ?_⟩
    intro e1
    have hbl := Nat.lt_of_lt_of_le (h.old b hb) h.sz
    rcases hlo b e1 with e2 | e2
    · exact o1 e2
    · omega
  · obtain ⟨n0, n1⟩ := h.new
    refine ⟨n0, ?_⟩
    intro b e1
    have hbl := h.B0.size
    rcases hlo b e1 with e2 | e2
    · exact n1 b e2
    · omega
  · exact h.B0.trans (m1.below h.B0.size (fun b hb => hb.elim (fun e1 => by rw [e1]; exact h.new.1) (h.new.2 b)))
theorem TBn.own (h : TBn w0 w1 bk U A NI v lI) (hm : NI ≤ 3000000) : Calls Tryz.prog 16 #[.pointer (some ⟨bk, 0, none⟩)] v fun e w' => e = .returned (.bool true) ∧ Mv v w' A := by
  obtain ⟨VI, nI, CI, i1, i2, i3⟩ := h.I
  refine (treesOwn_any v bk lI NI VI nI CI h.B i1 (fun j k hj hk => (i2 j hj).1 k hk) hm (fun j hj => (i2 j hj).2)).mono ?_
  rintro e w' ⟨h1, h2⟩
  exact ⟨h1, h2.mono (fun b hb => i3 b hb)⟩
end
end Go.Proofs.YtighocmdlifheaaGreatDoor

/-
  LendNode once more: each list of what is lent lies in a block of its own.
-/
namespace Go.Proofs.YtighocmdlifheaaGreatDoor
open Go.RowKit
set_option linter.unusedVariables false
set_option linter.unusedSimpArgs false
/-- So many have been lent, apart from one another, in blocks behind G. -/
structure LSp (n G : Nat) (L : List Nd) (Q : Nat → Nat → Prop) : Prop where
  y : ∀ j (h : j < L.length), Sp L[j] (Q j)
  q : ∀ j b, Q j b → G < b ∧ b < n
  d : ∀ i j b, Q i b → Q j b → i = j
  z : ∀ j b, L.length ≤ j → ¬ Q j b
/-- A block of n nodes. -/
def Bl (w : World) (b n : Nat) : Prop := ∃ cur, w.heap[b]? = some (.cells cur 55 (0, 0)) ∧ cur.size = n * 8
theorem Bl.set {w : World} {b n : Nat} (h : Bl w b n) (o : Nat) (x : Value) : Bl (w.setCell ⟨b, o, none⟩ x) b n := by
  obtain ⟨cur, h1, h2⟩ := h
  exact ⟨_, heap_set x h1, by simpa using h2⟩
theorem Bl.sets {b n : Nat} : ∀ (cs : List Value) (o : Nat) {w : World}, Bl w b n → Bl (w.setCells b o cs) b n
  | [], _, _, h => h
  | v :: r, o, w, h => by
    rw [World.setCells]
    exact Bl.sets r (o + 1) (h.set o v)
theorem Bl.on {w w' : World} {b n : Nat} (h : Bl w b n) (k : w'.heap[b]? = w.heap[b]?) : Bl w' b n := by
  obtain ⟨cur, h1, h2⟩ := h
  exact ⟨cur, k.trans h1, h2⟩
inductive LB (w : World) : Nd → Prop
  | mk (h : Hd) (b c : Nat) (ks : List Nd) (hb : Bl w b (ks.length + 2)) (hs : ∀ k ∈ ks, LB w k) : LB w (.mk h (some ⟨b, 0, none⟩) c ks)
theorem LB.blk {w w' : World} {lo : Nat} {m : Nd} (h : LB w m) (k : ∀ b, lo ≤ b → b < w.heap.size → w'.heap[b]? = w.heap[b]?) : Lnt w lo m → LB w' m := by
  induction h with
  | mk h b c ks hb hs ih =>
    intro hl
    cases hl with
    | mk _ _ _ _ hr hc hm hb' m0 m1 hk hs' =>
      exact .mk h b c ks (hb.on (k b hb' (World.block_lt_of_cell? w _ m0))) (fun x hx => ih x hx (hs' x hx))
theorem LB.on {w w' : World} {lo : Nat} {m : Nd} (h : LB w m) (hl : Lnt w lo m) (k : Below w.heap.size w w') : LB w' m := h.blk (fun b _ hb => k.block b hb) hl
/-- A list that is being lent: its block, and those of its things. -/
structure LBs (w : World) (G n : Nat) (L : List Nd) : Prop where
  b : Bl w G (n + 2)
  s : ∀ k ∈ L, LB w k
theorem LBs.put {w w1 : World} {G n : Nat} {L : List Nd} {k : Nd} (h : LBs w G n L) (hn : Ln w G n L) (hb : Below w.heap.size w w1) (hk : LB w1 k) (hl : Lnt w1 w.heap.size k) (o : Nat) (cs : List Value) : LBs (w1.setCells G o cs) G n (L ++ [k]) := by
  refine ⟨Bl.sets cs o (h.b.on (hb.block G hn.lt)), fun x hx => ?_⟩
  rcases List.mem_append.1 hx with h3 | h3
  · exact ((h.s x h3).on (hn.sub x h3) hb).blk (lo := G + 1) (fun b h4 _ => heap_cellsL _ _ _ _ _ (by omega)) ((hn.sub x h3).on hb)
  · rw [List.mem_singleton.1 h3]
    exact hk.blk (lo := w.heap.size) (fun b h4 _ => heap_cellsL _ _ _ _ _ (by have := hn.lt; omega)) hl
theorem LBs.mark {w : World} {G n : Nat} {L : List Nd} (h : LBs w G n L) (hn : Ln w G n L) (o : Nat) (v : Value) : LBs (w.setCell ⟨G, o, none⟩ v) G n L :=
  ⟨h.b.set o v, fun x hx => (h.s x hx).blk (lo := G + 1) (fun b h4 _ => Below.heap_setCell _ _ _ _ (by show b ≠ G; omega)) (hn.sub x hx)⟩
theorem LSp.snoc {n n1 G : Nat} {L : List Nd} {Q : Nat → Nat → Prop} {k : Nd} (h : LSp n G L Q) (hk : Sp k (fun b => n ≤ b ∧ b < n1)) (hn : n ≤ n1) (hG : G < n) : LSp n1 G (L ++ [k]) (fun j b => Q j b ∨ (j = L.length ∧ n ≤ b ∧ b < n1)) := by
  refine ⟨fun j hj => ?_, fun j b hb => ?_, fun a c b h1 h2 => ?_, fun j b hj hb => ?_⟩
  · by_cases hj' : j < L.length
    · rw [List.getElem_append_left hj']
      exact (h.y j hj').mono fun b hb => .inl hb
    · have e : j = L.length := by rw [List.length_append] at hj; simp at hj; omega
      subst e
      rw [List.getElem_append_right (by omega)]
      simp only [Nat.sub_self, List.getElem_singleton]
      exact hk.mono fun b hb => .inr (by simpa using hb)
  · rcases hb with hb | ⟨_, hb⟩
    · have := h.q j b hb; omega
    · omega
  · rcases h1 with h1 | ⟨e1, h1⟩ <;> rcases h2 with h2 | ⟨e2, h2⟩
    · exact h.d a c b h1 h2
    · have := (h.q a b h1).2; omega
    · have := (h.q c b h2).2; omega
    · omega
  · rw [List.length_append] at hj
    simp at hj
    rcases hb with hb | ⟨e, _⟩
    · exact h.z j b (by omega) hb
    · omega
theorem LSp.nd {n G lo c : Nat} {h : Hd} {L : List Nd} {Q : Nat → Nat → Prop} (s : LSp n G L Q) (hlo : lo ≤ G) (hG : G < n) : Sp (.mk h (some ⟨G, 0, none⟩) c L) (fun b => lo ≤ b ∧ b < n) := by
  refine .mk _ _ _ _ _ Q (fun x e => ?_) s.y s.d (fun i b hb => by have := s.q i b hb; omega)
  cases e
  exact ⟨⟨hlo, hG⟩, rfl, rfl, fun i hq => by have := (s.q i G hq).1; omega⟩
/-- What LendNode hands back. -/
def LentS (m : Nd) (w : World) (e : Ending) (w' : World) : Prop := ∃ m', e = .returned (.agg m'.vals) ∧ Lnt w' w.heap.size m' ∧ Sp m' (fun b => w.heap.size ≤ b ∧ b < w'.heap.size) ∧ LB w' m' ∧ treeOf m' = treeOf m ∧ Below w.heap.size w w'
set_option maxRecDepth 100000 in
set_option maxHeartbeats 8000000 in
theorem lendS_any : ∀ (m : Nd) (w : World), Lies w m → size m ≤ 900000000 → Calls Tryz.prog 19 #[.agg m.vals] w (LentS m w) := by
  refine Nd.ind fun h a c ks ih w hl hz => ?_
  have hn : ks.length ≤ 900000000 := by have := len_sizes ks; simp only [size] at hz; omega
  obtain ⟨i0, hi, hz0, hz1, hz2⟩ := info_parts infN
  obtain ⟨M, eM⟩ : ∃ M : Int, (ks.length : Int) + 2 = M := ⟨_, rfl⟩
  have hmk : ∀ W : World, (Instr.makeSlice 53 (.int .i64 M) (.int .i64 M)).run Tryz.prog W = .ok (.slice (some ⟨W.heap.size, 0, none⟩) (ks.length + 2) (ks.length + 2)) (W.alloc (.cells (madeCells #[.int .u8 0, .int .u8 0, .int .u8 0, .int .i64 0, .int .u8 0, .string ⟨#[]⟩, .slice none 0 0, .int .i64 0] ((ks.length + 2) * 8)) 55)) := by
    intro W
    have := run_make (P := Tryz.prog) W 53 55 i0 _ Tryz.underlying53 hi hz0 .i64 .i64 M M (by omega) (Int.le_refl _) (by rw [hz2]; omega) (by omega)
    rw [this, hz1, show M.toNat = ks.length + 2 by omega]
    rfl
  obtain ⟨K, eK⟩ : ∃ K, ks.length + 2 = K := ⟨_, rfl⟩
  obtain ⟨W, eW⟩ : ∃ W, (w.alloc (.cells (Nd.mk h a c ks).vals 55)).alloc (.cells #[.int .u8 0, .int .u8 0, .int .u8 0, .int .i64 0, .int .u8 0, .string ⟨#[]⟩, .slice none 0 0, .int .i64 0] 55) = W := ⟨_, rfl⟩
  have hbW : Below w.heap.size w W := by rw [← eW]; exact below_two _ _ _
  have HI : Hid (∀ k ∈ ks, ∀ (w : World), Lies w k → Calls Tryz.prog 19 #[.agg k.vals] w (LentS k w)) := fun k hk v hv => ih k hk v hv (Nat.le_trans (size_kidN hk) hz)
  have h0 : NdH W w.heap.size (.mk h a c ks) := by rw [← eW]; exact heap_old (heap_new _ _) (by rw [size_alloc]; omega)
  have h1 : W.heap[w.heap.size + 1]? = some (.cells #[.int .u8 0, .int .u8 0, .int .u8 0, .int .i64 0, .int .u8 0, .string ⟨#[]⟩, .slice none 0 0, .int .i64 0] 55 (0, 0)) := by
    rw [← eW, ← size_alloc w (.cells (Nd.mk h a c ks).vals 55)]; exact heap_new _ _
  have HBW : Hid (Below w.heap.size w W) := hbW
  have HL : Hid (Lies W (.mk h a c ks)) := hl.on hbW
  have HRg : Hid (Rg h) := hl.rg
  have HWS : Hid (W.heap.size = w.heap.size + 2) := by show _ = _; rw [← eW, size_alloc, size_alloc]
  have H0 := h0.hid
  have H1 : Hid (W.heap[w.heap.size + 1]? = some (.cells #[.int .u8 0, .int .u8 0, .int .u8 0, .int .i64 0, .int .u8 0, .string ⟨#[]⟩, .slice none 0 0, .int .i64 0] 55 (0, 0))) := h1
  have HN : Hid (ks.length ≤ 900000000) := hn
  have HMD : Hid (Ln (W.alloc (.cells (madeCells #[.int .u8 0, .int .u8 0, .int .u8 0, .int .i64 0, .int .u8 0, .string ⟨#[]⟩, .slice none 0 0, .int .i64 0] ((ks.length + 2) * 8)) 55)) W.heap.size ks.length []) := madeN W ks.length
  have HMB : Hid (Below W.heap.size W (W.alloc (.cells (madeCells #[.int .u8 0, .int .u8 0, .int .u8 0, .int .i64 0, .int .u8 0, .string ⟨#[]⟩, .slice none 0 0, .int .i64 0] ((ks.length + 2) * 8)) 55))) := below_new _ _
  have HLB0 : Hid (LBs (W.alloc (.cells (madeCells #[.int .u8 0, .int .u8 0, .int .u8 0, .int .i64 0, .int .u8 0, .string ⟨#[]⟩, .slice none 0 0, .int .i64 0] ((ks.length + 2) * 8)) 55)) W.heap.size ks.length []) := ⟨⟨_, heap_new _ _, by rw [size_madeCells]⟩, fun k hk => by cases hk⟩
  have HKK : Hid (ks.length + 2 = K) := eK
  rw [eK] at hmk HMD HMB HLB0
  have HEW : Hid ((w.alloc (.cells #[.int .u8 h.k, .int .u8 h.o, .int .u8 h.t, .int .i64 h.n, .int .u8 h.f, .string h.x, .slice a ks.length c, .int .i64 h.p] 55)).alloc (.cells #[.int .u8 0, .int .u8 0, .int .u8 0, .int .i64 0, .int .u8 0, .string ⟨#[]⟩, .slice none 0 0, .int .i64 0] 55) = W) := eW
  have q6 : W.cell? ⟨w.heap.size, 6, none⟩ = some (.slice a ks.length c) := cell_of h0 6
  have hM0 : (ks.length : Int) + 2 ≤ 9223372036854775807 := by omega
  clear ih hl hz hn hbW h0 h1 eW eK hi hz0 hz1 hz2
  show Calls Tryz.prog 19 #[.agg #[.int .u8 h.k, .int .u8 h.o, .int .u8 h.t, .int .i64 h.n, .int .u8 h.f, .string h.x, .slice a ks.length c, .int .i64 h.p]] w _
  go_enter Tryz.func19, Tryz.ntmps19
  go_upto_region 1 with fail
  rw [HEW.out]
  clear HEW
  go_upto_region 2 with fail
  generalize World.alloc W _ = V at HMD HMB HLB0 ⊢
  obtain ⟨G, eG⟩ : ∃ G, W.heap.size = G := ⟨_, rfl⟩
  have HGG : Hid (G = w.heap.size + 2) := by show _ = _; rw [← eG]; exact HWS.out
  rw [eG] at HMD HLB0 ⊢
  clear eG hmk eM hM0 q6
  go_wp2_with fail
  go_loopw [4] (fun t wr => ∃ (i : Nat) (L : List Nd) (Q : Nat → Nat → Prop), i ≤ ks.length ∧ t = .int .i64 i ∧ Hid (L.length = i) ∧ Hid (Below W.heap.size W wr) ∧ Hid (Ln wr G ks.length L) ∧ Hid (treesOf L = (treesOf ks).take i) ∧ Hid (LSp wr.heap.size G L Q) ∧ Hid (LBs wr G ks.length L)) (fun t _ => ks.length - (intOf t).toNat)
  case atStart => exact ⟨0, [], fun _ _ => False, by omega, rfl, rfl, HMB, HMD, rfl, ⟨fun j hj => by simp at hj, fun j b hb => hb.elim, fun i j b hb => hb.elim, fun j b _ hb => hb⟩, HLB0⟩
  case round =>
    obtain ⟨i, L, Q, hi, rfl, HLI, HBR, HLN, HTT, HSP, HLB⟩ := hrel
    have hN : NdH wr w.heap.size (.mk h a c ks) := H0.out.on HBR.out
    have q6 : wr.cell? ⟨w.heap.size, 6, none⟩ = some (.slice a ks.length c) := cell_of hN 6
    have HNr := hN.hid
    clear hN
    have HK8 : Hid ((K : Int) = (ks.length : Int) + 2) := by have := HKK.out; show _ = _; omega
    by_cases hlt : i < ks.length
    · have hlt' : (i : Int) < (ks.length : Int) := by omega
      have hltK : (i : Int) < (K : Int) := by have := HK8.out; omega
      obtain ⟨b, o, e1, hat⟩ := (HL.out.on HBR.out).kid i hlt
      have e2 : a = some ⟨b, o, none⟩ := e1
      have hk1 : NdAt wr b (o + i * 8) ks[i] := hat
      have cI := HI.out ks[i] (nth_mem hlt) wr ((HL.out.sub ks[i] (nth_mem hlt)).on HBR.out)
      obtain ⟨k, ek⟩ : ∃ k, ks[i] = k := ⟨_, rfl⟩
      rw [ek] at hk1 cI
      rw [e2] at q6
      obtain ⟨y0, y1, y2, y3, y4, y5, y6, y7⟩ := hk1
      unfold Nd.vals hdA at cI
      have HEK : Hid (ks[i] = k) := ek
      have hmx : (i : Int) + 1 ≤ 9223372036854775807 := by have := HN.out; omega
      clear ek e1 e2 hat
      go_wp2_with fail
      refine cI.mono ?_
      rintro e w1 ⟨k', rfl, hk1, hkS, hkB, hk2, hb1⟩
      have HBP : Hid (LBs (w1.setCells G (L.length * 8) k'.vals.toList) G ks.length (L ++ [k'])) := HLB.out.put HLN.out hb1 hkB hk1 _ _
      have HS2 : Hid (LSp (w1.setCells G (L.length * 8) k'.vals.toList).heap.size G (L ++ [k']) (fun j b => Q j b ∨ (j = L.length ∧ wr.heap.size ≤ b ∧ b < w1.heap.size))) := by show LSp _ _ _ _; rw [size_cellsL]; exact HSP.out.snoc hkS hb1.size HLN.out.lt
      have HPT : Hid (Ln (w1.setCells G (L.length * 8) k'.vals.toList) G ks.length (L ++ [k'])) := HLN.out.put hb1 hk1 (by rw [HLI.out]; exact hlt)
      have HP2 : Hid (Below W.heap.size W (w1.setCells G (L.length * 8) k'.vals.toList)) := below_cellsL (by have h1 := HGG.out; have h2 := HWS.out; omega) _ _ (below2 HBR.out hb1)
      have HTH : Hid (w1.there G (L.length * 8) k'.vals.size) := fun j hj => by
        have hj8 : j < 8 := hj
        exact (HLN.out.on hb1).th _ (by have := HLI.out; omega)
      have HTK : Hid (treesOf (L ++ [k']) = (treesOf ks).take (i + 1)) := take_trees HTT.out hlt (by rw [hk2, HEK.out])
      rw [HLI.out] at HPT HP2 HTH HS2 HBP
      clear cI y0 y1 y2 y3 y4 y5 y6 y7 q6 hk1 hk2 hb1 hkS hkB
      go_upto_region 4 with (refine wpList_store_mid rfl 55 (.tmp 25) (.tmp 24) rfl G (i * 8) k'.vals (by simp [Act.eval]) rfl HTH.out sizeN (allN k') ?_)
      generalize World.setCells _ _ _ _ = Y at HPT HP2 HS2 HBP ⊢
      go_wp2_with fail
      exact ⟨⟨i + 1, L ++ [k'], _, hlt, rfl, by show _ = _; rw [List.length_append, List.length_singleton, HLI.out], HP2, HPT, HTK, HS2, HBP⟩, by simp only [intOf]; omega⟩
    · obtain rfl : i = ks.length := by omega
      have hnot : ¬ (ks.length : Int) < (ks.length : Int) := by omega
      have hM : L.length = ks.length := HLI.out
      have hLt : treesOf L = treesOf ks := by rw [HTT.out, ← trees_len ks, List.take_length]
      have HLT : Hid (treesOf L = treesOf ks) := hLt
      have k0 : (ks.length : Int) < (K : Int) := by have := HK8.out; omega
      have k1 : (ks.length : Int) + 1 < (K : Int) := by have := HK8.out; omega
      have k2 : (ks.length : Int) ≤ (K : Int) := by omega
      have hmx : (ks.length : Int) + 1 ≤ 9223372036854775807 := by have := HN.out; omega
      obtain ⟨t0a, t0b⟩ := HLN.out.th (ks.length * 8 + 7) (by omega)
      obtain ⟨v0, e0⟩ := Option.isSome_iff_exists.1 t0a
      have HM1 := HLN.out.mark (by omega) (ks.length * 8 + 7) (by omega) (.int .i64 (-771))
      obtain ⟨t1a, t1b⟩ := HM1.th ((ks.length + 1) * 8 + 7) (by omega)
      obtain ⟨v1, e1⟩ := Option.isSome_iff_exists.1 t1a
      have HM2 := HM1.mark (by omega) ((ks.length + 1) * 8 + 7) (by omega) (.int .i64 (-772))
      have g0 : (wr.setCell ⟨G, ks.length * 8 + 7, none⟩ (.int .i64 (-771))).cell? ⟨G, ks.length * 8 + 7, none⟩ = some (.int .i64 (-771)) := World.cell?_setCell_same _ _ _ e0
      have g1 : ((wr.setCell ⟨G, ks.length * 8 + 7, none⟩ (.int .i64 (-771))).setCell ⟨G, (ks.length + 1) * 8 + 7, none⟩ (.int .i64 (-772))).cell? ⟨G, (ks.length + 1) * 8 + 7, none⟩ = some (.int .i64 (-772)) := World.cell?_setCell_same _ _ _ e1
      have g2 : ((wr.setCell ⟨G, ks.length * 8 + 7, none⟩ (.int .i64 (-771))).setCell ⟨G, (ks.length + 1) * 8 + 7, none⟩ (.int .i64 (-772))).cell? ⟨G, ks.length * 8 + 7, none⟩ = some (.int .i64 (-771)) := (World.cell?_setCell_other _ _ _ _ (fun e => by injection e with _ e2; omega)).trans g0
      have hGw : w.heap.size + 2 = G := HGG.out.symm
      have hB1 : Below W.heap.size W (wr.setCell ⟨G, ks.length * 8 + 7, none⟩ (.int .i64 (-771))) := HBR.out.setCell (by have := HWS.out; show _ ≤ G; omega) _
      have hB2 : Below W.heap.size W ((wr.setCell ⟨G, ks.length * 8 + 7, none⟩ (.int .i64 (-771))).setCell ⟨G, (ks.length + 1) * 8 + 7, none⟩ (.int .i64 (-772))) := hB1.setCell (by have := HWS.out; show _ ≤ G; omega) _
      have x0 : (wr.setCell ⟨G, ks.length * 8 + 7, none⟩ (.int .i64 (-771))).cell? ⟨w.heap.size, 6, none⟩ = some (.slice a ks.length c) := (World.cell?_of_block (Below.heap_setCell _ _ _ _ (by show w.heap.size ≠ G; omega))).trans q6
      have nd2 : NdH ((wr.setCell ⟨G, ks.length * 8 + 7, none⟩ (.int .i64 (-771))).setCell ⟨G, (ks.length + 1) * 8 + 7, none⟩ (.int .i64 (-772))) w.heap.size (.mk h a c ks) := H0.out.on hB2
      have nr2 : ((wr.setCell ⟨G, ks.length * 8 + 7, none⟩ (.int .i64 (-771))).setCell ⟨G, (ks.length + 1) * 8 + 7, none⟩ (.int .i64 (-772))).heap[w.heap.size + 1]? = some (.cells #[.int .u8 0, .int .u8 0, .int .u8 0, .int .i64 0, .int .u8 0, .string ⟨#[]⟩, .slice none 0 0, .int .i64 0] 55 (0, 0)) := (hB2.block _ (Array.getElem?_eq_some_iff.1 H1.out).1).trans H1.out
      have HM2h : Hid (Ln ((wr.setCell ⟨G, ks.length * 8 + 7, none⟩ (.int .i64 (-771))).setCell ⟨G, (ks.length + 1) * 8 + 7, none⟩ (.int .i64 (-772))) G ks.length L) := HM2
      have HB2h : Hid (Below W.heap.size W ((wr.setCell ⟨G, ks.length * 8 + 7, none⟩ (.int .i64 (-771))).setCell ⟨G, (ks.length + 1) * 8 + 7, none⟩ (.int .i64 (-772)))) := hB2
      have HG12 : Hid (((wr.setCell ⟨G, ks.length * 8 + 7, none⟩ (.int .i64 (-771))).setCell ⟨G, (ks.length + 1) * 8 + 7, none⟩ (.int .i64 (-772))).cell? ⟨G, (ks.length + 1) * 8 + 7, none⟩ = some (.int .i64 (-772)) ∧ ((wr.setCell ⟨G, ks.length * 8 + 7, none⟩ (.int .i64 (-771))).setCell ⟨G, (ks.length + 1) * 8 + 7, none⟩ (.int .i64 (-772))).cell? ⟨G, ks.length * 8 + 7, none⟩ = some (.int .i64 (-771))) := ⟨g1, g2⟩
      have HND2 : Hid (NdH ((wr.setCell ⟨G, ks.length * 8 + 7, none⟩ (.int .i64 (-771))).setCell ⟨G, (ks.length + 1) * 8 + 7, none⟩ (.int .i64 (-772))) w.heap.size (.mk h a c ks)) := nd2
      have HNR2 : Hid (((wr.setCell ⟨G, ks.length * 8 + 7, none⟩ (.int .i64 (-771))).setCell ⟨G, (ks.length + 1) * 8 + 7, none⟩ (.int .i64 (-772))).heap[w.heap.size + 1]? = some (.cells #[.int .u8 0, .int .u8 0, .int .u8 0, .int .i64 0, .int .u8 0, .string ⟨#[]⟩, .slice none 0 0, .int .i64 0] 55 (0, 0))) := nr2
      have HSPw : Hid (LSp ((wr.setCell ⟨G, ks.length * 8 + 7, none⟩ (.int .i64 (-771))).setCell ⟨G, (ks.length + 1) * 8 + 7, none⟩ (.int .i64 (-772))).heap.size G L Q) := by show LSp _ _ _ _; rw [World.size_setCell, World.size_setCell]; exact HSP.out
      have HGL : Hid (G < ((wr.setCell ⟨G, ks.length * 8 + 7, none⟩ (.int .i64 (-771))).setCell ⟨G, (ks.length + 1) * 8 + 7, none⟩ (.int .i64 (-772))).heap.size) := HM2.lt
      have HBW2 : Hid (LBs ((wr.setCell ⟨G, ks.length * 8 + 7, none⟩ (.int .i64 (-771))).setCell ⟨G, (ks.length + 1) * 8 + 7, none⟩ (.int .i64 (-772))) G ks.length L) := (HLB.out.mark HLN.out _ _).mark HM1 _ _
      clear t0a t1a HM1 HM2 g0 g1 g2 hB1 hB2 nd2 nr2 hGw hLt HTT hM HLN HBR HNr HSP
      go_upto_region 8 with fail
      generalize hU : World.setCell (World.setCell wr _ _) _ _ = U at HM2h HB2h HG12 HND2 HNR2 HSPw HGL HBW2 ⊢
      clear hU e0 e1 t0b t1b x0 q6
      have u6 : U.cell? ⟨w.heap.size, 6, none⟩ = some (.slice a ks.length c) := cell_of HND2.out 6
      have f6 : U.frozen? ⟨w.heap.size, 6, none⟩ = false := frozen_of HND2.out 6
      obtain ⟨Y, eY⟩ : ∃ Y, U.setCell ⟨w.heap.size, 6, none⟩ (.slice (some ⟨G, 0, none⟩) ks.length K) = Y := ⟨_, rfl⟩
      have HEY : Hid (U.setCell ⟨w.heap.size, 6, none⟩ (.slice (some ⟨G, 0, none⟩) ks.length K) = Y) := eY
      have HYN : Hid (Y.heap[w.heap.size]? = some (.cells (Nd.mk h (some ⟨G, 0, none⟩) K L).vals 55 (0, 0))) := by
        show _ = _
        rw [← eY]
        have := heap_set (.slice (some ⟨G, 0, none⟩) ks.length K) HND2.out (j := 6)
        rw [this]
        have hl : L.length = ks.length := HLI.out
        simp [Nd.vals, hdA, Nd.h, Nd.a, Nd.ks, Nd.c, hl]
      have HYR : Hid (Y.heap[w.heap.size + 1]? = some (.cells #[.int .u8 0, .int .u8 0, .int .u8 0, .int .i64 0, .int .u8 0, .string ⟨#[]⟩, .slice none 0 0, .int .i64 0] 55 (0, 0))) := by
        show _ = _
        rw [← eY]; exact (Below.heap_setCell _ _ _ _ (by simp)).trans HNR2.out
      have HYO : Hid (∀ b, b ≠ w.heap.size → Y.heap[b]? = U.heap[b]?) := fun b hb => by rw [← eY]; exact Below.heap_setCell _ _ _ _ hb
      have HYB : Hid (Below w.heap.size w Y) := by
        show Below _ _ _
        rw [← eY]
        exact (below2 HBW.out HB2h.out).setCell (Nat.le_refl _) _
      have HYS : Hid (Y.heap.size = U.heap.size) := by show _ = _; rw [← eY]; exact World.size_setCell ..
      clear eY
      go_upto_region 9 with fail
      rw [HEY.out]
      clear HEY u6 f6
      have HSR : Hid ((Y.setRow (w.heap.size + 1) (Nd.mk h (some ⟨G, 0, none⟩) K L).vals).heap[w.heap.size + 1]? = some (.cells (Nd.mk h (some ⟨G, 0, none⟩) K L).vals 55 (0, 0))) := setRow_heap _ _ _ _ _ _ HYR.out
      have HSB : Hid (Below w.heap.size w (Y.setRow (w.heap.size + 1) (Nd.mk h (some ⟨G, 0, none⟩) K L).vals)) := below_row HYB.out (by omega) _
      have HLL : Hid (Lnt (Y.setRow (w.heap.size + 1) (Nd.mk h (some ⟨G, 0, none⟩) K L).vals) w.heap.size (.mk h (some ⟨G, 0, none⟩) K L)) := by
        have hG : G = w.heap.size + 2 := HGG.out
        have hl : L.length = ks.length := HLI.out
        have hoth : ∀ b, G ≤ b → (Y.setRow (w.heap.size + 1) (Nd.mk h (some ⟨G, 0, none⟩) K L).vals).heap[b]? = U.heap[b]? := fun b hb => (setRow_other _ _ _ _ (by omega)).trans (HYO.out b (by omega))
        have eG := hoth G (Nat.le_refl _)
        refine .mk h G K L HRg.out (by have := HKK.out; omega) (by have := HN.out; omega) (by omega) ?_ ?_ (fun i hi => (HM2h.out.at_ i hi).blk eG) (fun k hk => ((HM2h.out.sub k hk).blk fun b hb _ => hoth b (by omega)).lo (by omega))
        · rw [World.cell?_of_block eG, hl]; exact HG12.out.2
        · rw [World.cell?_of_block eG, hl]; exact HG12.out.1
      have HSF : Hid (Sp (.mk h (some ⟨G, 0, none⟩) K L) (fun b => w.heap.size ≤ b ∧ b < (Y.setRow (w.heap.size + 1) (Nd.mk h (some ⟨G, 0, none⟩) K L).vals).heap.size)) := by
        have hsz : (Y.setRow (w.heap.size + 1) (Nd.mk h (some ⟨G, 0, none⟩) K L).vals).heap.size = U.heap.size := by rw [← HYS.out]; unfold World.setRow; simp
        show Sp _ _
        rw [hsz]
        exact HSPw.out.nd (by have := HGG.out; omega) HGL.out
      have HBF : Hid (LB (Y.setRow (w.heap.size + 1) (Nd.mk h (some ⟨G, 0, none⟩) K L).vals) (.mk h (some ⟨G, 0, none⟩) K L)) := by
        have hG : G = w.heap.size + 2 := HGG.out
        have hl : L.length = ks.length := HLI.out
        have hoth : ∀ b, G ≤ b → (Y.setRow (w.heap.size + 1) (Nd.mk h (some ⟨G, 0, none⟩) K L).vals).heap[b]? = U.heap[b]? := fun b hb => (setRow_other _ _ _ _ (by omega)).trans (HYO.out b (by omega))
        refine .mk h G K L (by rw [hl]; exact HBW2.out.b.on (hoth G (Nat.le_refl _))) (fun k hk => (HBW2.out.s k hk).blk (lo := G + 1) (fun b hb _ => hoth b (by omega)) (HM2h.out.sub k hk))
      go_wp2_with (first | (refine wpList_load_row rfl 55 (.tmp 1) rfl w.heap.size rfl 55 (Nd.mk h (some ⟨G, 0, none⟩) K L).vals (0, 0) _ HYN.out Tryz.underlying55 rfl sizeN ?_) | (refine wpList_store_row rfl 55 (.tmp 2) (.tmp 45) rfl (w.heap.size + 1) (Nd.mk h (some ⟨G, 0, none⟩) K L).vals rfl rfl 55 #[.int .u8 0, .int .u8 0, .int .u8 0, .int .i64 0, .int .u8 0, .string ⟨#[]⟩, .slice none 0 0, .int .i64 0] HYR.out sizeN rfl (allN _) ?_))
      exact bodyPost_ret (results_cell_row rfl _ _ (w.heap.size + 1) 55 (Nd.mk h (some ⟨G, 0, none⟩) K L).vals (0, 0) _ rfl HSR.out Tryz.underlying55 rfl sizeN) rfl ⟨_, rfl, HLL.out, HSF.out, HBF.out, by rw [treeOf, treeOf, HLT.out], HSB.out⟩
end Go.Proofs.YtighocmdlifheaaGreatDoor
