import Derived.Test.YteedmmljahgpjaaGreatDoorM36
import Derived.Test.YteedmmljahgpjaaGreatDoorM25
import Derived.Test.YteedmmljahgpjaaGreatDoorM29
import Derived.Test.YteedmmljahgpjaaGreatDoorM27
/-
  Boxes of a call's own, lists among them.
-/
namespace Go.Proofs.YteedmmljahgpjaaGreatDoor
open Go.RowKit
set_option linter.unusedVariables false
set_option linter.unusedSimpArgs false
structure Bs (w V : World) (bs : List Bx) : Prop where
  B : Below w.heap.size w V
  K : ∀ p ∈ bs, V.heap[p.1]? = some (.cells p.2.2 p.2.1 (0, 0)) ∧ w.heap.size ≤ p.1
  N : (bs.map (·.1)).Nodup
theorem Bs.on {w V V' : World} {bs : List Bx} (h : Bs w V bs) (k : Below V.heap.size V V') : Bs w V' bs :=
  ⟨below2 h.B k, fun p hp => ⟨(k.block _ (hp_lt (h.K p hp).1)).trans (h.K p hp).1, (h.K p hp).2⟩, h.N⟩
theorem Bs.new {w V V' : World} {bs : List Bx} (h : Bs w V bs) (k : Below V.heap.size V V') {g t : Nat} {cs : Array Value} (hg : V.heap.size ≤ g) (hh : V'.heap[g]? = some (.cells cs t (0, 0))) : Bs w V' ((g, t, cs) :: bs) := by
  refine ⟨below2 h.B k, fun p hp => ?_, ?_⟩
  · rcases List.mem_cons.1 hp with rfl | hp
    · exact ⟨hh, Nat.le_trans h.B.size hg⟩
    · exact (h.on k).K p hp
  · rw [List.map_cons, List.nodup_cons]
    refine ⟨fun e => ?_, h.N⟩
    obtain ⟨p, hp, e⟩ := List.mem_map.1 e
    have := hp_lt (h.K p hp).1
    simp only at e
    omega
theorem Bs.perm {w V : World} {bs bs' : List Bx} (h : Bs w V bs) (p : bs.Perm bs') : Bs w V bs' :=
  ⟨h.B, fun q hq => h.K q (p.mem_iff.2 hq), (p.map _).nodup_iff.1 h.N⟩
def Lst (w : World) (nb : List Bx) (e sz : Nat) (v : Value) (vs : List (Array Value)) : Prop :=
  (∀ x ∈ vs, x.size = sz) ∧ (∀ V : World, (∀ b ∈ nb, V.heap[b.1]? = some (.cells b.2.2 b.2.1 (0, 0))) → V.ownsRow w.heap.size e sz v vs.length (vs.map Array.toList).flatten) ∧ ∀ g, v.ownBlock = some g → ∃ b ∈ nb, b.1 = g
theorem Lst.nil (w : World) (e sz : Nat) : Lst w [] e sz (.slice none 0 0) [] := ⟨fun x hx => (by cases hx), fun V _ => ⟨by simp, .inl ⟨rfl, rfl⟩⟩, fun g hg => by simp [Value.ownBlock] at hg⟩
theorem Bs.own {w V : World} {nb bs : List Bx} {e sz : Nat} {v : Value} {vs : List (Array Value)} (h : Bs w V (nb ++ bs)) (l : Lst w nb e sz v vs) : OwnK w V bs e sz v vs := by
  refine ⟨l.2.1 V fun b hb => (h.K b (List.mem_append_left _ hb)).1, l.1, h.B, fun p hp => ⟨(h.K p (List.mem_append_right _ hp)).1, (h.K p (List.mem_append_right _ hp)).2, fun e => ?_⟩⟩
  obtain ⟨b, hb, hbp⟩ := l.2.2 _ e
  have hn := h.N
  rw [List.map_append, List.nodup_append] at hn
  exact hn.2.2 _ (List.mem_map.2 ⟨b, hb, rfl⟩) _ (List.mem_map.2 ⟨p, hp, rfl⟩) hbp
theorem OwnK.fin {w V : World} {bs : List Bx} {e sz : Nat} {v : Value} {vs : List (Array Value)} (h : OwnK w V bs e sz v vs) (n : (bs.map (·.1)).Nodup) :
    ∃ (nb : List Bx) (a : Option Addr) (c : Nat), v = .slice a vs.length c ∧ Bs w V (nb ++ bs) ∧ Lst w nb e sz v vs ∧ Keep nb (fun U => SlAt U sz a c vs) := by
  rcases h.R.2 with ⟨h1, h2⟩ | ⟨g, cap, cur, h1, h2, h3, h4, h5, h6, h7⟩
  · have hv : vs = [] := List.eq_nil_of_length_eq_zero h2
    subst hv h1
    exact ⟨[], none, 0, rfl, ⟨h.B, fun p hp => ⟨(h.K p hp).1, (h.K p hp).2.1⟩, n⟩, Lst.nil _ _ _, fun U _ => ⟨Nat.le_refl _, Nat.zero_le _, fun i hi => by simp at hi⟩⟩
  · subst h1
    refine ⟨[(g, e, cur)], some ⟨g, 0, none⟩, cap, rfl, ⟨h.B, fun p hp => ?_, ?_⟩, ⟨h.Z, fun U hU => ⟨h.R.1, .inr ⟨g, cap, cur, rfl, h2, hU _ (List.mem_singleton.2 rfl), h4, h5, h6, h7⟩⟩, fun g' hg' => ⟨_, List.mem_singleton.2 rfl, by simpa [Value.ownBlock] using hg'⟩⟩, fun U hU => ?_⟩
    · rcases List.mem_cons.1 (by simpa using hp) with rfl | hp
      · exact ⟨h3, h2⟩
      · exact ⟨(h.K p hp).1, (h.K p hp).2.1⟩
    · rw [List.singleton_append, List.map_cons, List.nodup_cons]
      refine ⟨fun e' => ?_, n⟩
      obtain ⟨p, hp, e'⟩ := List.mem_map.1 e'
      exact (h.K p hp).2.2 (by simp [Value.ownBlock]; exact e'.symm)
    · have hc := hU _ (List.mem_singleton.2 rfl)
      have hO : OwnK U U [] e sz (.slice (some ⟨g, 0, none⟩) vs.length cap) vs → SlAt U sz (some ⟨g, 0, none⟩) cap vs := fun k => by
        obtain ⟨a, c, e1, e2⟩ := k.sl
        cases e1
        exact e2
      refine ⟨h4, by unfold maxLen at h5; omega, fun i hi => ⟨g, 0, rfl, fun j hj => ?_⟩⟩
      rw [cell_of hc, Nat.zero_add]
      have hlt : i * sz + j < vs.length * sz := by
        have : (i + 1) * sz ≤ vs.length * sz := Nat.mul_le_mul hi (Nat.le_refl _)
        rw [Nat.add_mul] at this
        omega
      rw [← flat_at vs h.Z i hi j hj, ← h7, List.getElem?_take, if_pos hlt, Array.getElem?_toList]
theorem run_append_zero {P : Program} {w : World} (base : Nat) (t ty e : TypeId) (i : TypeInfo) (size : Nat) (ht : P.underlying t = some (.slice e)) (hi : P.info? e = some i)
    (v : Value) (n : Nat) (xs : List Value) (hown : w.ownsRow base e size v n xs) (ua : Option Addr) (uc : Nat) :
    (Builtin.append_ #[t, t] ty #[v, .slice ua 0 uc]).run P w = .ok v w := by
  rcases hown.2 with ⟨rfl, rfl⟩ | ⟨g, cap, cur, rfl, _, _, hnc, _⟩
  · cases ua <;> simp [Builtin.append_, run_underlying ht, sizeOf, typeInfo, hi, Builtin.lenOf, Builtin.firstCells, loadCells, loadCellsFrom]
  · cases ua <;> simp [Builtin.append_, run_underlying ht, sizeOf, typeInfo, hi, Builtin.lenOf, Builtin.firstCells, hnc, storeCells, loadCells, loadCellsFrom]
theorem app_all {w V : World} {bs : List (Nat × Nat × Array Value)} {e sz : Nat} {v : Value} {vs : List (Array Value)} (hL : OwnK w V bs e sz v vs) (t : TypeId) (us : List (Array Value)) (hus : ∀ x ∈ us, x.size = sz ∧ x.all (·.oneCell') = true) (ua : Option Addr) (uc : Nat) (hU : SlAt V sz ua uc us)
    (z : Value) (by_ : Nat) (ht : Tryz.prog.underlying t = some (.slice e)) (hi : (Tryz.prog.info? e).map (fun i => (i.zero, i.size, i.bytes)) = some (some z, sz, by_)) (hz : z.cells.size = sz) (h0 : 0 < sz) (hn : vs.length + us.length ≤ 1000000) (hby : by_ ≤ 1000)
    {ops : Array Oper} {rest : List Oper} {o : Oper} {a : Act} {Q : Exit → Act → World → Prop} (hgd : o.guard = none) (d x : Operand)
    (ho : o.op = .call { callee := .builtin .append, args := #[d, x], argTypes := #[t, t] }) (hs : a.eval d = v) (hx : a.eval x = .slice ua us.length uc)
    (h : ∀ v' w', OwnK w w' bs e sz v' (vs ++ us) → wpList Tryz.prog ops Q rest (a.put o.dst v') w') :
    wpList Tryz.prog ops Q (o :: rest) a V := by
  by_cases he : us = []
  · subst he
    obtain ⟨i0, hi0, _, _, _⟩ := info_parts hi
    refine wpList_plain hgd fun K hK => ?_
    have hrun := run_append_zero (P := Tryz.prog) (w := V) w.heap.size t o.type e i0 sz ht hi0 v vs.length _ hL.R ua uc
    have hx' : a.eval x = .slice ua 0 uc := hx
    unfold Oper.wp
    simp [execOp, ho, resolve, invoke, builtin, hs, hx', hrun, Result.andThen]
    exact hK _ _ (h v V (by rw [List.append_nil]; exact hL))
  · exact app_many hL t us hus ua uc hU (fun e => absurd e he) z by_ ht hi hz h0 hn hby hgd d x ho hs hx h
end Go.Proofs.YteedmmljahgpjaaGreatDoor

/-
  CopyTable: a table once more, in memory of its own.
-/
namespace Go.Proofs.YteedmmljahgpjaaGreatDoor
open Go.RowKit
set_option linter.unusedVariables false
set_option linter.unusedSimpArgs false
def cxV (u : TbM) (vo : Value) : Array Value := #[.string u.x, .slice u.ra u.rs.length u.rc, .int .i64 u.sl, .slice u.ca u.cs.length u.cc, .slice u.da u.ds.length u.dc, vo]
def FB (u : TbM) (U : World) : Prop := SlAt U 1 u.ra u.rc (u.rs.map nvals) ∧ SlAt U 1 u.ca u.cc (u.cs.map nvals) ∧ SlAt U 2 u.da u.dc (u.ds.map InM.vals)
structure Co (w V : World) (X R : Nat) (t u : TbM) (vo : Value) (nbo ks : List Bx) : Prop where
  B : Bs w V (nbo ++ ((X, 26, cxV u vo) :: (R, 26, tb0) :: ks))
  L : Lst w nbo 69 1 vo (u.ts.map StM.vals)
  K : Keep ks (fun U => FB u U ∧ ∀ s ∈ u.ts, StL U s)
  T : (w.heap.size, 26, t.vals) ∈ ks
  E : u.x = t.x ∧ u.sl = t.sl ∧ u.rs = t.rs ∧ u.cs = t.cs ∧ u.ds = t.ds
  S : ∀ k (h1 : k < u.ts.length) (h2 : k < t.ts.length), SameS u.ts[k] t.ts[k]
structure Ci (w V : World) (X R : Nat) (t u : TbM) (x : StM) (vo vi : Value) (gm : List GdM) (nbo nbi ks : List Bx) : Prop where
  B : Bs w V (nbi ++ (nbo ++ ((X, 26, cxV u vo) :: (R, 26, tb0) :: ks)))
  L : Lst w nbo 69 1 vo (u.ts.map StM.vals)
  Li : Lst w nbi 68 5 vi (gm.map GdM.vals)
  K : Keep ks (fun U => (FB u U ∧ ∀ s ∈ u.ts, StL U s) ∧ ∀ g ∈ gm, GdL U g)
  T : (w.heap.size, 26, t.vals) ∈ ks
  G : ∀ k (h1 : k < gm.length) (h2 : k < x.gs.length), SameG gm[k] x.gs[k]
theorem Co.start {w V : World} {X R : Nat} {t u : TbM} {vo : Value} {nbo ks : List Bx} (h : Co w V X R t u vo nbo ks) (x : StM) : Ci w V X R t u x vo (.slice none 0 0) [] nbo [] ks :=
  ⟨h.B, h.L, Lst.nil _ _ _, fun U hU => ⟨h.K U hU, fun g hg => (by cases hg)⟩, h.T, fun k h1 _ => absurd h1 (Nat.not_lt_zero _)⟩
theorem Ci.box {w V : World} {X R : Nat} {t u : TbM} {x : StM} {vo vi : Value} {gm : List GdM} {nbo nbi ks : List Bx} (h : Ci w V X R t u x vo vi gm nbo nbi ks) : V.heap[X]? = some (.cells (cxV u vo) 26 (0, 0)) ∧ V.heap[R]? = some (.cells tb0 26 (0, 0)) ∧ V.heap[w.heap.size]? = some (.cells t.vals 26 (0, 0)) :=
  ⟨(h.B.K (X, 26, cxV u vo) (by simp)).1, (h.B.K (R, 26, tb0) (by simp)).1, (h.B.K (w.heap.size, 26, t.vals) (by simp [h.T])).1⟩
theorem Co.box {w V : World} {X R : Nat} {t u : TbM} {vo : Value} {nbo ks : List Bx} (h : Co w V X R t u vo nbo ks) : V.heap[X]? = some (.cells (cxV u vo) 26 (0, 0)) ∧ V.heap[R]? = some (.cells tb0 26 (0, 0)) ∧ V.heap[w.heap.size]? = some (.cells t.vals 26 (0, 0)) :=
  ⟨(h.B.K (X, 26, cxV u vo) (by simp)).1, (h.B.K (R, 26, tb0) (by simp)).1, (h.B.K (w.heap.size, 26, t.vals) (by simp [h.T])).1⟩
theorem pm2 {α : Type} (l : List α) (a b : α) (m : List α) : (l ++ (a :: b :: m)).Perm (a :: b :: (l ++ m)) :=
  List.perm_middle.trans (List.Perm.cons _ List.perm_middle)
/-- A guard's rows once more: its box, and where they lie. -/
theorem Ci.rows {w V : World} {X R G : Nat} {t u : TbM} {x : StM} {vo vi v8 : Value} {gm : List GdM} {nbo nbi ks : List Bx} {g : GdM}
    (hL : Lst w nbo 69 1 vo (u.ts.map StM.vals)) (hLi : Lst w nbi 68 5 vi (gm.map GdM.vals)) (hK : Keep ks (fun U => (FB u U ∧ ∀ s ∈ u.ts, StL U s) ∧ ∀ g ∈ gm, GdL U g)) (hT : (w.heap.size, 26, t.vals) ∈ ks)
    (hG : ∀ k (h1 : k < gm.length) (h2 : k < x.gs.length), SameG gm[k] x.gs[k]) (hg : SpI g.wh ∧ U16 g.fd ∧ U16 g.rg ∧ ∀ r ∈ g.rs, RowI r)
    (hO : OwnK w V ((G, 68, g.vals) :: (nbi ++ (nbo ++ ((X, 26, cxV u vo) :: (R, 26, tb0) :: ks)))) 85 11 v8 (g.rs.map RowM.vals)) (hN : (((G, 68, g.vals) :: (nbi ++ (nbo ++ ((X, 26, cxV u vo) :: (R, 26, tb0) :: ks)))).map (·.1)).Nodup) :
    ∃ (a : Option Addr) (c : Nat) (ks' : List Bx), v8 = .slice a g.rs.length c ∧ (V.setCell ⟨G, 4, none⟩ v8).heap[G]? = some (.cells (GdM.vals { g with a := a, c := c }) 68 (0, 0)) ∧
      Ci w (V.setCell ⟨G, 4, none⟩ v8) X R t u x vo vi gm nbo nbi ks' ∧ Keep ks' (fun U => GdL U { g with a := a, c := c }) := by
  have hP := hO.putAt (fun p hp e => by
    rw [List.map_cons, List.nodup_cons] at hN
    exact hN.1 (List.mem_map.2 ⟨p, hp, e⟩)) 4 v8
  obtain ⟨nb, a, c, e, hB, hL8, hK8⟩ := hP.fin (by simpa using hN)
  rw [List.length_map] at e
  subst e
  refine ⟨a, c, nb ++ ((G, 68, GdM.vals { g with a := a, c := c }) :: ks), rfl, hP.box, ⟨?_, hL, hLi, fun U hU => hK U fun b hb => hU b (by simp [hb]), by simp [hT], hG⟩, fun U hU => ⟨hg.1, hg.2.1, hg.2.2.1, hK8 U fun b hb => hU b (by simp [hb]), hg.2.2.2⟩⟩
  refine hB.perm ?_
  have e1 : (g.vals.setIfInBounds 4 (Value.slice a g.rs.length c)) = GdM.vals { g with a := a, c := c } := rfl
  rw [e1]
  refine (List.perm_append_comm_assoc nb [(G, 68, GdM.vals { g with a := a, c := c })] _).trans ?_
  show (((G, 68, GdM.vals { g with a := a, c := c }) : Bx) :: (nb ++ (nbi ++ (nbo ++ ((X, 26, cxV u vo) :: (R, 26, tb0) :: ks))))).Perm _
  refine List.Perm.trans (l₂ := nbi ++ (nbo ++ ((X, 26, cxV u vo) :: (R, 26, tb0) :: (((G, 68, GdM.vals { g with a := a, c := c }) : Bx) :: (nb ++ ks))))) ?_ ?_
  · have h1 : (nb ++ (nbi ++ (nbo ++ ((X, 26, cxV u vo) :: (R, 26, tb0) :: ks)))).Perm (nbi ++ (nbo ++ ((X, 26, cxV u vo) :: (R, 26, tb0) :: (nb ++ ks)))) := by
      refine (List.perm_append_comm_assoc nb nbi _).trans (List.Perm.append_left _ ?_)
      refine (List.perm_append_comm_assoc nb nbo _).trans (List.Perm.append_left _ ?_)
      exact pm2 nb _ _ ks
    refine (List.Perm.cons _ h1).trans ?_
    refine (List.perm_middle (l₁ := nbi)).symm.trans (List.Perm.append_left _ ?_)
    refine (List.perm_middle (l₁ := nbo)).symm.trans (List.Perm.append_left _ ?_)
    exact (List.Perm.swap _ _ _).trans (List.Perm.cons _ (List.Perm.swap _ _ _))
  · refine List.Perm.append_left _ (List.Perm.append_left _ (List.Perm.cons _ (List.Perm.cons _ ?_)))
    exact (List.perm_middle (l₁ := nb)).symm
/-- A guard more. -/
theorem Ci.more {w V : World} {X R : Nat} {t u : TbM} {x : StM} {vo vi v' : Value} {gm : List GdM} {nbo nbi ks : List Bx} {g : GdM} {j : Nat} (h : Ci w V X R t u x vo vi gm nbo nbi ks) (hK : Keep ks (fun U => GdL U g)) (hj : gm.length = j) (hjl : j < x.gs.length) (hS : SameG g x.gs[j]) {V' : World}
    (hO : OwnK w V' (nbo ++ ((X, 26, cxV u vo) :: (R, 26, tb0) :: ks)) 68 5 v' (gm.map GdM.vals ++ [g.vals])) : ∃ nbi', Ci w V' X R t u x vo v' (gm ++ [g]) nbo nbi' ks := by
  have hN := h.B.N
  rw [List.map_append, List.nodup_append] at hN
  obtain ⟨nb, a, c, _, hB, hL', _⟩ := hO.fin hN.2.1
  refine ⟨nb, hB, h.L, by rw [List.map_append]; exact hL', fun U hU => ⟨(h.K U hU).1, fun y hy => ?_⟩, h.T, fun k h1 h2 => ?_⟩
  · rcases List.mem_append.1 hy with hy | hy
    · exact (h.K U hU).2 y hy
    · rw [List.mem_singleton.1 hy]; exact hK U hU
  · by_cases e : k < gm.length
    · rw [List.getElem_append_left e]; exact h.G k e h2
    · rw [List.length_append, List.length_singleton] at h1
      obtain rfl : k = j := by omega
      rw [List.getElem_append_right (by omega)]
      simpa using hS
/-- A state more. -/
theorem Ci.state {w V : World} {X R : Nat} {t u : TbM} {x : StM} {vo vi v' : Value} {gm : List GdM} {nbo nbi ks : List Bx} {i : Nat} {a : Option Addr} {c : Nat} (h : Ci w V X R t u x vo vi gm nbo nbi ks) (hE : u.x = t.x ∧ u.sl = t.sl ∧ u.rs = t.rs ∧ u.cs = t.cs ∧ u.ds = t.ds) (hS0 : ∀ k (h1 : k < u.ts.length) (h2 : k < t.ts.length), SameS u.ts[k] t.ts[k])
    (hi : u.ts.length = i) (hil : i < t.ts.length) (hx : t.ts[i] = x) (hl : gm.length = x.gs.length) (hv : vi = .slice a gm.length c) (hKi : Keep nbi (fun U => SlAt U 5 a c (gm.map GdM.vals))) {V' : World}
    (hO : OwnK w V' ((X, 26, cxV u vo) :: (nbi ++ ((R, 26, tb0) :: ks))) 69 1 v' (u.ts.map StM.vals ++ [StM.vals ⟨a, c, gm⟩])) :
    ∃ nbo', Co w (V'.setCell ⟨X, 5, none⟩ v') X R t { u with ts := u.ts ++ [⟨a, c, gm⟩] } v' nbo' (nbi ++ ks) := by
  have hN0 : (((X, 26, cxV u vo) :: (nbi ++ ((R, 26, tb0) :: ks))).map (·.1)).Nodup := by
    have h1 := h.B.perm (bs' := nbo ++ (((X, 26, cxV u vo) : Bx) :: (nbi ++ ((R, 26, tb0) :: ks)))) (by
      refine (List.perm_append_comm_assoc nbi nbo _).trans (List.Perm.append_left _ ?_)
      exact List.perm_middle)
    have h2 := h1.N
    rw [List.map_append, List.nodup_append] at h2
    exact h2.2.1
  have hP := hO.putAt (fun p hp e => by
    rw [List.map_cons, List.nodup_cons] at hN0
    exact hN0.1 (List.mem_map.2 ⟨p, hp, e⟩)) 5 v'
  obtain ⟨nb, a', c', _, hB, hL', _⟩ := hP.fin (by simpa using hN0)
  refine ⟨nb, ?_, by rw [List.map_append]; exact hL', fun U hU => ?_, List.mem_append_right _ h.T, hE, fun k h1 h2 => ?_⟩
  · refine hB.perm (List.Perm.append_left _ ?_)
    refine List.Perm.cons _ ?_
    exact List.perm_middle
  · have k1 := h.K U fun b hb => hU b (List.mem_append_right _ hb)
    have k2 := hKi U fun b hb => hU b (List.mem_append_left _ hb)
    refine ⟨k1.1.1, fun s hs => ?_⟩
    rcases List.mem_append.1 hs with hs | hs
    · exact k1.1.2 s hs
    · rw [List.mem_singleton.1 hs]; exact ⟨k2, k1.2⟩
  · by_cases e : k < u.ts.length
    · simp only [List.getElem_append_left e]; exact hS0 k e h2
    · simp only [List.length_append, List.length_singleton] at h1
      obtain rfl : k = i := by omega
      simp only [List.getElem_append_right (show u.ts.length ≤ k by omega), hi, Nat.sub_self, List.getElem_singleton, hx]
      exact ⟨hl, fun q h3 h4 => h.G q h3 h4⟩
/-- One of the plain lists once more. -/
theorem fld {w V : World} {X R : Nat} {cx : Array Value} {ks : List Bx} {e sz j : Nat} {v : Value} {us : List (Array Value)} (hO : OwnK w V ((X, 26, cx) :: (R, 26, tb0) :: ks) e sz v us) (hN : ((((X, 26, cx) : Bx) :: (R, 26, tb0) :: ks).map (·.1)).Nodup) :
    ∃ (a : Option Addr) (c : Nat) (nb : List Bx), v = .slice a us.length c ∧ Bs w (V.setCell ⟨X, j, none⟩ v) ((X, 26, cx.setIfInBounds j v) :: (R, 26, tb0) :: (nb ++ ks)) ∧ Keep nb (fun U => SlAt U sz a c us) := by
  have hP := hO.putAt (fun p hp e => by
    rw [List.map_cons, List.nodup_cons] at hN
    exact hN.1 (List.mem_map.2 ⟨p, hp, e⟩)) j v
  obtain ⟨nb, a, c, e1, hB, _, hK⟩ := hP.fin (by simpa using hN)
  exact ⟨a, c, nb, e1, hB.perm (pm2 nb _ _ ks), hK⟩
end Go.Proofs.YteedmmljahgpjaaGreatDoor
