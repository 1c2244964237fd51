import Derived.Test.YteedmmljahgpjabDoorM24
import Derived.Test.YteedmmljahgpjabDoorM20
import Derived.Test.YteedmmljahgpjabDoorM22
import Derived.Test.YteedmmljahgpjabDoorM25
import Derived.Test.YteedmmljahgpjabDoorUo
/-
  Boxes of a call's own, lists among them.
-/
namespace Go.Proofs.YteedmmljahgpjabDoor
open Go.RowKit
set_option linter.unusedVariables false
set_option linter.unusedSimpArgs false
structure Bs (w V : World) (bs : List Bx) : Prop where
  B : Below w.heap.size w V
  K : ∀ p ∈ bs, V.heap[p.1]? = some (.cells p.2.2 p.2.1 (0, 0)) ∧ w.heap.size ≤ p.1
  N : (bs.map (·.1)).Nodup
theorem Bs.on {w V V' : World} {bs : List Bx} (h : Bs w V bs) (k : Below V.heap.size V V') : Bs w V' bs :=
  ⟨below2 h.B k, fun p hp => ⟨(k.block _ (hp_lt (h.K p hp).1)).trans (h.K p hp).1, (h.K p hp).2⟩, h.N⟩
theorem Bs.perm {w V : World} {bs bs' : List Bx} (h : Bs w V bs) (p : bs.Perm bs') : Bs w V bs' :=
  ⟨h.B, fun q hq => h.K q (p.mem_iff.2 hq), (p.map _).nodup_iff.1 h.N⟩
def Lst (w : World) (nb : List Bx) (e sz : Nat) (v : Value) (vs : List (Array Value)) : Prop :=
  (∀ x ∈ vs, x.size = sz) ∧ (∀ V : World, (∀ b ∈ nb, V.heap[b.1]? = some (.cells b.2.2 b.2.1 (0, 0))) → V.ownsRow w.heap.size e sz v vs.length (vs.map Array.toList).flatten) ∧ ∀ g, v.ownBlock = some g → ∃ b ∈ nb, b.1 = g
theorem Lst.nil (w : World) (e sz : Nat) : Lst w [] e sz (.slice none 0 0) [] := ⟨fun x hx => (by cases hx), fun V _ => ⟨by simp, .inl ⟨rfl, rfl⟩⟩, fun g hg => by simp [Value.ownBlock] at hg⟩
theorem Bs.own {w V : World} {nb bs : List Bx} {e sz : Nat} {v : Value} {vs : List (Array Value)} (h : Bs w V (nb ++ bs)) (l : Lst w nb e sz v vs) : OwnK w V bs e sz v vs := by
  refine ⟨l.2.1 V fun b hb => (h.K b (List.mem_append_left _ hb)).1, l.1, h.B, fun p hp => ⟨(h.K p (List.mem_append_right _ hp)).1, (h.K p (List.mem_append_right _ hp)).2, fun e => ?_⟩⟩
  obtain ⟨b, hb, hbp⟩ := l.2.2 _ e
  have hn := h.N
  rw [List.map_append, List.nodup_append] at hn
  exact hn.2.2 _ (List.mem_map.2 ⟨b, hb, rfl⟩) _ (List.mem_map.2 ⟨p, hp, rfl⟩) hbp
theorem OwnK.fin {w V : World} {bs : List Bx} {e sz : Nat} {v : Value} {vs : List (Array Value)} (h : OwnK w V bs e sz v vs) (n : (bs.map (·.1)).Nodup) :
    ∃ (nb : List Bx) (a : Option Addr) (c : Nat), v = .slice a vs.length c ∧ Bs w V (nb ++ bs) ∧ Lst w nb e sz v vs ∧ Keep nb (fun U => SlAt U sz a c vs) := by
  rcases h.R.2 with ⟨h1, h2⟩ | ⟨g, cap, cur, h1, h2, h3, h4, h5, h6, h7⟩
  · have hv : vs = [] := List.eq_nil_of_length_eq_zero h2
    subst hv h1
    exact ⟨[], none, 0, rfl, ⟨h.B, fun p hp => ⟨(h.K p hp).1, (h.K p hp).2.1⟩, n⟩, Lst.nil _ _ _, fun U _ => ⟨Nat.le_refl _, Nat.zero_le _, fun i hi => by simp at hi⟩⟩
  · subst h1
    refine ⟨[(g, e, cur)], some ⟨g, 0, none⟩, cap, rfl, ⟨h.B, fun p hp => ?_, ?_⟩, ⟨h.Z, fun U hU => ⟨h.R.1, .inr ⟨g, cap, cur, rfl, h2, hU _ (List.mem_singleton.2 rfl), h4, h5, h6, h7⟩⟩, fun g' hg' => ⟨_, List.mem_singleton.2 rfl, by simpa [Value.ownBlock] using hg'⟩⟩, fun U hU => ?_⟩
    · rcases List.mem_cons.1 (by simpa using hp) with rfl | hp
      · exact ⟨h3, h2⟩
      · exact ⟨(h.K p hp).1, (h.K p hp).2.1⟩
    · rw [List.singleton_append, List.map_cons, List.nodup_cons]
      refine ⟨fun e' => ?_, n⟩
      obtain ⟨p, hp, e'⟩ := List.mem_map.1 e'
      exact (h.K p hp).2.2 (by simp [Value.ownBlock]; exact e'.symm)
    · have hc := hU _ (List.mem_singleton.2 rfl)
      have hO : OwnK U U [] e sz (.slice (some ⟨g, 0, none⟩) vs.length cap) vs → SlAt U sz (some ⟨g, 0, none⟩) cap vs := fun k => by
        obtain ⟨a, c, e1, e2⟩ := k.sl
        cases e1
        exact e2
      refine ⟨h4, by unfold maxLen at h5; omega, fun i hi => ⟨g, 0, rfl, fun j hj => ?_⟩⟩
      rw [cell_of hc, Nat.zero_add]
      have hlt : i * sz + j < vs.length * sz := by
        have : (i + 1) * sz ≤ vs.length * sz := Nat.mul_le_mul hi (Nat.le_refl _)
        rw [Nat.add_mul] at this
        omega
      rw [← flat_at vs h.Z i hi j hj, ← h7, List.getElem?_take, if_pos hlt, Array.getElem?_toList]
end Go.Proofs.YteedmmljahgpjabDoor

/-
  CopyTable: a table once more, in memory of its own.
-/
namespace Go.Proofs.YteedmmljahgpjabDoor
open Go.RowKit
set_option linter.unusedVariables false
set_option linter.unusedSimpArgs false
def cxV (u : TbM) (vo : Value) : Array Value := #[.string u.x, .slice u.ra u.rs.length u.rc, .int .i64 u.sl, .slice u.ca u.cs.length u.cc, .slice u.da u.ds.length u.dc, vo]
def FB (u : TbM) (U : World) : Prop := SlAt U 1 u.ra u.rc (u.rs.map nvals) ∧ SlAt U 1 u.ca u.cc (u.cs.map nvals) ∧ SlAt U 2 u.da u.dc (u.ds.map InM.vals)
structure Ci (w V : World) (X R : Nat) (t u : TbM) (x : StM) (vo vi : Value) (gm : List GdM) (nbo nbi ks : List Bx) : Prop where
  B : Bs w V (nbi ++ (nbo ++ ((X, 26, cxV u vo) :: (R, 26, tb0) :: ks)))
  L : Lst w nbo 52 1 vo (u.ts.map StM.vals)
  Li : Lst w nbi 51 5 vi (gm.map GdM.vals)
  K : Keep ks (fun U => (FB u U ∧ ∀ s ∈ u.ts, StL U s) ∧ ∀ g ∈ gm, GdL U g)
  T : (w.heap.size, 26, t.vals) ∈ ks
  G : ∀ k (h1 : k < gm.length) (h2 : k < x.gs.length), SameG gm[k] x.gs[k]
theorem Ci.box {w V : World} {X R : Nat} {t u : TbM} {x : StM} {vo vi : Value} {gm : List GdM} {nbo nbi ks : List Bx} (h : Ci w V X R t u x vo vi gm nbo nbi ks) : V.heap[X]? = some (.cells (cxV u vo) 26 (0, 0)) ∧ V.heap[R]? = some (.cells tb0 26 (0, 0)) ∧ V.heap[w.heap.size]? = some (.cells t.vals 26 (0, 0)) :=
  ⟨(h.B.K (X, 26, cxV u vo) (by simp)).1, (h.B.K (R, 26, tb0) (by simp)).1, (h.B.K (w.heap.size, 26, t.vals) (by simp [h.T])).1⟩
theorem pm2 {α : Type} (l : List α) (a b : α) (m : List α) : (l ++ (a :: b :: m)).Perm (a :: b :: (l ++ m)) :=
  List.perm_middle.trans (List.Perm.cons _ List.perm_middle)
/-- A guard's rows once more: its box, and where they lie. -/
theorem Ci.rows {w V : World} {X R G : Nat} {t u : TbM} {x : StM} {vo vi v8 : Value} {gm : List GdM} {nbo nbi ks : List Bx} {g : GdM}
    (hL : Lst w nbo 52 1 vo (u.ts.map StM.vals)) (hLi : Lst w nbi 51 5 vi (gm.map GdM.vals)) (hK : Keep ks (fun U => (FB u U ∧ ∀ s ∈ u.ts, StL U s) ∧ ∀ g ∈ gm, GdL U g)) (hT : (w.heap.size, 26, t.vals) ∈ ks)
    (hG : ∀ k (h1 : k < gm.length) (h2 : k < x.gs.length), SameG gm[k] x.gs[k]) (hg : SpI g.wh ∧ U16 g.fd ∧ U16 g.rg ∧ ∀ r ∈ g.rs, RowI r)
    (hO : OwnK w V ((G, 51, g.vals) :: (nbi ++ (nbo ++ ((X, 26, cxV u vo) :: (R, 26, tb0) :: ks)))) 72 11 v8 (g.rs.map RowM.vals)) (hN : (((G, 51, g.vals) :: (nbi ++ (nbo ++ ((X, 26, cxV u vo) :: (R, 26, tb0) :: ks)))).map (·.1)).Nodup) :
    ∃ (a : Option Addr) (c : Nat) (ks' : List Bx), v8 = .slice a g.rs.length c ∧ (V.setCell ⟨G, 4, none⟩ v8).heap[G]? = some (.cells (GdM.vals { g with a := a, c := c }) 51 (0, 0)) ∧
      Ci w (V.setCell ⟨G, 4, none⟩ v8) X R t u x vo vi gm nbo nbi ks' ∧ Keep ks' (fun U => GdL U { g with a := a, c := c }) := by
  have hP := hO.putAt (fun p hp e => by
    rw [List.map_cons, List.nodup_cons] at hN
    exact hN.1 (List.mem_map.2 ⟨p, hp, e⟩)) 4 v8
  obtain ⟨nb, a, c, e, hB, hL8, hK8⟩ := hP.fin (by simpa using hN)
  rw [List.length_map] at e
  subst e
  refine ⟨a, c, nb ++ ((G, 51, GdM.vals { g with a := a, c := c }) :: ks), rfl, hP.box, ⟨?_, hL, hLi, fun U hU => hK U fun b hb => hU b (by simp [hb]), by simp [hT], hG⟩, fun U hU => ⟨hg.1, hg.2.1, hg.2.2.1, hK8 U fun b hb => hU b (by simp [hb]), hg.2.2.2⟩⟩
  refine hB.perm ?_
  have e1 : (g.vals.setIfInBounds 4 (Value.slice a g.rs.length c)) = GdM.vals { g with a := a, c := c } := rfl
  rw [e1]
  refine (List.perm_append_comm_assoc nb [(G, 51, GdM.vals { g with a := a, c := c })] _).trans ?_
  show (((G, 51, GdM.vals { g with a := a, c := c }) : Bx) :: (nb ++ (nbi ++ (nbo ++ ((X, 26, cxV u vo) :: (R, 26, tb0) :: ks))))).Perm _
  refine List.Perm.trans (l₂ := nbi ++ (nbo ++ ((X, 26, cxV u vo) :: (R, 26, tb0) :: (((G, 51, GdM.vals { g with a := a, c := c }) : Bx) :: (nb ++ ks))))) ?_ ?_
  · have h1 : (nb ++ (nbi ++ (nbo ++ ((X, 26, cxV u vo) :: (R, 26, tb0) :: ks)))).Perm (nbi ++ (nbo ++ ((X, 26, cxV u vo) :: (R, 26, tb0) :: (nb ++ ks)))) := by
      refine (List.perm_append_comm_assoc nb nbi _).trans (List.Perm.append_left _ ?_)
      refine (List.perm_append_comm_assoc nb nbo _).trans (List.Perm.append_left _ ?_)
      exact pm2 nb _ _ ks
    refine (List.Perm.cons _ h1).trans ?_
    refine (List.perm_middle (l₁ := nbi)).symm.trans (List.Perm.append_left _ ?_)
    refine (List.perm_middle (l₁ := nbo)).symm.trans (List.Perm.append_left _ ?_)
    exact (List.Perm.swap _ _ _).trans (List.Perm.cons _ (List.Perm.swap _ _ _))
  · refine List.Perm.append_left _ (List.Perm.append_left _ (List.Perm.cons _ (List.Perm.cons _ ?_)))
    exact (List.perm_middle (l₁ := nb)).symm
end Go.Proofs.YteedmmljahgpjabDoor

/-
  What is told of a table hangs on nothing but what it holds.
-/
namespace Go.Proofs.YteedmmljahgpjabDoor
open Go.RowKit
set_option linter.unusedVariables false
set_option linter.unusedSimpArgs false
structure SmP (u t : TbM) : Prop where
  x : u.x = t.x
  s : u.sl = t.sl
  r : u.rs = t.rs
  c : u.cs = t.cs
  d : u.ds = t.ds
theorem stand_s {u t : TbM} (h : SmP u t) (d : InM) (a b : Int) : standB u d a b = standB t d a b := by unfold standB; rw [h.r, h.c]
theorem stands_s {u t : TbM} (h : SmP u t) (b : Nat) : ∀ n a, standsL u b n a = standsL t b n a
  | 0, a => rfl
  | n + 1, a => by simp only [standsL]; rw [stand_s h, h.d, stands_s h b n (a + 1)]
theorem sp_s {u t : TbM} (h : SmP u t) (x : Sp) : spD u x = spD t x := by
  unfold spD spanE
  rw [stands_s h, h.d]
theorem sps_s {u t : TbM} (h : SmP u t) : ∀ l, spsD u l = spsD t l
  | [] => rfl
  | x :: l => by simp only [spsD]; rw [sp_s h, sps_s h l]
theorem rws_s {u t : TbM} (h : SmP u t) : ∀ l, rwsD u l = rwsD t l
  | [] => rfl
  | r :: l => by simp only [rwsD]; rw [sps_s h, rws_s h l]
theorem gd_s {u t : TbM} (h : SmP u t) {g g' : GdM} (k : SameG g g') : gdD u g = gdD t g' := by
  obtain ⟨k1, k2, k3, k4, k5⟩ := k
  have hw : g.wh = g'.wh := by
    obtain ⟨⟨a, b⟩, _, _, _, _, _⟩ := g
    obtain ⟨⟨c, d⟩, _, _, _, _, _⟩ := g'
    simp only at k1 k2
    subst k1 k2
    rfl
  unfold gdD
  rw [sp_s h, h.d, hw, k3, k4, k5, rws_s h]
theorem gdN_s {sl : Int} {nr ns : Nat} {g g' : GdM} (k : SameG g g') (p : Int) : gdN sl nr ns g p = gdN sl nr ns g' p := by
  obtain ⟨k1, k2, k3, k4, k5⟩ := k
  have hw : g.wh = g'.wh := by
    obtain ⟨⟨a, b⟩, _, _, _, _, _⟩ := g
    obtain ⟨⟨c, d⟩, _, _, _, _, _⟩ := g'
    simp only at k1 k2
    subst k1 k2
    rfl
  unfold gdN gSp
  rw [hw, k5]
def GsS (l l' : List GdM) : Prop := l.length = l'.length ∧ ∀ j (h3 : j < l.length) (h4 : j < l'.length), SameG l[j] l'[j]
theorem GsS.cons {g g' : GdM} {l l' : List GdM} (h : GsS (g :: l) (g' :: l')) : SameG g g' ∧ GsS l l' :=
  ⟨h.2 0 (by simp) (by simp), by simpa using h.1, fun j h3 h4 => h.2 (j + 1) (by simpa using h3) (by simpa using h4)⟩
theorem gds_s {u t : TbM} (h : SmP u t) : ∀ l l', GsS l l' → gdsD u l = gdsD t l'
  | [], [], _ => rfl
  | g :: l, g' :: l', k => by
    simp only [gdsD]
    rw [gd_s h k.cons.1, gds_s h l l' k.cons.2]
  | [], _ :: _, k => by have := k.1; simp at this
  | _ :: _, [], k => by have := k.1; simp at this
theorem gdsN_s {sl : Int} {nr ns : Nat} : ∀ (l l' : List GdM), GsS l l' → ∀ p, gdsN sl nr ns p l = gdsN sl nr ns p l'
  | [], [], _, p => rfl
  | g :: l, g' :: l', k, p => by
    simp only [gdsN]
    rw [gdN_s k.cons.1]
    congr 1
    funext q
    exact gdsN_s l l' k.cons.2 q
  | [], _ :: _, k, _ => by have := k.1; simp at this
  | _ :: _, [], k, _ => by have := k.1; simp at this
def TsS (l l' : List StM) : Prop := l.length = l'.length ∧ ∀ j (h3 : j < l.length) (h4 : j < l'.length), SameS l[j] l'[j]
theorem TsS.cons {g g' : StM} {l l' : List StM} (h : TsS (g :: l) (g' :: l')) : SameS g g' ∧ TsS l l' :=
  ⟨h.2 0 (by simp) (by simp), by simpa using h.1, fun j h3 h4 => h.2 (j + 1) (by simpa using h3) (by simpa using h4)⟩
theorem sts_s {u t : TbM} (h : SmP u t) : ∀ l l', TsS l l' → stsD u l = stsD t l'
  | [], [], _ => rfl
  | g :: l, g' :: l', k => by
    simp only [stsD]
    rw [gds_s h g.gs g'.gs ⟨k.cons.1.1, k.cons.1.2⟩, sts_s h l l' k.cons.2]
  | [], _ :: _, k => by have := k.1; simp at this
  | _ :: _, [], k => by have := k.1; simp at this
theorem stsN_s {sl : Int} {nr ns : Nat} : ∀ (l l' : List StM), TsS l l' → ∀ p, stsN sl nr ns p l = stsN sl nr ns p l'
  | [], [], _, p => rfl
  | g :: l, g' :: l', k, p => by
    simp only [stsN]
    rw [k.cons.1.1, gdsN_s g.gs g'.gs ⟨k.cons.1.1, k.cons.1.2⟩]
    congr 1
    congr 1
    funext q
    exact stsN_s l l' k.cons.2 q
  | [], _ :: _, k, _ => by have := k.1; simp at this
  | _ :: _, [], k, _ => by have := k.1; simp at this
theorem check_s {u t : TbM} (h : SameT u t) : checkE u = checkE t := by
  obtain ⟨h1, h2, h3, h4, h5, h6, h7⟩ := h
  have hp : SmP u t := ⟨h1, h2, h3, h4, h5⟩
  have ht : TsS u.ts t.ts := ⟨h6, fun j h3 h4 => h7 j h3 h4 h3⟩
  rw [checkD_eq, checkD_eq, sts_s hp _ _ ht]
  have hf : formB u = formB t := by
    unfold formB sizesB
    rw [h1, h2, h3, h4, h5, h6, stsN_s _ _ ht]
  rw [hf]
end Go.Proofs.YteedmmljahgpjabDoor

/-
  A table's bytes are read as that table again.
-/
namespace Go.Proofs.YteedmmljahgpjabDoor
open Go.RowKit
set_option linter.unusedVariables false
set_option linter.unusedSimpArgs false
theorem rs_eq {l m m' : List UInt8} {p : Int} (h : Rs l p m) (e : m = m') : Rs l p m' := e ▸ h
theorem gd_mask {t : TbM} {g : GdM} (h : gdD t g = 0) : (readsN t.ds g.wh).1 = g.fd ∧ (readsN t.ds g.wh).2 = g.rg := by
  unfold gdD at h
  split at h
  · split at h
    · rename_i e1
      split at h
      · rename_i e2
        exact ⟨by simpa using e1, by simpa using e2⟩
      · cases h
    · cases h
  · rename_i e
    rw [h] at e
    simp at e
theorem rules_rs {l m : List UInt8} {t : TbM} (hz : TzB t) : ∀ (gs : List GdM) (q : RS) (p z : Int), gdsN t.sl t.rs.length t.ts.length q.sp gs = some z → gdsD t gs = 0 → (∀ g ∈ gs, GdB g) → Rs l p (pL (gs.map gdZ).flatten ++ m) →
    ∃ p', listR (ruleR t.ds l) gs.length q p = some (gs.map plG, spR q (z - q.sp), p') ∧ Rs l p' m
  | [], q, p, z, hl, _, _, h => by
    simp [gdsN] at hl
    subst hl
    refine ⟨p, ?_, h⟩
    simp only [List.length_nil, listR]
    rw [Int.sub_self, spR_0]
    rfl
  | g :: gs, q, p, z, hl, hd, hB, h => by
    simp only [gdsN] at hl
    obtain ⟨y, hy1, hy2⟩ := Option.bind_eq_some_iff.1 hl
    simp only [gdsD] at hd
    split at hd
    · rename_i e0
      have hm := gd_mask (by simpa using e0)
      rw [List.map_cons, List.flatten_cons, pL_app, List.append_assoc] at h
      obtain ⟨p1, e1, h1⟩ := rule_rs hz hy1 (hB g (List.mem_cons_self ..)) hm.1 hm.2 h
      obtain ⟨p2, e2, h2⟩ := rules_rs hz gs (spR q (y - q.sp)) p1 z (by rw [spR_sp, show q.sp + (y - q.sp) = y by omega]; exact hy2) hd (fun x hx => hB x (List.mem_cons_of_mem _ hx)) h1
      refine ⟨p2, ?_, h2⟩
      simp only [List.length_cons, listR, e1, Option.bind_some]
      rw [e2]
      simp only [Option.map_some, spR_spR, spR_sp, List.map_cons]
      congr 4
      omega
    · rename_i e0
      rw [hd] at e0
      simp at e0
theorem state_rs {l m : List UInt8} {t : TbM} (hz : TzB t) {x : StM} {q : RS} {p z : Int} (h12 : x.gs.length ≤ 12) (hl : gdsN t.sl t.rs.length t.ts.length q.sp x.gs = some z) (hd : gdsD t x.gs = 0) (hB : ∀ g ∈ x.gs, GdB g) (h : Rs l p (pL (stZ x) ++ m)) :
    ∃ p', stateR t.ds l q p = some (x.gs.map plG, spR q (z - q.sp), p') ∧ Rs l p' m := by
  have e : pL (stZ x) ++ m = W.put1 ((x.gs.length : Int)).toNat ++ (pL (x.gs.map gdZ).flatten ++ m) := by
    unfold stZ pL
    simp
  rw [e] at h
  obtain ⟨p1, e1, h1⟩ := upto_rs (k := 12) h (by omega) (by omega) (by omega)
  obtain ⟨p2, e2, h2⟩ := rules_rs hz x.gs q p1 z hl hd hB h1
  refine ⟨p2, ?_, h2⟩
  unfold stateR
  simp only [e1, Option.bind_some, Int.toNat_natCast, e2]
theorem states_rs {l m : List UInt8} {t : TbM} (hz : TzB t) : ∀ (ts : List StM) (q : RS) (p z : Int), stsN t.sl t.rs.length t.ts.length q.sp ts = some z → stsD t ts = 0 → (∀ s ∈ ts, ∀ g ∈ s.gs, GdB g) → Rs l p (pL (ts.map stZ).flatten ++ m) →
    ∃ p', listR (stateR t.ds l) ts.length q p = some (ts.map (fun s => s.gs.map plG), spR q (z - q.sp), p') ∧ Rs l p' m
  | [], q, p, z, hl, _, _, h => by
    simp [stsN] at hl
    subst hl
    refine ⟨p, ?_, h⟩
    simp only [List.length_nil, listR]
    rw [Int.sub_self, spR_0]
    rfl
  | x :: ts, q, p, z, hl, hd, hB, h => by
    simp only [stsN] at hl
    split at hl
    · cases hl
    · rename_i h12
      obtain ⟨y, hy1, hy2⟩ := Option.bind_eq_some_iff.1 hl
      simp only [stsD] at hd
      split at hd
      · rename_i e0
        rw [List.map_cons, List.flatten_cons, pL_app, List.append_assoc] at h
        obtain ⟨p1, e1, h1⟩ := state_rs hz (by omega) hy1 (by simpa using e0) (hB x (List.mem_cons_self ..)) h
        obtain ⟨p2, e2, h2⟩ := states_rs hz ts (spR q (y - q.sp)) p1 z (by rw [spR_sp, show q.sp + (y - q.sp) = y by omega]; exact hy2) hd (fun x hx => hB x (List.mem_cons_of_mem _ hx)) h1
        refine ⟨p2, ?_, h2⟩
        simp only [List.length_cons, listR, e1, Option.bind_some]
        rw [e2]
        simp only [Option.map_some, spR_spR, spR_sp, List.map_cons]
        congr 4
        omega
      · rename_i e0
        rw [hd] at e0
        simp at e0
theorem txt_rs {l m : List UInt8} {p : Int} {x : ByteArray} (hx : x.size ≤ 65536) (h : Rs l p (W.text1 x.data.toList ++ m)) : ∃ p', txtR l p = some (x, p') ∧ Rs l p' m := by
  obtain ⟨pre, rfl, rfl⟩ := h
  obtain ⟨t1, t2, t3⟩ := W.text_put pre x.data.toList m (by rw [W.len_of]; exact hx)
  rw [List.append_assoc] at t1 t2 t3
  refine ⟨((pre ++ W.text1 x.data.toList).length : Int), ?_, ⟨pre ++ W.text1 x.data.toList, by rw [List.append_assoc], rfl⟩⟩
  unfold txtR
  rw [if_pos t1, t2, t3, W.list_bytes]
def tpOf (t : TbM) : TbP := ⟨t.x, t.rs, t.sl, t.cs, t.ds, t.ts.map (fun s => s.gs.map plG)⟩
theorem read_enc {t : TbM} (h : checkE t = 0) (hr : ∀ n ∈ t.rs, I64 n) (hc : ∀ n ∈ t.cs, I64 n) : readR (encL t) 0 = some (tpOf t, ((encL t).length : Int)) := by
  have hins := ins_a h
  have hf : formB t = true := check_form (by rw [h]; rfl)
  have hfb := form_b hf
  rw [checkD_eq, hf, if_pos rfl] at h
  unfold formB at hf
  simp only [Bool.and_eq_true] at hf
  obtain ⟨⟨hnm, hsz⟩, he⟩ := hf
  unfold sizesB withinB at hsz
  simp at hsz
  unfold nameB at hnm
  simp at hnm
  have hx16 : t.x.size ≤ 16 := by omega
  have hz : TzB t := ⟨by omega, by omega, by omega⟩
  unfold endB at he
  split at he
  · rename_i q hq
    have e0 : encL t = W.text1 t.x.data.toList ++ (W.put1 ((t.rs.length : Int)).toNat ++ ((t.rs.map (fun n => W.put1 (W.zigN n).toNat)).flatten ++ (W.put1 t.sl.toNat ++ (W.put1 ((t.cs.length : Int)).toNat ++ ((t.cs.map (fun n => W.put1 (W.zigN n).toNat)).flatten ++ (W.put1 ((t.ds.length : Int)).toNat ++ (pL (((t.ds.map inZ).flatten).map u64) ++ (W.put1 ((t.ts.length : Int)).toNat ++ (pL (t.ts.map stZ).flatten ++ []))))))))) := by
      unfold encL
      rw [← pL_put]
      unfold contZ hdZ
      simp only [pL_app, sg_b, List.append_assoc, Int.toNat_natCast, List.append_nil]
      simp [pL]
    have h0 : Rs (encL t) 0 (encL t) := ⟨[], rfl, rfl⟩
    have h0' := rs_eq h0 e0
    obtain ⟨p1, e1, h1⟩ := txt_rs (by omega) h0'
    obtain ⟨p2, e2, h2⟩ := upto_rs (k := 12) h1 (by omega) (by omega) (by omega)
    obtain ⟨p3, e3, h3⟩ := ints_rs t.rs p2 hr h2
    obtain ⟨p4, e4, h4⟩ := upto_rs (k := 4) h3 (by omega) (by omega) (by omega)
    obtain ⟨p5, e5, h5⟩ := upto_rs (k := 1024) h4 (by omega) (by omega) (by omega)
    obtain ⟨p6, e6, h6⟩ := ints_rs t.cs p5 hc h5
    obtain ⟨p7, e7, h7⟩ := upto_rs (k := 4096) h6 (by omega) (by omega) (by omega)
    obtain ⟨p8, e8, h8⟩ := ins_rs t.ds p7 hins h7
    obtain ⟨p9, e9, h9⟩ := upto_rs (k := 12) h8 (by omega) (by omega) (by omega)
    obtain ⟨p10, e10, h10⟩ := states_rs hz t.ts q00 p9 q hq h (fun s hs => (hfb s hs).2) h9
    have hp : p10 = ((encL t).length : Int) := by
      obtain ⟨pre, e11, e12⟩ := h10
      rw [e12, e11, List.append_nil]
    unfold readR
    simp only [e1, Option.bind_some, e2, Int.toNat_natCast, e3, e4, e5, e6, e7, e8, e9, e10, Option.map_some, hp]
    rfl
  · cases he
end Go.Proofs.YteedmmljahgpjabDoor

/-
  TableBack, walked.
-/
namespace Go.Proofs.YteedmmljahgpjabDoor
open Go.RowKit
set_option linter.unusedVariables false
set_option linter.unusedSimpArgs false
theorem pL_len2 : ∀ l : List Int, (∀ n ∈ l, n ≤ 16383) → (pL l).length ≤ 2 * l.length
  | [], _ => Nat.le_refl _
  | n :: l, h => by
    have h1 := pL_len2 l (fun m hm => h m (List.mem_cons_of_mem _ hm))
    have h2 := W.put1_len 1 n.toNat (by have := h n (List.mem_cons_self ..); omega)
    have e : pL (n :: l) = W.put1 n.toNat ++ pL l := rfl
    rw [e, List.length_append, List.length_cons]
    omega
theorem flat_b {α : Type} {f : α → List UInt8} {c : Nat} : ∀ l : List α, (∀ a ∈ l, (f a).length ≤ c) → ((l.map f).flatten).length ≤ c * l.length
  | [], _ => Nat.zero_le _
  | a :: l, h => by
    have h1 := flat_b l (fun b hb => h b (List.mem_cons_of_mem _ hb))
    have h2 := h a (List.mem_cons_self ..)
    rw [List.map_cons, List.flatten_cons, List.length_append, List.length_cons, Nat.mul_add, Nat.mul_one]
    omega
theorem pL_flat : ∀ l : List (List Int), pL l.flatten = (l.map pL).flatten
  | [] => rfl
  | a :: l => by rw [List.flatten_cons, pL_app, List.map_cons, List.flatten_cons, pL_flat l]
theorem st_sm {t : TbM} {x : StM} (hz : TzB t) (h12 : x.gs.length ≤ 12) (hB : ∀ g ∈ x.gs, GdB g) (hR : ∀ g ∈ x.gs, ∀ r ∈ g.rs, rowB t.sl t.rs.length t.ts.length r = true) : (pL (stZ x)).length ≤ 1394 := by
  have h1 := pL_len2 (stZ x) (fun n hn => by
    unfold stZ at hn
    rcases List.mem_cons.1 hn with rfl | hn
    · omega
    · obtain ⟨y, hy, hn⟩ := List.mem_flatten.1 hn
      obtain ⟨g, hg, rfl⟩ := List.mem_map.1 hy
      have hgB := hB g hg
      unfold gdZ at hn
      rcases List.mem_append.1 hn with hn | hn
      · have h1 := hgB.1
        unfold LenW at h1
        have h2 := hgB.2.1
        simp at hn
        rcases hn with rfl | rfl <;> omega
      · obtain ⟨z, hz', hn⟩ := List.mem_flatten.1 hn
        obtain ⟨r, hr, rfl⟩ := List.mem_map.1 hz'
        obtain ⟨⟨k0, k1⟩, ⟨q0, q1⟩, ⟨i0, i1⟩, _⟩ := row_kio hz (hR g hg r hr)
        unfold rowZ at hn
        rcases List.mem_append.1 hn with hn | hn
        · simp at hn
          rcases hn with rfl | rfl | rfl <;> omega
        · obtain ⟨y, hy, rfl⟩ := List.mem_map.1 hn
          have := hgB.2.2 r hr y hy
          unfold LenW at this
          omega)
  have h2 : (stZ x).length ≤ 1 + 58 * x.gs.length := by
    unfold stZ
    rw [List.length_cons]
    have := flat_le (f := gdZ) (c := 58) x.gs (fun g hg => by
      unfold gdZ
      have h3 := flat_le (f := rowZ) (c := 7) g.rs (fun r _ => rowZ_le r)
      have h4 := (hB g hg).2.1
      rw [List.length_append]
      simp only [List.length_cons, List.length_nil]
      omega)
    omega
  omega
theorem enc_len {t : TbM} (h : checkE t = 0) (hr : ∀ n ∈ t.rs, I64 n) (hc : ∀ n ∈ t.cs, I64 n) : (encL t).length ≤ 65536 := by
  have hins := ins_a h
  have hf : formB t = true := check_form (by rw [h]; rfl)
  have hfb := form_b hf
  have hfr := form_rows hf
  unfold formB at hf
  simp only [Bool.and_eq_true] at hf
  obtain ⟨⟨hnm, hsz⟩, he⟩ := hf
  unfold sizesB withinB at hsz
  simp at hsz
  unfold nameB at hnm
  simp at hnm
  have hx16 : t.x.size ≤ 16 := by omega
  have hz : TzB t := ⟨by omega, by omega, by omega⟩
  have g1 := W.text1_size t.x.data.toList (by rw [W.len_of]; omega)
  rw [W.len_of] at g1
  have g2 := pL_len (sgZ t.rs) (sg_le hr (by omega))
  have g3 := pL_len (sgZ t.cs) (sg_le hc (by omega))
  have s1 : (sgZ t.rs).length = t.rs.length + 1 := by unfold sgZ; simp
  have s2 : (sgZ t.cs).length = t.cs.length + 1 := by unfold sgZ; simp
  have g4 := pL_len2 [t.sl] (fun n hn => by rw [List.mem_singleton.1 hn]; omega)
  have g5 := pL_len2 [(t.ds.length : Int)] (fun n hn => by rw [List.mem_singleton.1 hn]; omega)
  have g6 := pL_len2 [(t.ts.length : Int)] (fun n hn => by rw [List.mem_singleton.1 hn]; omega)
  have g7 := pL_len2 (((t.ds.map inZ).flatten).map u64) (fun n hn => by
    obtain ⟨k, hk, rfl⟩ := List.mem_map.1 hn
    obtain ⟨y, hy, hk⟩ := List.mem_flatten.1 hk
    obtain ⟨d, hd, rfl⟩ := List.mem_map.1 hy
    have := hins d hd
    unfold inZ at hk
    simp at hk
    unfold u64
    rcases hk with rfl | rfl <;> omega)
  have s7 : (((t.ds.map inZ).flatten).map u64).length ≤ 2 * t.ds.length := by
    rw [List.length_map]
    exact flat_le (f := inZ) (c := 2) t.ds (fun d _ => Nat.le_refl _)
  have g8 : (pL (t.ts.map stZ).flatten).length ≤ 1394 * t.ts.length := by
    rw [pL_flat, List.map_map]
    exact flat_b (f := fun s => pL (stZ s)) (c := 1394) t.ts (fun s hs => st_sm hz (hfb s hs).1 (hfb s hs).2 (hfr s hs))
  unfold encL
  rw [← pL_put]
  unfold contZ hdZ
  simp only [pL_app, List.length_append]
  simp only [List.length_singleton] at g4 g5 g6
  omega
theorem un_enc {t : TbM} (h : checkE t = 0) (hr : ∀ n ∈ t.rs, I64 n) (hc : ∀ n ∈ t.cs, I64 n) : unR (encS t) = some (tpOf t) ∧ encE t = 0 ∧ (encS t).size ≤ 1099511627776 := by
  have hl := enc_len h hr hc
  have hfS : W.frS (encL t) = W.frameL (encL t) := by unfold W.frS; rw [if_neg (by omega)]
  have hfE : W.frE (encL t) = 0 := by unfold W.frE; rw [if_neg (by omega)]
  obtain ⟨t1, t2, t3⟩ := W.un_put [] (encL t) [] hl
  simp only [List.nil_append, List.append_nil, List.length_nil] at t1 t2 t3
  have he : encS t = W.bytes (W.frameL (encL t)) := by unfold encS; rw [h, hfS]; rfl
  have hE : encE t = 0 := by unfold encE; rw [h, hfE]; rfl
  have hd : (encS t).data.toList = W.frameL (encL t) := by rw [he]; exact W.bytes_list _
  have hs : (encS t).size = (W.frameL (encL t)).length := by rw [he, W.bytes_size]
  refine ⟨?_, hE, ?_⟩
  · unfold unR
    rw [hd, hs]
    have t1' : W.unE (W.frameL (encL t)) 0 = 0 := t1
    have t2' : W.unS (W.frameL (encL t)) 0 = encL t := t2
    have t3' : W.unP (W.frameL (encL t)) 0 = ((W.frameL (encL t)).length : Int) := t3
    rw [if_pos t1', t2', t3', read_enc h hr hc]
    simp
  · rw [hs]
    unfold W.frameL
    have := W.text1_size (encL t) (by omega)
    rw [List.length_append]
    have h4 : (W.le4 (W.sumL (encL t))).length = 4 := by rw [← W.bytes_size]; exact W.le4_size _
    omega
theorem map_gs : ∀ l l' : List GdM, l.map plG = l'.map plG → GsS l l'
  | [], [], _ => ⟨rfl, fun j h => absurd h (Nat.not_lt_zero _)⟩
  | g :: l, g' :: l', h => by
    rw [List.map_cons, List.map_cons] at h
    injection h with h1 h2
    have k := map_gs l l' h2
    unfold plG at h1
    injection h1 with a b c d
    refine ⟨by rw [List.length_cons, List.length_cons, k.1], fun j h3 h4 => ?_⟩
    cases j with
    | zero => exact ⟨by show g.wh.f = g'.wh.f; rw [a], by show g.wh.t = g'.wh.t; rw [a], b, c, d⟩
    | succ j => exact k.2 j (by simpa using h3) (by simpa using h4)
  | [], _ :: _, h => by simp at h
  | _ :: _, [], h => by simp at h
theorem map_ts : ∀ l l' : List StM, l.map (fun s => s.gs.map plG) = l'.map (fun s => s.gs.map plG) → TsS l l'
  | [], [], _ => ⟨rfl, fun j h => absurd h (Nat.not_lt_zero _)⟩
  | g :: l, g' :: l', h => by
    rw [List.map_cons, List.map_cons] at h
    injection h with h1 h2
    have k := map_ts l l' h2
    have k2 := map_gs g.gs g'.gs h1
    refine ⟨by rw [List.length_cons, List.length_cons, k.1], fun j h3 h4 => ?_⟩
    cases j with
    | zero => exact ⟨k2.1, k2.2⟩
    | succ j => exact k.2 j (by simpa using h3) (by simpa using h4)
  | [], _ :: _, h => by simp at h
  | _ :: _, [], h => by simp at h
theorem is_same {u t : TbM} (h : Is (tpOf t) u) : SameT u t := by
  obtain ⟨h1, h2, h3, h4, h5, h6⟩ := h
  have k := map_ts u.ts t.ts h6
  exact ⟨h1, h3, h2, h4, h5, k.1, fun i a b _ => k.2 i a b⟩
end Go.Proofs.YteedmmljahgpjabDoor

/-
  Bytes of a table that were changed, cut off, or have more behind them: plain.
-/
namespace Go.Proofs.YteedmmljahgpjabDoor
open Go.RowKit
set_option linter.unusedVariables false
set_option linter.unusedSimpArgs false
namespace W
theorem set_parts (l : List UInt8) (j : Nat) (h : j < l.length) (c : UInt8) : l.take j ++ [c] ++ l.drop (j + 1) = l.set j c := by
  rw [List.set_eq_take_append_cons_drop, if_pos h, List.append_assoc]; rfl
theorem harm_plain (s : List UInt8) (hs : s.length ≤ 65536) (r : Nat) (hr : r < s.length + 4) (c : UInt8) (hc : (frameL s)[(put1 s.length).length + r]? ≠ some c) :
    unE ((frameL s).set ((put1 s.length).length + r) c) 0 = 32 := by
  have e : frameL s = put1 s.length ++ (s ++ le4 (sumL s)) := by unfold frameL text1; rw [List.append_assoc]
  rw [e] at hc ⊢
  rw [List.getElem?_append_right (by omega), Nat.add_sub_cancel_left] at hc
  rw [List.set_append_right ((put1 s.length).length + r) c (by omega), Nat.add_sub_cancel_left]
  by_cases h : r < s.length
  · rw [List.getElem?_append_left h] at hc
    rw [List.set_append_left r c h, ← List.append_assoc]
    refine un_harm s hs (s.set r c) (le4 (sumL s)) (by simp) rfl (fun he => hc ?_)
    have he := le4_inj (sumL_lt _) (sumL_lt _) he
    have e1 : s = s.take r ++ s[r] :: s.drop (r + 1) := by
      conv => lhs; rw [← List.take_append_drop r s, List.drop_eq_getElem_cons h]
    have e2 : s.set r c = s.take r ++ c :: s.drop (r + 1) := by rw [← set_parts s r h c, List.append_assoc]; rfl
    rw [e2] at he
    conv at he => lhs; rw [e1]
    have := sum_harm _ _ _ _ he
    rw [List.getElem?_eq_getElem h, this]
  · rw [List.getElem?_append_right (by omega)] at hc
    rw [List.set_append_right r c (by omega), ← List.append_assoc]
    refine un_harm s hs s ((le4 (sumL s)).set (r - s.length) c) rfl (by simp; rfl) (fun he => hc ?_)
    have hlt : r - s.length < (le4 (sumL s)).length := by rw [le4_len]; omega
    rw [← he, List.getElem?_set_self (by simpa using hlt)]
theorem frame_len (s : List UInt8) : (frameL s).length = (put1 s.length).length + s.length + 4 := by unfold frameL text1; rw [List.length_append, List.length_append]; rfl
theorem put1_mono : ∀ (m n : Nat), n ≤ m → (put1 n).length ≤ (put1 m).length := by
  intro m
  induction m using Nat.strongRecOn with
  | _ m ih =>
    intro n h
    by_cases hn : n < 128
    · rw [put1_small hn]; exact put1_pos m
    · have hm : ¬ m < 128 := by omega
      rw [put1_step hn, put1_step hm, List.length_cons, List.length_cons]
      exact Nat.succ_le_succ (ih (m / 128) (by omega) (n / 128) (by omega))
theorem frame_same {s t : List UInt8} (h : (frameL s).length = (frameL t).length) : s.length = t.length := by
  rw [frame_len, frame_len] at h
  rcases Nat.lt_trichotomy s.length t.length with k | k | k
  · have := put1_mono t.length s.length (by omega); omega
  · exact k
  · have := put1_mono s.length t.length (by omega); omega
theorem frame_set {s t : List UInt8} {i : Nat} {c : UInt8} (hs : s.length ≤ 65536) (ht : t.length ≤ 65536) (hi : i < (frameL s).length) (h : (frameL s).set i c = frameL t) : (frameL s)[i]? = some c := by
  have hl : s.length = t.length := frame_same (by rw [← h, List.length_set])
  have e : frameL s = put1 s.length ++ (s ++ le4 (sumL s)) := by unfold frameL text1; rw [List.append_assoc]
  have e' : frameL t = put1 s.length ++ (t ++ le4 (sumL t)) := by unfold frameL text1; rw [List.append_assoc, hl]
  by_cases hp : i < (put1 s.length).length
  · rw [e, e', List.set_append_left i c hp] at h
    have h1 := (List.append_inj h (by rw [List.length_set])).1
    rw [e, List.getElem?_append_left hp]
    have h2 : ((put1 s.length).set i c)[i]? = (put1 s.length)[i]? := by rw [h1]
    rw [List.getElem?_set_self hp] at h2
    exact h2.symm
  · rcases Classical.em ((frameL s)[i]? = some c) with k | k
    · exact k
    · exfalso
      rw [frame_len] at hi
      have e3 : (put1 s.length).length + (i - (put1 s.length).length) = i := by omega
      have := harm_plain s hs (i - (put1 s.length).length) (by omega) c (by rw [e3]; exact k)
      rw [e3, h] at this
      have h0 := (un_put [] t [] ht).1
      rw [List.nil_append, List.append_nil] at h0
      have h0' : unE (frameL t) 0 = 0 := h0
      rw [h0'] at this
      cases this
end W
theorem un_whole {b : ByteArray} (h : unR b ≠ none) : ∃ s : List UInt8, s.length ≤ 65536 ∧ b.data.toList = W.frameL s := by
  unfold unR at h
  split at h
  · rename_i e1
    split at h
    · rename_i e2
      obtain ⟨u1, u2, u3, u4, u5⟩ := W.un_one e1
      have e2' : W.unP b.data.toList 0 = (b.size : Int) := by simpa using e2
      rw [e2'] at u5
      refine ⟨_, u4, ?_⟩
      rw [u5, Int.toNat_natCast, Int.toNat_zero, List.drop_zero, Nat.sub_zero]
      exact (List.take_of_length_le (by rw [W.len_of]; exact Nat.le_refl _)).symm
    · exact absurd rfl h
  · exact absurd rfl h
theorem turned_none {s : List UInt8} (hs : s.length ≤ 65536) {i : Nat} {y : UInt8} (hi : i < (W.frameL s).length) (hy : (W.frameL s)[i]? ≠ some y) {b : ByteArray} (hb : b.data.toList = (W.frameL s).set i y) : unR b = none := by
  rcases Classical.em (unR b = none) with k | k
  · exact k
  · obtain ⟨t, ht, e⟩ := un_whole k
    exact absurd (W.frame_set hs ht hi (hb.symm.trans e)) hy
theorem cut_none {s : List UInt8} (hs : s.length ≤ 65536) {i : Nat} (hi : i < (W.frameL s).length) {b : ByteArray} (hb : b.data.toList = (W.frameL s).take i) : unR b = none := by
  rcases Classical.em (unR b = none) with k | k
  · exact k
  · exfalso
    obtain ⟨t, ht, e⟩ := un_whole k
    have h1 := (W.un_put [] t ((W.frameL s).drop i) ht).2.2
    have h2 := (W.un_put [] s [] hs).2.2
    simp only [List.nil_append, List.append_nil] at h1 h2
    rw [← e, hb, List.take_append_drop, h2, List.length_take] at h1
    omega
theorem more_none {s m : List UInt8} (hs : s.length ≤ 65536) (hm : 0 < m.length) {b : ByteArray} (hb : b.data.toList = W.frameL s ++ m) : unR b = none := by
  have h1 := (W.un_put [] s m hs).2.2
  simp only [List.nil_append] at h1
  have h1' : W.unP (W.frameL s ++ m) 0 = ((W.frameL s).length : Int) := h1
  unfold unR
  rw [hb, h1', ← W.len_of, hb, List.length_append]
  have hne : (((W.frameL s).length : Int) == (((W.frameL s).length + m.length : Nat) : Int)) = false := beq_false_of_ne (by omega)
  rw [hne]
  split <;> rfl
end Go.Proofs.YteedmmljahgpjabDoor
