import Derived.Test.YteedmmljahgpjabGreatDoorM31
import Derived.Test.YteedmmljahgpjabGreatDoorM4
import Derived.Deep.Slices
import Derived.ProofKit
import Derived.OpenShut
import Derived.ChangeArms
import Derived.SizedLaws
import Derived.Test.YteedmmljahgpjabGreatDoorUo
import Derived.Test.YteedmmljahgpjabGreatDoorM21
import Derived.Test.YteedmmljahgpjabGreatDoorM23
/-
  CopyTable: a table once more, in memory of its own.
-/
namespace Go.Proofs.YteedmmljahgpjabGreatDoor
open Go.RowKit
set_option linter.unusedVariables false
set_option linter.unusedSimpArgs false
def cxV (u : TbM) (vo : Value) : Array Value := #[.string u.x, .slice u.ra u.rs.length u.rc, .int .i64 u.sl, .slice u.ca u.cs.length u.cc, .slice u.da u.ds.length u.dc, vo]
def FB (u : TbM) (U : World) : Prop := SlAt U 1 u.ra u.rc (u.rs.map nvals) ∧ SlAt U 1 u.ca u.cc (u.cs.map nvals) ∧ SlAt U 2 u.da u.dc (u.ds.map InM.vals)
structure Ci (w V : World) (X R : Nat) (t u : TbM) (x : StM) (vo vi : Value) (gm : List GdM) (nbo nbi ks : List Bx) : Prop where
  B : Bs w V (nbi ++ (nbo ++ ((X, 27, cxV u vo) :: (R, 27, tb0) :: ks)))
  L : Lst w nbo 50 1 vo (u.ts.map StM.vals)
  Li : Lst w nbi 49 5 vi (gm.map GdM.vals)
  K : Keep ks (fun U => (FB u U ∧ ∀ s ∈ u.ts, StL U s) ∧ ∀ g ∈ gm, GdL U g)
  T : (w.heap.size, 27, t.vals) ∈ ks
  G : ∀ k (h1 : k < gm.length) (h2 : k < x.gs.length), SameG gm[k] x.gs[k]
theorem Ci.box {w V : World} {X R : Nat} {t u : TbM} {x : StM} {vo vi : Value} {gm : List GdM} {nbo nbi ks : List Bx} (h : Ci w V X R t u x vo vi gm nbo nbi ks) : V.heap[X]? = some (.cells (cxV u vo) 27 (0, 0)) ∧ V.heap[R]? = some (.cells tb0 27 (0, 0)) ∧ V.heap[w.heap.size]? = some (.cells t.vals 27 (0, 0)) :=
  ⟨(h.B.K (X, 27, cxV u vo) (by simp)).1, (h.B.K (R, 27, tb0) (by simp)).1, (h.B.K (w.heap.size, 27, t.vals) (by simp [h.T])).1⟩
theorem pm2 {α : Type} (l : List α) (a b : α) (m : List α) : (l ++ (a :: b :: m)).Perm (a :: b :: (l ++ m)) :=
  List.perm_middle.trans (List.Perm.cons _ List.perm_middle)
/-- A guard's rows once more: its box, and where they lie. -/
theorem Ci.rows {w V : World} {X R G : Nat} {t u : TbM} {x : StM} {vo vi v8 : Value} {gm : List GdM} {nbo nbi ks : List Bx} {g : GdM}
    (hL : Lst w nbo 50 1 vo (u.ts.map StM.vals)) (hLi : Lst w nbi 49 5 vi (gm.map GdM.vals)) (hK : Keep ks (fun U => (FB u U ∧ ∀ s ∈ u.ts, StL U s) ∧ ∀ g ∈ gm, GdL U g)) (hT : (w.heap.size, 27, t.vals) ∈ ks)
    (hG : ∀ k (h1 : k < gm.length) (h2 : k < x.gs.length), SameG gm[k] x.gs[k]) (hg : SpI g.wh ∧ U16 g.fd ∧ U16 g.rg ∧ ∀ r ∈ g.rs, RowI r)
    (hO : OwnK w V ((G, 49, g.vals) :: (nbi ++ (nbo ++ ((X, 27, cxV u vo) :: (R, 27, tb0) :: ks)))) 66 11 v8 (g.rs.map RowM.vals)) (hN : (((G, 49, g.vals) :: (nbi ++ (nbo ++ ((X, 27, cxV u vo) :: (R, 27, tb0) :: ks)))).map (·.1)).Nodup) :
    ∃ (a : Option Addr) (c : Nat) (ks' : List Bx), v8 = .slice a g.rs.length c ∧ (V.setCell ⟨G, 4, none⟩ v8).heap[G]? = some (.cells (GdM.vals { g with a := a, c := c }) 49 (0, 0)) ∧
      Ci w (V.setCell ⟨G, 4, none⟩ v8) X R t u x vo vi gm nbo nbi ks' ∧ Keep ks' (fun U => GdL U { g with a := a, c := c }) := by
  have hP := hO.putAt (fun p hp e => by
    rw [List.map_cons, List.nodup_cons] at hN
    exact hN.1 (List.mem_map.2 ⟨p, hp, e⟩)) 4 v8
  obtain ⟨nb, a, c, e, hB, hL8, hK8⟩ := hP.fin (by simpa using hN)
  rw [List.length_map] at e
  subst e
  refine ⟨a, c, nb ++ ((G, 49, GdM.vals { g with a := a, c := c }) :: ks), rfl, hP.box, ⟨?_, hL, hLi, fun U hU => hK U fun b hb => hU b (by simp [hb]), by simp [hT], hG⟩, fun U hU => ⟨hg.1, hg.2.1, hg.2.2.1, hK8 U fun b hb => hU b (by simp [hb]), hg.2.2.2⟩⟩
  refine hB.perm ?_
  have e1 : (g.vals.setIfInBounds 4 (Value.slice a g.rs.length c)) = GdM.vals { g with a := a, c := c } := rfl
  rw [e1]
  refine (List.perm_append_comm_assoc nb [(G, 49, GdM.vals { g with a := a, c := c })] _).trans ?_
  show (((G, 49, GdM.vals { g with a := a, c := c }) : Bx) :: (nb ++ (nbi ++ (nbo ++ ((X, 27, cxV u vo) :: (R, 27, tb0) :: ks))))).Perm _
  refine List.Perm.trans (l₂ := nbi ++ (nbo ++ ((X, 27, cxV u vo) :: (R, 27, tb0) :: (((G, 49, GdM.vals { g with a := a, c := c }) : Bx) :: (nb ++ ks))))) ?_ ?_
  · have h1 : (nb ++ (nbi ++ (nbo ++ ((X, 27, cxV u vo) :: (R, 27, tb0) :: ks)))).Perm (nbi ++ (nbo ++ ((X, 27, cxV u vo) :: (R, 27, tb0) :: (nb ++ ks)))) := by
      refine (List.perm_append_comm_assoc nb nbi _).trans (List.Perm.append_left _ ?_)
      refine (List.perm_append_comm_assoc nb nbo _).trans (List.Perm.append_left _ ?_)
      exact pm2 nb _ _ ks
    refine (List.Perm.cons _ h1).trans ?_
    refine (List.perm_middle (l₁ := nbi)).symm.trans (List.Perm.append_left _ ?_)
    refine (List.perm_middle (l₁ := nbo)).symm.trans (List.Perm.append_left _ ?_)
    exact (List.Perm.swap _ _ _).trans (List.Perm.cons _ (List.Perm.swap _ _ _))
  · refine List.Perm.append_left _ (List.Perm.append_left _ (List.Perm.cons _ (List.Perm.cons _ ?_)))
    exact (List.perm_middle (l₁ := nb)).symm
end Go.Proofs.YteedmmljahgpjabGreatDoor

/-
  What is read was written so, and not otherwise: guards, states, a whole table.
-/
namespace Go.Proofs.YteedmmljahgpjabGreatDoor
open Go.RowKit
set_option linter.unusedVariables false
set_option linter.unusedSimpArgs false
def gpZ (g : GdP) : List Int := [g.wh.len, (g.rs.length : Int)] ++ (g.rs.map rowZ).flatten
def spZ (x : List GdP) : List Int := (x.length : Int) :: (x.map gpZ).flatten
theorem stZ_p (x : StM) : stZ x = spZ (x.gs.map plG) := by
  unfold stZ spZ
  rw [List.length_map, List.map_map]
  rfl
theorem sts_p (ts : List StM) : (ts.map stZ).flatten = ((ts.map (fun s => s.gs.map plG)).map spZ).flatten := by
  rw [List.map_map]
  congr 1
  exact List.map_congr_left fun x _ => stZ_p x
theorem list_wn {α : Type} {l : List UInt8} {st : RS → Int → Option (α × RS × Int)} {f : α → List Int} (hs : ∀ (q q' : RS) (p p' : Int) (a : α), 0 ≤ p → p ≤ l.length → st q p = some (a, q', p') → Wn l p p' (pL (f a))) :
    ∀ (n : Nat) (q q' : RS) (p p' : Int) (rs : List α), 0 ≤ p → p ≤ l.length → listR st n q p = some (rs, q', p') → Wn l p p' (pL (rs.map f).flatten) ∧ rs.length = n
  | 0, q, q', p, p', rs, h0, h1, h => by
    simp only [listR, Option.some.injEq, Prod.mk.injEq] at h
    obtain ⟨e1, e2, e3⟩ := h
    subst e1 e2 e3
    exact ⟨Wn.nil h0 h1, rfl⟩
  | n + 1, q, q', p, p', rs, h0, h1, h => by
    simp only [listR] at h
    obtain ⟨d, k1, k2⟩ := Option.bind_eq_some_iff.1 h
    obtain ⟨r, k3, k4⟩ := Option.map_eq_some_iff.1 k2
    obtain ⟨x, qa, m⟩ := d
    obtain ⟨ys, qb, z⟩ := r
    simp only [Prod.mk.injEq] at k4
    obtain ⟨e1, e2, e3⟩ := k4
    subst e1 e2 e3
    have w1 := hs _ _ _ _ _ h0 h1 k1
    obtain ⟨w2, hl⟩ := list_wn hs n qa qb m z ys (by have := w1.a; have := w1.b; omega) w1.c k3
    refine ⟨?_, by rw [List.length_cons, hl]⟩
    rw [List.map_cons, List.flatten_cons, pL_app]
    exact w1.app w2
theorem rule_wn {l : List UInt8} {ds : List InM} {q q' : RS} {p p' : Int} {g : GdP} (h : ruleR ds l q p = some (g, q', p')) : Wn l p p' (pL (gpZ g)) := by
  unfold ruleR at h
  obtain ⟨d, h1, h⟩ := Option.bind_eq_some_iff.1 h
  obtain ⟨n, h2, h⟩ := Option.bind_eq_some_iff.1 h
  obtain ⟨r, h3, h4⟩ := Option.map_eq_some_iff.1 h
  obtain ⟨x, qa, m⟩ := d
  obtain ⟨n1, n2⟩ := n
  obtain ⟨rs, qb, z⟩ := r
  simp only [Prod.mk.injEq] at h4
  obtain ⟨e1, e2, e3⟩ := h4
  subst e1 e2 e3
  have w1 := len_wn h1
  obtain ⟨w2, b1, b2⟩ := upto_wn h2
  obtain ⟨w3, hl⟩ := rows_wn _ _ _ _ _ _ (by have := w2.a; have := w2.b; omega) w2.c h3
  have e : pL (gpZ ⟨x, (readsN ds x).1, (readsN ds x).2, rs⟩) = W.put1 x.len.toNat ++ (W.put1 n1.toNat ++ pL (rs.map rowZ).flatten) := by
    have hl' : ((rs.length : Nat) : Int).toNat = n1.toNat := by rw [Int.toNat_natCast]; exact hl
    unfold gpZ
    rw [pL_app]
    show (W.put1 x.len.toNat ++ (W.put1 ((rs.length : Nat) : Int).toNat ++ [])) ++ _ = _
    rw [hl', List.append_nil, List.append_assoc]
  rw [e]
  exact w1.app (w2.app w3)
theorem state_wn {l : List UInt8} {ds : List InM} {q q' : RS} {p p' : Int} {g : List GdP} (h : stateR ds l q p = some (g, q', p')) : Wn l p p' (pL (spZ g)) := by
  unfold stateR at h
  obtain ⟨n, h1, h2⟩ := Option.bind_eq_some_iff.1 h
  obtain ⟨n1, n2⟩ := n
  obtain ⟨w1, b1, b2⟩ := upto_wn h1
  obtain ⟨w2, hl⟩ := list_wn (f := gpZ) (fun _ _ _ _ _ _ _ k => rule_wn k) _ _ _ _ _ _ (by have := w1.a; have := w1.b; omega) w1.c h2
  have e : pL (spZ g) = W.put1 n1.toNat ++ pL (g.map gpZ).flatten := by
    have hl' : ((g.length : Nat) : Int).toNat = n1.toNat := by rw [Int.toNat_natCast]; exact hl
    show W.put1 ((g.length : Nat) : Int).toNat ++ _ = _
    rw [hl']
    rfl
  rw [e]
  exact w1.app w2
theorem txt_wn {l : List UInt8} {p q : Int} {x : ByteArray} (h : txtR l p = some (x, q)) : Wn l p q (W.text1 x.data.toList) := by
  unfold txtR at h
  split at h
  · rename_i e
    obtain ⟨g1, g2, g3, g4, g5⟩ := W.text_one e
    simp only [Option.some.injEq, Prod.mk.injEq] at h
    obtain ⟨h1, h2⟩ := h
    subst h1 h2
    refine ⟨g1, by omega, g3, ?_⟩
    rw [W.bytes_list]
    exact g5.symm
  · cases h
theorem read_wn {l : List UInt8} {T : TbP} {t : TbM} (h : readR l 0 = some (T, (l.length : Int))) (hi : Is T t) : l = encL t := by
  unfold readR at h
  obtain ⟨x, h1, h⟩ := Option.bind_eq_some_iff.1 h
  obtain ⟨n1, h2, h⟩ := Option.bind_eq_some_iff.1 h
  obtain ⟨rs, h3, h⟩ := Option.bind_eq_some_iff.1 h
  obtain ⟨sl, h4, h⟩ := Option.bind_eq_some_iff.1 h
  obtain ⟨n2, h5, h⟩ := Option.bind_eq_some_iff.1 h
  obtain ⟨cs, h6, h⟩ := Option.bind_eq_some_iff.1 h
  obtain ⟨n3, h7, h⟩ := Option.bind_eq_some_iff.1 h
  obtain ⟨ds, h8, h⟩ := Option.bind_eq_some_iff.1 h
  obtain ⟨n4, h9, h⟩ := Option.bind_eq_some_iff.1 h
  obtain ⟨r, h10, h11⟩ := Option.map_eq_some_iff.1 h
  obtain ⟨rl, rq, rp⟩ := r
  simp only [Prod.mk.injEq] at h11
  obtain ⟨e1, e2⟩ := h11
  subst e1
  obtain ⟨i1, i2, i3, i4, i5, i6⟩ := hi
  simp only at i1 i2 i3 i4 i5 i6
  have w1 := txt_wn h1
  obtain ⟨w2, a2, _⟩ := upto_wn h2
  obtain ⟨w3, l3⟩ := ints_wn _ _ _ _ (by have := w2.a; have := w2.b; omega) w2.c h3
  obtain ⟨w4, a4, _⟩ := upto_wn h4
  obtain ⟨w5, a5, _⟩ := upto_wn h5
  obtain ⟨w6, l6⟩ := ints_wn _ _ _ _ (by have := w5.a; have := w5.b; omega) w5.c h6
  obtain ⟨w7, a7, _⟩ := upto_wn h7
  obtain ⟨w8, l8⟩ := ins_wn _ _ _ _ (by have := w7.a; have := w7.b; omega) w7.c h8
  obtain ⟨w9, a9, _⟩ := upto_wn h9
  obtain ⟨w10, l10⟩ := list_wn (f := spZ) (fun _ _ _ _ _ _ _ k => state_wn k) _ _ _ _ _ _ (by have := w9.a; have := w9.b; omega) w9.c h10
  have w := w1.app (w2.app (w3.app (w4.app (w5.app (w6.app (w7.app (w8.app (w9.app w10))))))))
  rw [e2] at w
  have hr : (t.rs.length : Nat) = n1.1.toNat := by rw [i2]; exact l3
  have hc : (t.cs.length : Nat) = n2.1.toNat := by rw [i4]; exact l6
  have hd : (t.ds.length : Nat) = n3.1.toNat := by rw [i5]; exact l8
  have ht : (t.ts.length : Nat) = n4.1.toNat := by
    have : (t.ts.map (fun s => s.gs.map plG)).length = rl.length := by rw [i6]
    rw [List.length_map] at this
    rw [this]; exact l10
  refine w.all.trans ?_
  unfold encL
  rw [← pL_put]
  unfold contZ hdZ
  rw [sts_p, i6]
  simp only [pL_app, sg_b, List.append_assoc, hr, hc, hd, ht]
  rw [i1, i2, i3, i4, i5]
  simp [pL, Int.toNat_natCast, hd, ht, Int.max_eq_left a7, Int.max_eq_left a9]
/-- Bytes that are taken are the table's own. -/
theorem form_un {b : ByteArray} {T : TbP} {t : TbM} (h : unR b = some T) (hi : Is T t) (hc : checkE t = 0) : encS t = b ∧ encE t = 0 := by
  unfold unR at h
  split at h
  · rename_i e1
    split at h
    · rename_i e2
      obtain ⟨r, h1, h2⟩ := Option.bind_eq_some_iff.1 h
      split at h2
      · rename_i e3
        simp only [Option.some.injEq] at h2
        obtain ⟨T', p'⟩ := r
        simp only at h2 e3
        subst h2
        have e3' : p' = ((W.unS b.data.toList 0).length : Int) := by simpa using e3
        rw [e3'] at h1
        have hl := read_wn h1 hi
        obtain ⟨u1, u2, u3, u4, u5⟩ := W.un_one e1
        have e2' : W.unP b.data.toList 0 = (b.size : Int) := by simpa using e2
        rw [e2'] at u5
        have hfS : W.frS (encL t) = W.frameL (encL t) := by unfold W.frS; rw [← hl, if_neg (by omega)]
        have hfE : W.frE (encL t) = 0 := by unfold W.frE; rw [← hl, if_neg (by omega)]
        refine ⟨?_, by unfold encE; rw [hc, hfE]; rfl⟩
        have he : encS t = W.bytes (W.frameL (encL t)) := by unfold encS; rw [hc, hfS]; rfl
        rw [he, ← hl, u5]
        have hz : (b.data.toList.drop (0 : Int).toNat).take ((b.size : Int).toNat - (0 : Int).toNat) = b.data.toList := by
          rw [Int.toNat_natCast, Int.toNat_zero, List.drop_zero, Nat.sub_zero]
          exact List.take_of_length_le (by rw [W.len_of]; exact Nat.le_refl _)
        rw [hz, W.list_bytes]
      · cases h2
    · cases h
  · cases h
end Go.Proofs.YteedmmljahgpjabGreatDoor

/-
  TableForm, walked.
-/
namespace Go.Proofs.YteedmmljahgpjabGreatDoor
open Go.RowKit
set_option linter.unusedVariables false
set_option linter.unusedSimpArgs false
/-- What Decode hands back, told by Encode. -/
def OutF (b : ByteArray) (v : World) (e : Ending) (w' : World) : Prop :=
  (e = .returned (.tuple #[.agg tb0, .int .i64 194]) ∨ ∃ u nb, e = .returned (.tuple #[.agg u.vals, .int .i64 0]) ∧ Bxs v w' u nb ∧ checkE u = 0 ∧ encS u = b ∧ encE u = 0) ∧ Below v.heap.size v w'
theorem decode_f (b : ByteArray) (v : World) (hs : b.size ≤ 1099511627776) (hv : Tab v) : Calls Tryz.prog 5 #[.string b] v (OutF b v) := by
  refine (decode_any b v hs hv).mono ?_
  intro e w' h
  cases hu : unR b with
  | none =>
    rw [hu] at h
    exact ⟨.inl h.1, h.2⟩
  | some T =>
    rw [hu] at h
    obtain ⟨u, nb, k1, k2, k3⟩ := h
    by_cases hc : checkE u = 0
    · rw [hc] at k2
      obtain ⟨f1, f2⟩ := form_un hu k1 hc
      exact ⟨.inr ⟨u, nb, k2.1, k2.2, hc, f1, f2⟩, k3⟩
    · rw [if_neg (by simpa using hc)] at k2
      exact ⟨.inl k2, k3⟩
set_option maxRecDepth 100000 in
set_option maxHeartbeats 4000000 in
theorem formL_any (b : ByteArray) (w : World) (htb : Tab w) : Calls Tryz.prog 3 #[.string b] w fun e w' => e = .returned (.bool true) ∧ Below w.heap.size w w' := by
  have HT : Hid (Tab w) := htb
  have cA := awake_any w htb
  clear htb
  by_cases hsz : b.size ≤ 131072
  · have hs1 : ¬ (b.size : Int) > 131072 := by omega
    have HSZ : Hid (b.size ≤ 1099511627776) := by show _ ≤ _; omega
    clear hsz
    go_enter Tryz.func3, Tryz.ntmps3
    go_wp2_with fail
    refine cA.mono ?_
    rintro e w2 ⟨rfl, hb2⟩
    have HB2 : Hid (Below w.heap.size w w2) := hb2
    have cD := decode_f b w2 HSZ.out (HT.out.on hb2)
    clear cA hb2
    go_wp2_with fail
    refine cD.mono ?_
    rintro e w7 ⟨hD, hb7⟩
    have HB7 : Hid (Below w.heap.size w w7) := below2 HB2.out hb7
    clear cD hb7 HB2
    have HZ7 : Hid ((w7.alloc (.cells tb0 27)).heap[w7.heap.size]? = some (.cells tb0 27 (0, 0))) := heap_new _ _
    rcases hD with rfl | ⟨u, nb, rfl, hx, hc, hS, hE⟩
    · have HB8 : Hid (Below w.heap.size w ((w7.alloc (.cells tb0 27)).setRow w7.heap.size tb0)) := below2 HB7.out (below_row (below_new _ _) (Nat.le_refl _) _)
      have HN8 : Hid (((w7.alloc (.cells tb0 27)).setRow w7.heap.size tb0).heap[w7.heap.size]? = some (.cells tb0 27 (0, 0))) := setRow_heap _ _ _ _ _ _ HZ7.out
      go_upto_region 5 with (refine wpList_store_row rfl 27 (.tmp 4) (.tmp 21) rfl w7.heap.size tb0 rfl rfl 27 tb0 HZ7.out size26' rfl tb0_all ?_)
      rw [show (w7.alloc (.cells #[.string ⟨#[]⟩, .slice none 0 0, .int .i64 0, .slice none 0 0, .slice none 0 0, .slice none 0 0] 27)) = w7.alloc (.cells tb0 27) from rfl]
      generalize World.setRow _ _ _ = W8 at HB8 HN8 ⊢
      generalize w7.heap.size = G8 at HN8 ⊢
      have z4 : W8.cell? ⟨G8, 4, none⟩ = some (.slice none 0 0) := cell_of HN8.out 4
      have z5 : W8.cell? ⟨G8, 5, none⟩ = some (.slice none 0 0) := cell_of HN8.out 5
      clear HZ7
      go_wp2_with fail
      go_ret
      exact ⟨rfl, HB8.out⟩
    · have hbx : Below w7.heap.size w7 ((w7.alloc (.cells tb0 27)).setRow w7.heap.size u.vals) := below_row (below_new _ _) (Nat.le_refl _) _
      have HB8 : Hid (Below w.heap.size w ((w7.alloc (.cells tb0 27)).setRow w7.heap.size u.vals)) := below2 HB7.out hbx
      have HU8 : Hid (TbL ((w7.alloc (.cells tb0 27)).setRow w7.heap.size u.vals) u) := hx.1 _ (fun b hb => (hbx.block _ (hp_lt (hx.2 b hb).1)).trans (hx.2 b hb).1)
      have HN8 : Hid (((w7.alloc (.cells tb0 27)).setRow w7.heap.size u.vals).heap[w7.heap.size]? = some (.cells u.vals 27 (0, 0))) := setRow_heap _ _ _ _ _ _ HZ7.out
      have HC : Hid (checkE u = 0) := hc
      have HS : Hid (encS u = b) := hS
      have HE : Hid (encE u = 0) := hE
      clear hx hbx hc hS hE
      go_upto_region 5 with (refine wpList_store_row rfl 27 (.tmp 4) (.tmp 21) rfl w7.heap.size u.vals rfl rfl 27 tb0 HZ7.out size26' rfl (allTb u) ?_)
      rw [show (w7.alloc (.cells #[.string ⟨#[]⟩, .slice none 0 0, .int .i64 0, .slice none 0 0, .slice none 0 0, .slice none 0 0] 27)) = w7.alloc (.cells tb0 27) from rfl]
      generalize World.setRow _ _ _ = W8 at HB8 HU8 HN8 ⊢
      generalize w7.heap.size = G8 at HN8 ⊢
      clear HZ7
      have cK := rcheck_any u W8 HU8.out
      rw [HC.out] at cK
      go_wp2_with (refine wpList_load_row rfl 27 (.tmp 4) rfl G8 rfl 27 u.vals (0, 0) _ HN8.out Tryz.underlying27 rfl size26' ?_)
      refine cK.mono ?_
      rintro e w9 ⟨rfl, hb9⟩
      have HB9 : Hid (Below w.heap.size w w9) := below2 HB8.out hb9
      have HN9 : Hid (w9.heap[G8]? = some (.cells u.vals 27 (0, 0))) := (hb9.block _ (hp_lt HN8.out)).trans HN8.out
      have cE := encode_any u w9 (HU8.out.on hb9) (HT.out.on HB9.out)
      rw [HS.out, HE.out] at cE
      clear cK hb9 HB8 HN8
      go_wp2_with (refine wpList_load_row rfl 27 (.tmp 4) rfl G8 rfl 27 u.vals (0, 0) _ HN9.out Tryz.underlying27 rfl size26' ?_)
      refine cE.mono ?_
      rintro e w10 ⟨rfl, hb10⟩
      have HB10 : Hid (Below w.heap.size w w10) := below2 HB9.out hb10
      clear cE hb10 HB9 HN9
      go_wp2_with fail
      go_ret
      exact ⟨by simp, HB10.out⟩
  · have hs1 : (b.size : Int) > 131072 := by omega
    clear hsz
    go_enter Tryz.func3, Tryz.ntmps3
    go_wp2_with fail
    refine cA.mono ?_
    rintro e w2 ⟨rfl, hb2⟩
    have HB2 : Hid (Below w.heap.size w w2) := hb2
    clear cA hb2
    go_wp2_with fail
    go_ret
    exact ⟨rfl, HB2.out⟩
end Go.Proofs.YteedmmljahgpjabGreatDoor
