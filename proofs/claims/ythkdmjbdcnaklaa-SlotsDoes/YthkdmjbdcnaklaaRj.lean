/-
  The document's arena: Take.
-/
import Derived.Test.YthkdmjbdcnaklaaRi
namespace Go.Proofs.Ythkdmjbdcnaklaa
open Go.RowKit
set_option linter.unusedVariables false

variable {w : World} {f : Rf} {nr room : Nat} {q : Nat → List Nat} {th : Nat → Int}

/-- 'append' of whatever length, at a step of a region that draws its order. -/
theorem step_append_at {P : Program} {w : World} {ops : Array Oper} {o : Oper} {a : Act} {K : Act → World → Prop} {Q : Exit → Act → World → Prop} {E : Prop} (hgd : o.guard = none) (s x : Operand) (t : TypeId)
    (ho : o.op = .call { callee := .builtin .append, args := #[s, x], argTypes := #[t, t] })
    (base : Nat) (e : TypeId) (i : TypeInfo) (z : Value) (size bytes : Nat) (ht : P.underlying t = some (.slice e)) (hi : P.info? e = some i) (hz : i.zero = some z)
    (hsize : i.size = size) (hby : i.bytes = bytes) (hzs : z.cells.size = size) (hsz : 0 < size)
    (v : Value) (n : Nat) (xs : List Value) (hs : a.eval s = v) (hown : w.ownsRow base e size v n xs)
    (ad : Addr) (m c : Nat) (news : List Value) (hx : a.eval x = .slice (some ad) m c) (hl : news.length = m * size) (hnews : ∀ j u, news[j]? = some u → w.cell? (ad.add j) = some u) (h1 : ∀ u ∈ news, u.oneCell' = true)
    (h63 : n + m ≤ maxLen) (hbytes : (n + m) * bytes ≤ 140737488355328) (hbase : base ≤ w.heap.size)
    (h : ∀ v' w', w'.ownsRow base e size v' (n + m) (xs ++ news) → w.grownBy w' v.ownBlock → (v'.ownBlock = v.ownBlock ∨ v'.ownBlock = some w.heap.size) → K (a.put o.dst v') w') :
    if Region.wanted o (yielded ops a.tmps) = true then Oper.wp P o a w K Q else E := by
  have hw : Region.wanted o (yielded ops a.tmps) = true := by simp [Region.wanted, hgd]
  rw [if_pos hw]
  obtain ⟨v', w', hr, h2, h3, _, h5⟩ := run_append_own_at (P := P) w base t o.type e i z size bytes ht hi hz hsize hby hzs hsz v n xs hown ad m c news hl hnews h1 h63 hbytes hbase
  unfold Oper.wp execOp
  simp only [ho, resolve, invoke, builtin, Sem.run_bind, Sem.run_pure, Result.andThen_ok, List.map_toArray, List.map_cons, List.map_nil, hs, hx, hr]
  exact h v' w' h2 h3 h5

theorem thF_one (l : List Nat) (th : Nat → Int) (j : Nat) : (thF l th j).oneCell' = true := by unfold thF; split <;> rfl
theorem thF_erase {l : List Nat} {th : Nat → Int} {k : Nat} (hk : k < l.length) (j : Nat) (hj : j < (l.length - 1) * 2) : (if j < k * 2 then thF l th j else thF l th ((k + 1) * 2 + (j - k * 2))) = thF (l.eraseIdx k) th j := by
  have hlt : ∀ p, p < k → nth (l.eraseIdx k) p = nth l p := fun p hp => nth_congr (by rw [List.getElem?_eraseIdx, if_pos hp])
  have hge : ∀ p, k ≤ p → nth (l.eraseIdx k) p = nth l (p + 1) := fun p hp => nth_congr (by rw [List.getElem?_eraseIdx, if_neg (by omega)])
  unfold thF
  by_cases h : j < k * 2
  · rw [if_pos h, hlt (j / 2) (by omega)]
  · rw [if_neg h, hge (j / 2) (by omega)]
    have e1 : ((k + 1) * 2 + (j - k * 2)) % 2 = j % 2 := by omega
    have e2 : ((k + 1) * 2 + (j - k * 2)) / 2 = j / 2 + 1 := by omega
    rw [e1, e2]
theorem sn_take {q : Nat → List Nat} {nr room i k n : Nat} (hq : Qk nr room q) (hi : i < nr) (hk : (q i)[k]? = some n) (j : Nat) : (if j = n then false else sn q nr j) = sn (upd q i ((q i).eraseIdx k)) nr j := by
  have hmem : ∀ m, m ∈ (q i).eraseIdx k ↔ m ∈ q i ∧ m ≠ n := by
    intro m
    rw [erase_filter (hq.nodup i hi) hk, List.mem_filter]
    simp
  by_cases e : j = n
  · rw [if_pos e]
    symm
    refine sn_false (fun i' hi' hm => ?_)
    by_cases ei : i' = i
    · subst ei; rw [upd_same, hmem] at hm; exact hm.2 e
    · rw [upd_other _ _ ei, e] at hm
      exact ei (hq.apart i' i n hi' hi hm (some_mem hk))
  · rw [if_neg e]
    refine sn_congr ⟨fun ⟨i', hi', hm⟩ => ⟨i', hi', ?_⟩, fun ⟨i', hi', hm⟩ => ⟨i', hi', ?_⟩⟩
    · by_cases ei : i' = i
      · subst ei; rw [upd_same, hmem]; exact ⟨hm, e⟩
      · rw [upd_other _ _ ei]; exact hm
    · by_cases ei : i' = i
      · subst ei; rw [upd_same, hmem] at hm; exact hm.1
      · rwa [upd_other _ _ ei] at hm

/-- Behind both appends of Take. -/
theorem rtake_after (h : RefAt w f nr room q th) (hq : Qk nr room q) {i k n : Nat} (hi : i < nr) (hk : (q i)[k]? = some n) {v1 v2 : Value} {w2 w3 : World}
    (hgr1 : w.grownBy w2 none) (hat1 : v1.ownBlock = none ∨ v1.ownBlock = some w.heap.size)
    (hown2 : w3.ownsRow 0 79 2 v2 (k + ((q i).length - (k + 1))) ((List.range (k * 2)).map (thF (q i) th) ++ (List.range (((q i).length - (k + 1)) * 2)).map (fun j => thF (q i) th ((k + 1) * 2 + j))))
    (hgr2 : w2.drew.grownBy w3 v1.ownBlock) (hat2 : v2.ownBlock = v1.ownBlock ∨ v2.ownBlock = some w2.heap.size) :
    ∃ ao2 c2, v2 = .slice ao2 ((q i).length - 1) c2 ∧ w3.cell? ⟨f.A, 0, none⟩ = some (.slice (some ⟨f.RR, 0, none⟩) nr nr) ∧ w3.cell? ⟨f.RR, i, none⟩ = some (f.V i) ∧ w3.frozen? ⟨f.RR, i, none⟩ = false ∧
    (w3.setCell ⟨f.RR, i, none⟩ v2).cell? ⟨f.A, 2, none⟩ = some (.slice (some ⟨f.U, 0, none⟩) room room) ∧ (w3.setCell ⟨f.RR, i, none⟩ v2).cell? ⟨f.U, n, none⟩ = some (.bool true) ∧ (w3.setCell ⟨f.RR, i, none⟩ v2).frozen? ⟨f.U, n, none⟩ = false ∧
    RefAt ((w3.setCell ⟨f.RR, i, none⟩ v2).setCell ⟨f.U, n, none⟩ (.bool false)) { f with V := upd f.V i v2 } nr room (upd q i ((q i).eraseIdx k)) th ∧
    RStp w f ((w3.setCell ⟨f.RR, i, none⟩ v2).setCell ⟨f.U, n, none⟩ (.bool false)) { f with V := upd f.V i v2 } nr := by
  have hkl := some_lt hk
  have hlen' : ((q i).eraseIdx k).length = (q i).length - 1 := List.length_eraseIdx_of_lt hkl
  have hrow : Row w3 79 2 v2 ((q i).length - 1) (thF ((q i).eraseIdx k) th) := by
    have e1 : k + ((q i).length - (k + 1)) = (q i).length - 1 := by omega
    rw [e1] at hown2
    unfold Row
    have e2 : (List.range (k * 2)).map (thF (q i) th) ++ (List.range (((q i).length - (k + 1)) * 2)).map (fun j => thF (q i) th ((k + 1) * 2 + j)) = (List.range (((q i).length - 1) * 2)).map (thF ((q i).eraseIdx k) th) := by
      apply List.ext_getElem?
      intro j
      by_cases h1 : j < k * 2
      · rw [List.getElem?_append_left (by simpa using h1), List.getElem?_map, List.getElem?_map, List.getElem?_range h1, List.getElem?_range (by omega)]
        have := thF_erase (th := th) hkl j (by omega)
        rw [if_pos h1] at this
        simp [this]
      · rw [List.getElem?_append_right (by simpa using Nat.le_of_not_lt h1), List.length_map, List.length_range, List.getElem?_map, List.getElem?_map]
        by_cases h2 : j < ((q i).length - 1) * 2
        · rw [List.getElem?_range (by omega), List.getElem?_range h2]
          have := thF_erase (th := th) hkl j h2
          rw [if_neg h1] at this
          simp [this]
        · rw [List.getElem?_eq_none (by simp; omega), List.getElem?_eq_none (by simp; omega)]
          rfl
    rw [← e2]; exact hown2
  have hsz := hgr1.size
  have bl : ∀ b, b < w.heap.size → w3.heap[b]? = w.heap[b]? := by
    intro b hb
    rw [hgr2.block b (Nat.lt_of_lt_of_le hb hsz) (fun e => by rcases hat1 with e1 | e1 <;> rw [e1] at e <;> simp at e; omega)]
    exact hgr1.block b hb (by simp)
  have m3 : Mv w w3 (fun _ => False) := ⟨hgr2.os.trans hgr1.os, hgr2.tape.trans hgr1.tape, hgr2.output.trans hgr1.output, Nat.le_trans hsz hgr2.size, fun b hb _ => bl b hb⟩
  have fresh : ∀ b, v2.ownBlock = some b → w.heap.size ≤ b := by
    intro b hb
    rcases hat2 with e | e
    · rw [e] at hb
      rcases hat1 with e1 | e1 <;> rw [e1] at hb <;> simp at hb
      omega
    · rw [e] at hb
      simp at hb
      omega
  have h3 : RefAt w3 f nr room q th := h.mv m3 (fun _ _ e => e)
  obtain ⟨ao2, c2, hv2, _⟩ := hrow.form
  have e1 : (w3.setCell ⟨f.RR, i, none⟩ v2).heap[f.A]? = w3.heap[f.A]? := Below.heap_setCell _ _ _ _ (h3.neRR h3.own (by decide))
  have bU : ∀ b, (Value.slice (some ⟨f.U, 0, none⟩) room room).ownBlock = some b → (w3.setCell ⟨f.RR, i, none⟩ v2).heap[b]? = w3.heap[b]? := by
    intro b hb
    obtain ⟨c, z, e⟩ := h3.used.kind b hb
    exact Below.heap_setCell _ _ _ _ (h3.neRR e (by decide))
  have hu4 : Row (w3.setCell ⟨f.RR, i, none⟩ v2) 4 1 (.slice (some ⟨f.U, 0, none⟩) room room) room (fun j => .bool (sn q nr j)) := h3.used.of_block bU
  have hnr := hq.below i n hi (some_mem hk)
  have cU := hu4.cell (j := n) (by omega)
  rw [(sn_iff q nr n).2 ⟨i, hi, some_mem hk⟩] at cU
  have hst2 : ∀ {b : Nat} {t : TypeId} {c : Array Value} {z : Nat × Nat}, w3.heap[b]? = some (.cells c t z) → t ≠ 4 → ((w3.setCell ⟨f.RR, i, none⟩ v2).setCell ⟨f.U, n, none⟩ (.bool false)).heap[b]? = (w3.setCell ⟨f.RR, i, none⟩ v2).heap[b]? := fun e ht => Below.heap_setCell _ _ _ _ (h3.neU e ht)
  have hst1 : ∀ {b : Nat} {t : TypeId} {c : Array Value} {z : Nat × Nat}, w3.heap[b]? = some (.cells c t z) → t ≠ 73 → (w3.setCell ⟨f.RR, i, none⟩ v2).heap[b]? = w3.heap[b]? := fun e ht => Below.heap_setCell _ _ _ _ (h3.neRR e ht)
  refine ⟨ao2, c2, hv2, h3.a0, h3.v hi, h3.rows.frozen i, (own_cell (e1.trans h3.own)).1, cU, hu4.frozen n, ?_, ?_⟩
  · refine h3.next hi ((hst2 h3.own (by decide)).trans e1) ?_ ((hu4.set n _).congr (fun j _ => by rw [← sn_take hq hi hk]; split <;> rfl)) ?_ (fun j hj hji => ?_) (fun b hb => ?_)
    · refine ((h3.rows.set i v2).of_block (fun b hb => ?_)).congr (fun j _ => by unfold upd; split <;> rfl)
      have : b = f.RR := by simp [Value.ownBlock] at hb; exact hb.symm
      subst this
      obtain ⟨c, z, e⟩ := h3.rows.kind f.RR rfl
      exact hst2 e (by decide)
    · rw [hlen']
      refine hrow.of_block (fun b hb => ?_)
      obtain ⟨c, z, e⟩ := hrow.kind b hb
      rw [hst2 e (by decide), hst1 e (by decide)]
    · refine (h3.row j hj).of_block (fun b hb => ?_)
      obtain ⟨c, z, e⟩ := (h3.row j hj).kind b hb
      rw [hst2 e (by decide), hst1 e (by decide)]
    · right
      intro j hj e2
      have h1 := (h.row j hj).lt b e2
      have h2 := fresh b hb
      omega
  · refine ⟨rfl, ((m3.mono (F' := RFoot f nr) (fun _ e => e.elim)).setCell (a := ⟨f.RR, i, none⟩) (.inl (.inr (.inl rfl))) _).setCell (a := ⟨f.U, n, none⟩) (.inl (.inr (.inr (.inl rfl)))) _, ?_⟩
    rintro b (e | e | e | ⟨j, hj, e⟩)
    · exact .inl (.inl e)
    · exact .inl (.inr (.inl e))
    · exact .inl (.inr (.inr (.inl e)))
    · have e' : (upd f.V i v2 j).ownBlock = some b := e
      by_cases ej : j = i
      · subst ej; rw [upd_same] at e'; exact .inr (fresh b e')
      · rw [upd_other _ _ ej] at e'
        exact .inl (.inr (.inr (.inr ⟨j, hj, e'⟩)))

end Go.Proofs.Ythkdmjbdcnaklaa
