/-
  The reader: lists of what is read one by one.
-/
import Derived.Test.YteedmmljahgpjabDoorUb
namespace Go.Proofs.YteedmmljahgpjabDoor
open Go.RowKit
set_option linter.unusedVariables false
set_option linter.unusedSimpArgs false
abbrev Bx : Type := Nat × Nat × Array Value
def Keep (nb : List Bx) (F : World → Prop) : Prop := ∀ V : World, (∀ b ∈ nb, V.heap[b.1]? = some (.cells b.2.2 b.2.1 (0, 0))) → F V
def listR {α : Type} (st : RS → Int → Option (α × RS × Int)) : Nat → RS → Int → Option (List α × RS × Int)
  | 0, q, p => some ([], q, p)
  | n + 1, q, p => (st q p).bind fun d => (listR st n d.2.1 d.2.2).map fun r => (d.1 :: r.1, r.2)
/-- Things that were read, their cells, and the boxes that they stand on. -/
inductive Rels {α : Type} (Rel : α → Array Value → List Bx → Prop) : List α → List (Array Value) → List Bx → Prop
  | nil : Rels Rel [] [] []
  | snoc {al : List α} {xs : List (Array Value)} {nbs : List Bx} {a : α} {x : Array Value} {nb : List Bx} : Rels Rel al xs nbs → Rel a x nb → Rels Rel (al ++ [a]) (xs ++ [x]) (nb ++ nbs)
theorem Rels.len {α : Type} {Rel : α → Array Value → List Bx → Prop} {al : List α} {xs : List (Array Value)} {nbs : List Bx} (h : Rels Rel al xs nbs) : al.length = xs.length := by
  induction h with
  | nil => rfl
  | snoc _ _ ih => simp [ih]
theorem Rd.own {mz : Nat} {w0 V : World} {R : Nat} {bs : List Bx} {q : RS} {s : ByteArray} {p : Int} (h : Rd w0 mz V R bs q s p) {e sz : Nat} {v : Value} {xs : List (Array Value)} (r : V.ownsRow w0.heap.size e sz v xs.length (xs.map Array.toList).flatten) (z : ∀ x ∈ xs, x.size = sz) (n1 : v.ownBlock ≠ some R) (n2 : ∀ b ∈ bs, v.ownBlock ≠ some b.1) : OwnK w0 V ((R, 90, rdA q s p) :: bs) e sz v xs :=
  ⟨r, z, h.B, fun b hb => by
    rcases List.mem_cons.1 hb with rfl | hb
    · exact ⟨h.H, h.G, n1⟩
    · exact ⟨(h.K b hb).1, h.L b hb, n2 b hb⟩⟩
theorem OwnK.rd {mz : Nat} {w0 V : World} {R : Nat} {bs : List Bx} {q : RS} {s : ByteArray} {p : Int} {e sz : Nat} {v : Value} {xs : List (Array Value)} (h : OwnK w0 V ((R, 90, rdA q s p) :: bs) e sz v xs) (hN : ∀ b ∈ bs, b.1 ≠ R) (hM : mz ≤ V.heap.size) : Rd w0 mz V R bs q s p :=
  ⟨h.box, h.B, (h.K _ (List.mem_cons_self ..)).2.1, fun b hb => ⟨(h.K b (List.mem_cons_of_mem _ hb)).1, hN b hb⟩, fun b hb => (h.K b (List.mem_cons_of_mem _ hb)).2.1, hM⟩
/-- The own list's block al a box. -/
def obx (V : World) (v : Value) : List Bx := match v.ownBlock with | some g => (match V.heap[g]? with | some (.cells cur e _) => [(g, e, cur)] | _ => []) | none => []
theorem obx_rd {mz : Nat} {w0 V : World} {R : Nat} {bs : List Bx} {q : RS} {s : ByteArray} {p : Int} {e sz : Nat} {v : Value} {xs : List (Array Value)} (h : OwnK w0 V ((R, 90, rdA q s p) :: bs) e sz v xs) (hN : ∀ b ∈ bs, b.1 ≠ R) (hM : mz ≤ V.heap.size) : Rd w0 mz V R (obx V v ++ bs) q s p := by
  have h1 := h.rd hN hM
  have hR := (h.K _ (List.mem_cons_self ..)).2.2
  unfold obx
  rcases h.R.2 with ⟨e1, e2⟩ | ⟨g, cap, cur, e1, e2, e3, _⟩
  · rw [e1]
    show Rd w0 mz V R ([] ++ bs) q s p
    simpa using h1
  · rw [e1]
    show Rd w0 mz V R ((match V.heap[g]? with | some (.cells cur e _) => [(g, e, cur)] | _ => []) ++ bs) q s p
    rw [e3]
    refine ⟨h1.H, h1.B, h1.G, fun b hb => ?_, fun b hb => ?_, hM⟩
    · rcases List.mem_cons.1 hb with rfl | hb
      · exact ⟨e3, fun e => hR (by rw [e1]; show some g = some R; rw [show g = R from e])⟩
      · exact h1.K b hb
    · rcases List.mem_cons.1 hb with rfl | hb
      · exact e2
      · exact h1.L b hb
/-- The list is al it was in every world in which the boxes are. -/
theorem obx_own {mz : Nat} {w0 V V' : World} {R : Nat} {bs bs' : List Bx} {q q' : RS} {s : ByteArray} {p p' : Int} {e sz : Nat} {v : Value} {xs : List (Array Value)} (h : OwnK w0 V ((R, 90, rdA q s p) :: bs) e sz v xs) (h' : Rd w0 mz V' R (bs' ++ (obx V v ++ bs)) q' s p') (hf : ∀ b ∈ bs', V.heap.size ≤ b.1) : OwnK w0 V' ((R, 90, rdA q' s p') :: (bs' ++ bs)) e sz v xs := by
  have hR := (h.K _ (List.mem_cons_self ..)).2.2
  have hsub : Rd w0 mz V' R (bs' ++ bs) q' s p' := ⟨h'.H, h'.B, h'.G, fun b hb => h'.K b (by rcases List.mem_append.1 hb with hb | hb <;> simp [hb]), fun b hb => h'.L b (by rcases List.mem_append.1 hb with hb | hb <;> simp [hb]), h'.M⟩
  refine hsub.own ?_ h.Z hR fun b hb => ?_
  · refine owns_blk' h.R fun g hg => ?_
    rcases h.R.2 with ⟨e1, e2⟩ | ⟨g', cap, cur, e1, e2, e3, _⟩
    · rw [e1] at hg; cases hg
    · have hgg : g' = g := by rw [e1] at hg; simpa [Value.ownBlock] using hg
      subst hgg
      have hm : (g', e, cur) ∈ obx V v := by
        unfold obx
        rw [e1]
        show _ ∈ (match V.heap[g']? with | some (.cells cur e _) => [(g', e, cur)] | _ => [])
        rw [e3]
        exact List.mem_singleton.2 rfl
      rw [e3]
      exact (h'.K (g', e, cur) (List.mem_append_right _ (List.mem_append_left _ hm))).1
  · rcases List.mem_append.1 hb with hb | hb
    · intro e1
      have h1 := (h.lt _ e1).2
      have h2 := hf b hb
      omega
    · exact (h.K b (List.mem_cons_of_mem _ hb)).2.2
/-- What a list hands back. -/
def OutL {α : Type} (w0 : World) (mz : Nat) (R : Nat) (bs : List Bx) (s : ByteArray) (Rel : α → Array Value → List Bx → Prop) (sz n B : Nat) (r : Option (List α × RS × Int)) (e : Ending) (w' : World) : Prop :=
  match r with
  | some (al, q, p) => ∃ a xs nb nbs, e = .returned (.slice a n n) ∧ Rels Rel al xs nbs ∧ xs.length = n ∧ Keep nb (fun V => SlAt V sz a n xs) ∧ Rd w0 mz w' R (nb ++ (nbs ++ bs)) q s p ∧ (∀ b ∈ nb ++ nbs, B ≤ b.1) ∧ B ≤ w'.heap.size
  | none => e = pan pf ∧ Below w0.heap.size w0 w'
/-- What a step of a list hands back. -/
def OutS {α : Type} (w0 : World) (mz : Nat) (R : Nat) (bs : List Bx) (s : ByteArray) (Rel : α → Array Value → List Bx → Prop) (mk : Array Value → Value) (B : Nat) (r : Option (α × RS × Int)) (e : Ending) (w' : World) : Prop :=
  match r with
  | some (a, q, p) => ∃ x nb, e = .returned (mk x) ∧ Rel a x nb ∧ Rd w0 mz w' R (nb ++ bs) q s p ∧ (∀ b ∈ nb, B ≤ b.1) ∧ B ≤ w'.heap.size
  | none => e = pan pf ∧ Below w0.heap.size w0 w'
theorem wpList_slice1w {w : World} {ops : Array Oper} {rest : List Oper} {o : Oper} {a : Act} {Q : Exit → Act → World → Prop} (hgd : o.guard = none) (t e : TypeId) (x : Operand) (ho : o.op = .buildSlice t 1 #[(0, x)])
    (cs : Array Value) (mk : Array Value → Value) (hx : a.eval x = mk cs) (hc : (mk cs).cells = cs) (n : Nat) (z : Value) (ht : Tryd.prog.underlying t = some (.slice e)) (by_ : Nat) (hi : (Tryd.prog.info? e).map (fun i => (i.zero, i.size, i.bytes)) = some (some z, n, by_)) (hz : z.cells.size = n) (hn : cs.size = n) (h0 : 0 < n) (h1 : n ≤ 1000)
    (h : wpList Tryd.prog ops Q rest (a.put o.dst (.slice (some ⟨w.heap.size, 0, none⟩) 1 1)) (w.alloc (.cells cs e))) : wpList Tryd.prog ops Q (o :: rest) a w :=
  wpList_slice1v hgd t e x ho cs (mk cs) hx hc n z ht by_ hi hz hn h0 h1 h
theorem inf2 : (Tryd.prog.info? 2).map (fun i => (i.zero, i.size, i.bytes)) = some (some (.int .i64 0), 1, 8) := by kernel_rfl
theorem inf61 : (Tryd.prog.info? 44).map (fun i => (i.zero, i.size, i.bytes)) = some (some (.agg #[.int .u8 0, .int .i64 0]), 2, 16) := by kernel_rfl
theorem inf85 : (Tryd.prog.info? 72).map (fun i => (i.zero, i.size, i.bytes)) = some (some (.agg #[.int .u8 0, .int .u8 0, .int .i64 0, .int .i64 0, .int .i64 0, .int .i64 0, .int .i64 0, .int .i64 0, .int .i64 0, .int .i64 0, .int .i64 0]), 11, 80) := by kernel_rfl
theorem inf68 : (Tryd.prog.info? 51).map (fun i => (i.zero, i.size, i.bytes)) = some (some (.agg #[.int .i64 0, .int .i64 0, .int .u16 0, .int .u16 0, .slice none 0 0]), 5, 48) := by kernel_rfl
theorem inf69 : (Tryd.prog.info? 52).map (fun i => (i.zero, i.size, i.bytes)) = some (some (.slice none 0 0), 1, 24) := by kernel_rfl
theorem app_one2 {w V : World} {bs : List (Nat × Nat × Array Value)} {e sz : Nat} {v : Value} {vs : List (Array Value)} (hL : OwnK w V bs e sz v vs) (t : TypeId) (cs : Array Value) (hcs : cs.size = sz) (h1 : cs.all (·.oneCell') = true)
    (z : Value) (by_ : Nat) (ht : Tryd.prog.underlying t = some (.slice e)) (hi : (Tryd.prog.info? e).map (fun i => (i.zero, i.size, i.bytes)) = some (some z, sz, by_)) (hz : z.cells.size = sz) (h0 : 0 < sz) (hn : vs.length ≤ 1000000) (hby : by_ ≤ 1000)
    {ops : Array Oper} {rest : List Oper} {o : Oper} {a : Act} {Q : Exit → Act → World → Prop} (hgd : o.guard = none) (d x : Operand)
    (ho : o.op = .call { callee := .builtin .append, args := #[d, x], argTypes := #[t, t] }) (hs : a.eval d = v) (hx : a.eval x = .slice (some ⟨V.heap.size, 0, none⟩) 1 1)
    (h : ∀ g cap w', OwnK w w' bs e sz (.slice (some ⟨g, 0, none⟩) (vs.length + 1) cap) (vs ++ [cs]) → (v.ownBlock = some g ∨ V.heap.size ≤ g) → V.heap.size ≤ w'.heap.size → wpList Tryd.prog ops Q rest (a.put o.dst (.slice (some ⟨g, 0, none⟩) (vs.length + 1) cap)) w') :
    wpList Tryd.prog ops Q (o :: rest) a (V.alloc (.cells cs e)) := by
  obtain ⟨i0, hi0, hz0, hz1, hz2⟩ := info_parts hi
  have hsz := size_alloc V (.cells cs e)
  have hA : OwnK w (V.alloc (.cells cs e)) bs e sz v vs := hL.on (below_new _ _)
  have hwV := hL.B.size
  have hby2 : (vs.length + 1) * by_ ≤ 140737488355328 := by
    have : (vs.length + 1) * by_ ≤ 1000001 * 1000 := Nat.mul_le_mul (by omega) hby
    omega
  refine wpList_append_lies _ hgd d x t ho w.heap.size e i0 z sz by_ ht hi0 hz0 hz1 hz2 hz h0 v vs.length _ hs hA.R ⟨V.heap.size, 0, none⟩ 1 1 cs.toList hx (by simp; exact hcs) (World.news_of_block (heap_new V _)) (fun u hu => (Array.all_eq_true_iff_forall_mem.1 h1) u (by simpa using hu)) (by decide) (by unfold maxLen; omega) hby2 (by omega) _ rfl ?_
  intro g cap w' h2 h3 h4 h5
  refine h g cap w' ⟨?_, ?_, ?_, ?_⟩ (h4.imp id fun e => by omega) (by have := h3.size; omega)
  · rw [List.length_append, List.length_singleton, List.map_append, List.flatten_append]
    simpa using h2
  · intro y hy
    rcases List.mem_append.1 hy with hy | hy
    · exact hL.Z y hy
    · rw [List.mem_singleton.1 hy]; exact hcs
  · exact hA.B.grown h3 (by omega) fun k hk => (hA.lt k hk).1
  · intro p hp
    obtain ⟨q1, q2, q3⟩ := hA.K p hp
    have hl := (Array.getElem?_eq_some_iff.1 q1).1
    refine ⟨(h3.block _ hl (fun e => q3 e.symm)).trans q1, q2, fun e => ?_⟩
    have hg : g = p.1 := by simpa [Value.ownBlock] using e
    rcases h4 with h4 | h4
    · exact q3 (by rw [h4, hg])
    · omega
set_option maxRecDepth 100000 in
set_option maxHeartbeats 4000000 in
theorem list110_any {mz : Nat} {α : Type} (st : RS → Int → Option (α × RS × Int)) (Rel : α → Array Value → List Bx → Prop) (mk : Array Value → Value) (Iq : Nat → RS → Prop) (R n : Nat) (bs : List Bx) (q : RS) (s : ByteArray) (p : Int) (w : World) (w0 : World) (h : Rd w0 mz w R bs q s p) (hn : n ≤ 100000) (hq0 : Iq 0 q) (hmk : ∀ a x nb, Rel a x nb → (mk x).cells = x) (hrel : ∀ a x nb, Rel a x nb → x.size = 1 ∧ x.all (·.oneCell') = true) (hiq : ∀ i q p a q' p', i < n → Iq i q → st q p = some (a, q', p') → Iq (i + 1) q') (hst : ∀ i V bs1 q p, i < n → Iq i q → (∀ b ∈ bs, b ∈ bs1) → Rd w0 V.heap.size V R bs1 q s p → Calls Tryd.prog 46 #[.pointer (some ⟨R, 0, none⟩)] V (OutS w0 V.heap.size R bs1 s Rel mk V.heap.size (st q p))) : Calls Tryd.prog 44 #[.int .i64 n, .func (.func 46) #[.pointer (some ⟨R, 0, none⟩)] #[]] w fun e w' => OutL w0 mz R bs s Rel 1 n w.heap.size (listR st n q p) e w' := by
  have HMK : Hid (∀ a x nb, Rel a x nb → (mk x).cells = x) := hmk
  have HRL : Hid (∀ a x nb, Rel a x nb → x.size = 1 ∧ x.all (·.oneCell') = true) := hrel
  have HIQ : Hid (∀ i q p a q' p', i < n → Iq i q → st q p = some (a, q', p') → Iq (i + 1) q') := hiq
  have HST : Hid (∀ i V bs1 q p, i < n → Iq i q → (∀ b ∈ bs, b ∈ bs1) → Rd w0 V.heap.size V R bs1 q s p → Calls Tryd.prog 46 #[.pointer (some ⟨R, 0, none⟩)] V (OutS w0 V.heap.size R bs1 s Rel mk V.heap.size (st q p))) := hst
  obtain ⟨T, eT⟩ : ∃ T, listR st n q p = T := ⟨_, rfl⟩
  rw [eT]
  have HT0 : Hid (T = (listR st (n - 0) q p).map fun r => (([] : List α) ++ r.1, r.2)) := by
    show _ = _
    rw [← eT, Nat.sub_zero]
    cases listR st n q p with
    | none => rfl
    | some r => rfl
  have HW : Hid (w0.heap.size ≤ w.heap.size) := h.B.size
  have HMZ : Hid (mz ≤ w.heap.size) := h.M
  have HO0 : Hid (OwnK w0 w ((R, 90, rdA q s p) :: ([] ++ bs)) 2 1 (.slice none 0 0) []) := h.own ⟨by simp, .inl ⟨rfl, rfl⟩⟩ (by simp) (by simp [Value.ownBlock]) (by simp [Value.ownBlock])
  have HNR : Hid (∀ b ∈ bs, b.1 ≠ R) := fun b hb => (h.K b hb).2
  have hnm : (n : Int) ≤ 9223372036854775807 := by omega
  have HI0 : Hid (Iq 0 q) := hq0
  clear eT h hq0 hst hiq hrel hmk
  go_enter Tryd.func44, Tryd.ntmps44
  go_wp2_with fail
  go_loopw [5, 7] (fun fv t wr => ∃ (i : Nat) (v : Value) (q : RS) (p : Int) (al : List α) (xs : List (Array Value)) (nbs : List Bx), i ≤ n ∧ fv = v ∧ t = .int .i64 i ∧ xs.length = i ∧ Hid (OwnK w0 wr ((R, 90, rdA q s p) :: (nbs ++ bs)) 2 1 v xs) ∧ Hid (∀ b ∈ nbs ++ bs, b.1 ≠ R) ∧ Hid (Rels Rel al xs nbs) ∧ Hid (Iq i q) ∧ Hid (T = (listR st (n - i) q p).map fun r => (al ++ r.1, r.2)) ∧ Hid ((i = 0 → v = .slice none 0 0) ∧ (∀ b ∈ nbs, w.heap.size ≤ b.1) ∧ (∀ g, v.ownBlock = some g → w.heap.size ≤ g) ∧ w.heap.size ≤ wr.heap.size)) (fun _ t _ => n - (intOf t).toNat)
  case atStart => exact ⟨0, _, q, p, [], [], [], by omega, rfl, rfl, rfl, HO0, HNR, Rels.nil, HI0, HT0, fun _ => rfl, by simp, by simp [Value.ownBlock], Nat.le_refl _⟩
  case round =>
    obtain ⟨i, v, q, p, al, xs, nbs, hi, rfl, rfl, hxl, HOR, HNN, HRS, HIR, HTR, HVR⟩ := hrel
    by_cases hlt : i < n
    · have hlt' : (i : Int) < (n : Int) := by omega
      have hmx : (i : Int) + 1 ≤ 9223372036854775807 := by omega
      have HRD := obx_rd (mz := wr.heap.size) HOR.out HNN.out (Nat.le_refl _)
      have cS := HST.out i wr _ q p hlt HIR.out (fun b hb => by simp [hb]) HRD
      have hni : n - i = (n - (i + 1)) + 1 := by omega
      cases hS : st q p with
      | none =>
        rw [hS] at cS
        replace cS : Calls Tryd.prog 46 #[.pointer (some ⟨R, 0, none⟩)] wr (fun e w' => e = pan pf ∧ Below w0.heap.size w0 w') := cS
        have HT2 : Hid (T = none) := by show _ = _; rw [HTR.out, hni]; show Option.map _ ((st q p).bind _) = _; rw [hS]; rfl
        clear HRD
        go_wp2_with fail
        refine cS.mono ?_
        rintro e w5 ⟨rfl, hb5⟩
        exact ⟨rfl, by rw [HT2.out]; exact ⟨rfl, hb5⟩⟩
      | some aq =>
        obtain ⟨a, q2, p2⟩ := aq
        rw [hS] at cS
        replace cS : Calls Tryd.prog 46 #[.pointer (some ⟨R, 0, none⟩)] wr (fun e w' => ∃ x nb, e = .returned (mk x) ∧ Rel a x nb ∧ Rd w0 wr.heap.size w' R (nb ++ (obx wr _ ++ (nbs ++ bs))) q2 s p2 ∧ (∀ b ∈ nb, wr.heap.size ≤ b.1) ∧ wr.heap.size ≤ w'.heap.size) := cS
        have HT2 : Hid (T = (listR st (n - (i + 1)) q2 p2).map fun r => ((al ++ [a]) ++ r.1, r.2)) := by
          show _ = _
          rw [HTR.out, hni]
          show Option.map _ ((st q p).bind _) = _
          rw [hS, Option.bind_some, Option.map_map]
          congr 1
          funext r
          simp
        have HI2 : Hid (Iq (i + 1) q2) := HIQ.out i q p a q2 p2 hlt HIR.out hS
        clear HRD
        go_wp2_with fail
        refine cS.mono ?_
        rintro e w5 ⟨x, nb, rfl, hx, hr5, hf5, h55⟩
        have HO5 : Hid (OwnK w0 w5 ((R, 90, rdA q2 s p2) :: (nb ++ (nbs ++ bs))) 2 1 _ xs) := obx_own HOR.out hr5 hf5
        have HN5 : Hid (∀ b ∈ nb ++ (nbs ++ bs), b.1 ≠ R) := fun b hb => (hr5.K b (by rcases List.mem_append.1 hb with hb | hb <;> simp [hb])).2
        obtain ⟨hxz, hxa⟩ := HRL.out a x nb hx
        have HXC : Hid ((mk x).cells = x) := HMK.out a x nb hx
        have HRS2 : Hid (Rels Rel (al ++ [a]) (xs ++ [x]) (nb ++ nbs)) := Rels.snoc HRS.out hx
        have hv1 := HVR.out.2.1
        have hv2 := HVR.out.2.2.1
        have hv3 := HVR.out.2.2.2
        have HV2 : Hid ((∀ b ∈ nb ++ nbs, w.heap.size ≤ b.1) ∧ w.heap.size ≤ w5.heap.size) := ⟨fun b hb => by rcases List.mem_append.1 hb with hb | hb; exact Nat.le_trans hv3 (hf5 b hb); exact hv1 b hb, by omega⟩
        clear cS hr5 hf5 HOR HNN HRS HIR HTR hx
        go_wp2_with (first | (refine wpList_slice1w rfl 22 2 (.tmp 11) rfl x mk rfl HXC.out 1 _ Tryd.underlying22 8 inf2 rfl hxz (by decide) (by decide) ?_) | (refine app_one2 HO5.out 22 x hxz hxa _ 8 Tryd.underlying22 inf2 rfl (by decide) (by omega) (by decide) rfl (.tmp 9) (.tmp 12) rfl rfl rfl ?_; intro g cap w8 HO8 hg8 hs8))
        have hgg : w.heap.size ≤ g := by
          rcases hg8 with hg8 | hg8
          · exact hv2 g hg8
          · have := HV2.out.2; omega
        refine ⟨⟨i + 1, .slice (some ⟨g, 0, none⟩) (i + 1) cap, q2, p2, al ++ [a], xs ++ [x], nb ++ nbs, hlt, rfl, rfl, by rw [List.length_append, hxl]; rfl, ?_, ?_, HRS2, HI2, HT2, ⟨fun e => by omega, HV2.out.1, fun g' hg' => ?_, by have := HV2.out.2; omega⟩⟩, by simp only [intOf]; omega⟩
        · rw [List.append_assoc, ← hxl]; exact HO8
        · rw [List.append_assoc]; exact HN5
        · have : g = g' := by simpa [Value.ownBlock] using hg'
          omega
    · obtain rfl : i = n := by omega
      have hnot : ¬ (i : Int) < (i : Int) := by omega
      have HT2 : Hid (T = some (al, q, p)) := by show _ = _; rw [HTR.out, Nat.sub_self]; show some (al ++ [], q, p) = _; rw [List.append_nil]
      rcases HOR.out.R.2 with ⟨e1, e2⟩ | ⟨g, cap, cur, e1, e2, e3, e4, e5, e6, e7⟩
      · subst e1
        have hi0 : i = 0 := by omega
        subst hi0
        have HRD : Hid (Rd w0 mz wr R ([] ++ (nbs ++ bs)) q s p) := HOR.out.rd HNN.out (by have := HVR.out.2.2.2; have := HMZ.out; omega)
        go_wp2_with fail
        go_ret
        rw [HT2.out]
        exact ⟨none, xs, [], nbs, rfl, HRS.out, hxl, fun V _ => ⟨by omega, by omega, fun j hj => by omega⟩, HRD.out, fun b hb => HVR.out.2.1 b (by simpa using hb), HVR.out.2.2.2⟩
      · subst e1
        have hci : i ≤ cap := by omega
        have hcm : (i : Int) ≤ (cap : Int) := by omega
        have hc9 : cap ≤ 9223372036854775807 := by unfold maxLen at e5; omega
        have HRD : Hid (Rd w0 mz wr R ([(g, 2, cur)] ++ (nbs ++ bs)) q s p) := by
          have hh := obx_rd (mz := mz) HOR.out HNN.out (by have := HVR.out.2.2.2; have := HMZ.out; omega)
          have ho : obx wr (.slice (some ⟨g, 0, none⟩) xs.length cap) = [(g, 2, cur)] := by
            show (match wr.heap[g]? with | some (.cells cur e _) => [(g, e, cur)] | _ => []) = _
            rw [e3]
          rw [ho] at hh
          exact hh
        have HKP : Hid (Keep [(g, 2, cur)] (fun V => SlAt V 1 (some ⟨g, 0, none⟩) i xs)) := fun V hV => by
          have h3 := hV (g, 2, cur) (List.mem_singleton.2 rfl)
          refine ⟨by omega, by omega, fun j hj => ⟨g, 0, rfl, fun k hk => ?_⟩⟩
          rw [cell_of h3, Nat.zero_add]
          have hlt : j * 1 + k < xs.length * 1 := by
            have := Nat.mul_le_mul_right 1 hj
            rw [Nat.succ_mul] at this
            omega
          have h8 : (cur.toList.take (xs.length * 1))[j * 1 + k]? = cur[j * 1 + k]? := by rw [List.getElem?_take_of_lt hlt]; simp
          rw [← h8, e7, flat_at xs HOR.out.Z j hj k hk]
        have HVB : Hid ((∀ b ∈ [(g, 2, cur)] ++ nbs, w.heap.size ≤ b.1) ∧ w.heap.size ≤ wr.heap.size) := ⟨fun b hb => by
          rcases List.mem_append.1 hb with hb | hb
          · rw [List.mem_singleton.1 hb]; exact HVR.out.2.2.1 g rfl
          · exact HVR.out.2.1 b hb, HVR.out.2.2.2⟩
        have HRS2 : Hid (Rels Rel al xs nbs ∧ xs.length = i) := ⟨HRS.out, hxl⟩
        rw [hxl]
        clear hxl HOR HNN HRS HVR e2 e3 e4 e5 e6 e7
        go_wp2_with fail
        go_ret
        rw [HT2.out]
        exact ⟨some ⟨g, 0, none⟩, xs, [(g, 2, cur)], nbs, rfl, HRS2.out.1, HRS2.out.2, HKP.out, HRD.out, HVB.out.1, HVB.out.2⟩
set_option maxRecDepth 100000 in
set_option maxHeartbeats 4000000 in
theorem list113_any {mz : Nat} {α : Type} (st : RS → Int → Option (α × RS × Int)) (Rel : α → Array Value → List Bx → Prop) (mk : Array Value → Value) (Iq : Nat → RS → Prop) (R n : Nat) (bs : List Bx) (q : RS) (s : ByteArray) (p : Int) (w : World) (w0 : World) (h : Rd w0 mz w R bs q s p) (hn : n ≤ 100000) (hq0 : Iq 0 q) (hmk : ∀ a x nb, Rel a x nb → (mk x).cells = x) (hrel : ∀ a x nb, Rel a x nb → x.size = 2 ∧ x.all (·.oneCell') = true) (hiq : ∀ i q p a q' p', i < n → Iq i q → st q p = some (a, q', p') → Iq (i + 1) q') (hst : ∀ i V bs1 q p, i < n → Iq i q → (∀ b ∈ bs, b ∈ bs1) → Rd w0 V.heap.size V R bs1 q s p → Calls Tryd.prog 48 #[.pointer (some ⟨R, 0, none⟩)] V (OutS w0 V.heap.size R bs1 s Rel mk V.heap.size (st q p))) : Calls Tryd.prog 47 #[.int .i64 n, .func (.func 48) #[.pointer (some ⟨R, 0, none⟩)] #[]] w fun e w' => OutL w0 mz R bs s Rel 2 n w.heap.size (listR st n q p) e w' := by
  have HMK : Hid (∀ a x nb, Rel a x nb → (mk x).cells = x) := hmk
  have HRL : Hid (∀ a x nb, Rel a x nb → x.size = 2 ∧ x.all (·.oneCell') = true) := hrel
  have HIQ : Hid (∀ i q p a q' p', i < n → Iq i q → st q p = some (a, q', p') → Iq (i + 1) q') := hiq
  have HST : Hid (∀ i V bs1 q p, i < n → Iq i q → (∀ b ∈ bs, b ∈ bs1) → Rd w0 V.heap.size V R bs1 q s p → Calls Tryd.prog 48 #[.pointer (some ⟨R, 0, none⟩)] V (OutS w0 V.heap.size R bs1 s Rel mk V.heap.size (st q p))) := hst
  obtain ⟨T, eT⟩ : ∃ T, listR st n q p = T := ⟨_, rfl⟩
  rw [eT]
  have HT0 : Hid (T = (listR st (n - 0) q p).map fun r => (([] : List α) ++ r.1, r.2)) := by
    show _ = _
    rw [← eT, Nat.sub_zero]
    cases listR st n q p with
    | none => rfl
    | some r => rfl
  have HW : Hid (w0.heap.size ≤ w.heap.size) := h.B.size
  have HMZ : Hid (mz ≤ w.heap.size) := h.M
  have HO0 : Hid (OwnK w0 w ((R, 90, rdA q s p) :: ([] ++ bs)) 44 2 (.slice none 0 0) []) := h.own ⟨by simp, .inl ⟨rfl, rfl⟩⟩ (by simp) (by simp [Value.ownBlock]) (by simp [Value.ownBlock])
  have HNR : Hid (∀ b ∈ bs, b.1 ≠ R) := fun b hb => (h.K b hb).2
  have hnm : (n : Int) ≤ 9223372036854775807 := by omega
  have HI0 : Hid (Iq 0 q) := hq0
  clear eT h hq0 hst hiq hrel hmk
  go_enter Tryd.func47, Tryd.ntmps47
  go_wp2_with fail
  go_loopw [5, 7] (fun fv t wr => ∃ (i : Nat) (v : Value) (q : RS) (p : Int) (al : List α) (xs : List (Array Value)) (nbs : List Bx), i ≤ n ∧ fv = v ∧ t = .int .i64 i ∧ xs.length = i ∧ Hid (OwnK w0 wr ((R, 90, rdA q s p) :: (nbs ++ bs)) 44 2 v xs) ∧ Hid (∀ b ∈ nbs ++ bs, b.1 ≠ R) ∧ Hid (Rels Rel al xs nbs) ∧ Hid (Iq i q) ∧ Hid (T = (listR st (n - i) q p).map fun r => (al ++ r.1, r.2)) ∧ Hid ((i = 0 → v = .slice none 0 0) ∧ (∀ b ∈ nbs, w.heap.size ≤ b.1) ∧ (∀ g, v.ownBlock = some g → w.heap.size ≤ g) ∧ w.heap.size ≤ wr.heap.size)) (fun _ t _ => n - (intOf t).toNat)
  case atStart => exact ⟨0, _, q, p, [], [], [], by omega, rfl, rfl, rfl, HO0, HNR, Rels.nil, HI0, HT0, fun _ => rfl, by simp, by simp [Value.ownBlock], Nat.le_refl _⟩
  case round =>
    obtain ⟨i, v, q, p, al, xs, nbs, hi, rfl, rfl, hxl, HOR, HNN, HRS, HIR, HTR, HVR⟩ := hrel
    by_cases hlt : i < n
    · have hlt' : (i : Int) < (n : Int) := by omega
      have hmx : (i : Int) + 1 ≤ 9223372036854775807 := by omega
      have HRD := obx_rd (mz := wr.heap.size) HOR.out HNN.out (Nat.le_refl _)
      have cS := HST.out i wr _ q p hlt HIR.out (fun b hb => by simp [hb]) HRD
      have hni : n - i = (n - (i + 1)) + 1 := by omega
      cases hS : st q p with
      | none =>
        rw [hS] at cS
        replace cS : Calls Tryd.prog 48 #[.pointer (some ⟨R, 0, none⟩)] wr (fun e w' => e = pan pf ∧ Below w0.heap.size w0 w') := cS
        have HT2 : Hid (T = none) := by show _ = _; rw [HTR.out, hni]; show Option.map _ ((st q p).bind _) = _; rw [hS]; rfl
        clear HRD
        go_wp2_with fail
        refine cS.mono ?_
        rintro e w5 ⟨rfl, hb5⟩
        exact ⟨rfl, by rw [HT2.out]; exact ⟨rfl, hb5⟩⟩
      | some aq =>
        obtain ⟨a, q2, p2⟩ := aq
        rw [hS] at cS
        replace cS : Calls Tryd.prog 48 #[.pointer (some ⟨R, 0, none⟩)] wr (fun e w' => ∃ x nb, e = .returned (mk x) ∧ Rel a x nb ∧ Rd w0 wr.heap.size w' R (nb ++ (obx wr _ ++ (nbs ++ bs))) q2 s p2 ∧ (∀ b ∈ nb, wr.heap.size ≤ b.1) ∧ wr.heap.size ≤ w'.heap.size) := cS
        have HT2 : Hid (T = (listR st (n - (i + 1)) q2 p2).map fun r => ((al ++ [a]) ++ r.1, r.2)) := by
          show _ = _
          rw [HTR.out, hni]
          show Option.map _ ((st q p).bind _) = _
          rw [hS, Option.bind_some, Option.map_map]
          congr 1
          funext r
          simp
        have HI2 : Hid (Iq (i + 1) q2) := HIQ.out i q p a q2 p2 hlt HIR.out hS
        clear HRD
        go_wp2_with fail
        refine cS.mono ?_
        rintro e w5 ⟨x, nb, rfl, hx, hr5, hf5, h55⟩
        have HO5 : Hid (OwnK w0 w5 ((R, 90, rdA q2 s p2) :: (nb ++ (nbs ++ bs))) 44 2 _ xs) := obx_own HOR.out hr5 hf5
        have HN5 : Hid (∀ b ∈ nb ++ (nbs ++ bs), b.1 ≠ R) := fun b hb => (hr5.K b (by rcases List.mem_append.1 hb with hb | hb <;> simp [hb])).2
        obtain ⟨hxz, hxa⟩ := HRL.out a x nb hx
        have HXC : Hid ((mk x).cells = x) := HMK.out a x nb hx
        have HRS2 : Hid (Rels Rel (al ++ [a]) (xs ++ [x]) (nb ++ nbs)) := Rels.snoc HRS.out hx
        have hv1 := HVR.out.2.1
        have hv2 := HVR.out.2.2.1
        have hv3 := HVR.out.2.2.2
        have HV2 : Hid ((∀ b ∈ nb ++ nbs, w.heap.size ≤ b.1) ∧ w.heap.size ≤ w5.heap.size) := ⟨fun b hb => by rcases List.mem_append.1 hb with hb | hb; exact Nat.le_trans hv3 (hf5 b hb); exact hv1 b hb, by omega⟩
        clear cS hr5 hf5 HOR HNN HRS HIR HTR hx
        go_wp2_with (first | (refine wpList_slice1w rfl 23 44 (.tmp 11) rfl x mk rfl HXC.out 2 _ Tryd.underlying23 16 inf61 rfl hxz (by decide) (by decide) ?_) | (refine app_one2 HO5.out 23 x hxz hxa _ 16 Tryd.underlying23 inf61 rfl (by decide) (by omega) (by decide) rfl (.tmp 9) (.tmp 12) rfl rfl rfl ?_; intro g cap w8 HO8 hg8 hs8))
        have hgg : w.heap.size ≤ g := by
          rcases hg8 with hg8 | hg8
          · exact hv2 g hg8
          · have := HV2.out.2; omega
        refine ⟨⟨i + 1, .slice (some ⟨g, 0, none⟩) (i + 1) cap, q2, p2, al ++ [a], xs ++ [x], nb ++ nbs, hlt, rfl, rfl, by rw [List.length_append, hxl]; rfl, ?_, ?_, HRS2, HI2, HT2, ⟨fun e => by omega, HV2.out.1, fun g' hg' => ?_, by have := HV2.out.2; omega⟩⟩, by simp only [intOf]; omega⟩
        · rw [List.append_assoc, ← hxl]; exact HO8
        · rw [List.append_assoc]; exact HN5
        · have : g = g' := by simpa [Value.ownBlock] using hg'
          omega
    · obtain rfl : i = n := by omega
      have hnot : ¬ (i : Int) < (i : Int) := by omega
      have HT2 : Hid (T = some (al, q, p)) := by show _ = _; rw [HTR.out, Nat.sub_self]; show some (al ++ [], q, p) = _; rw [List.append_nil]
      rcases HOR.out.R.2 with ⟨e1, e2⟩ | ⟨g, cap, cur, e1, e2, e3, e4, e5, e6, e7⟩
      · subst e1
        have hi0 : i = 0 := by omega
        subst hi0
        have HRD : Hid (Rd w0 mz wr R ([] ++ (nbs ++ bs)) q s p) := HOR.out.rd HNN.out (by have := HVR.out.2.2.2; have := HMZ.out; omega)
        go_wp2_with fail
        go_ret
        rw [HT2.out]
        exact ⟨none, xs, [], nbs, rfl, HRS.out, hxl, fun V _ => ⟨by omega, by omega, fun j hj => by omega⟩, HRD.out, fun b hb => HVR.out.2.1 b (by simpa using hb), HVR.out.2.2.2⟩
      · subst e1
        have hci : i ≤ cap := by omega
        have hcm : (i : Int) ≤ (cap : Int) := by omega
        have hc9 : cap ≤ 9223372036854775807 := by unfold maxLen at e5; omega
        have HRD : Hid (Rd w0 mz wr R ([(g, 44, cur)] ++ (nbs ++ bs)) q s p) := by
          have hh := obx_rd (mz := mz) HOR.out HNN.out (by have := HVR.out.2.2.2; have := HMZ.out; omega)
          have ho : obx wr (.slice (some ⟨g, 0, none⟩) xs.length cap) = [(g, 44, cur)] := by
            show (match wr.heap[g]? with | some (.cells cur e _) => [(g, e, cur)] | _ => []) = _
            rw [e3]
          rw [ho] at hh
          exact hh
        have HKP : Hid (Keep [(g, 44, cur)] (fun V => SlAt V 2 (some ⟨g, 0, none⟩) i xs)) := fun V hV => by
          have h3 := hV (g, 44, cur) (List.mem_singleton.2 rfl)
          refine ⟨by omega, by omega, fun j hj => ⟨g, 0, rfl, fun k hk => ?_⟩⟩
          rw [cell_of h3, Nat.zero_add]
          have hlt : j * 2 + k < xs.length * 2 := by
            have := Nat.mul_le_mul_right 2 hj
            rw [Nat.succ_mul] at this
            omega
          have h8 : (cur.toList.take (xs.length * 2))[j * 2 + k]? = cur[j * 2 + k]? := by rw [List.getElem?_take_of_lt hlt]; simp
          rw [← h8, e7, flat_at xs HOR.out.Z j hj k hk]
        have HVB : Hid ((∀ b ∈ [(g, 44, cur)] ++ nbs, w.heap.size ≤ b.1) ∧ w.heap.size ≤ wr.heap.size) := ⟨fun b hb => by
          rcases List.mem_append.1 hb with hb | hb
          · rw [List.mem_singleton.1 hb]; exact HVR.out.2.2.1 g rfl
          · exact HVR.out.2.1 b hb, HVR.out.2.2.2⟩
        have HRS2 : Hid (Rels Rel al xs nbs ∧ xs.length = i) := ⟨HRS.out, hxl⟩
        rw [hxl]
        clear hxl HOR HNN HRS HVR e2 e3 e4 e5 e6 e7
        go_wp2_with fail
        go_ret
        rw [HT2.out]
        exact ⟨some ⟨g, 0, none⟩, xs, [(g, 44, cur)], nbs, rfl, HRS2.out.1, HRS2.out.2, HKP.out, HRD.out, HVB.out.1, HVB.out.2⟩
set_option maxRecDepth 100000 in
set_option maxHeartbeats 4000000 in
theorem list151_any {mz : Nat} {α : Type} (st : RS → Int → Option (α × RS × Int)) (Rel : α → Array Value → List Bx → Prop) (mk : Array Value → Value) (Iq : Nat → RS → Prop) (R n : Nat) (bs : List Bx) (q : RS) (s : ByteArray) (p : Int) (w : World) (w0 : World) (h : Rd w0 mz w R bs q s p) (hn : n ≤ 100000) (hq0 : Iq 0 q) (hmk : ∀ a x nb, Rel a x nb → (mk x).cells = x) (hrel : ∀ a x nb, Rel a x nb → x.size = 11 ∧ x.all (·.oneCell') = true) (hiq : ∀ i q p a q' p', i < n → Iq i q → st q p = some (a, q', p') → Iq (i + 1) q') (hst : ∀ i V bs1 q p, i < n → Iq i q → (∀ b ∈ bs, b ∈ bs1) → Rd w0 V.heap.size V R bs1 q s p → Calls Tryd.prog 77 #[.pointer (some ⟨R, 0, none⟩)] V (OutS w0 V.heap.size R bs1 s Rel mk V.heap.size (st q p))) : Calls Tryd.prog 76 #[.int .i64 n, .func (.func 77) #[.pointer (some ⟨R, 0, none⟩)] #[]] w fun e w' => OutL w0 mz R bs s Rel 11 n w.heap.size (listR st n q p) e w' := by
  have HMK : Hid (∀ a x nb, Rel a x nb → (mk x).cells = x) := hmk
  have HRL : Hid (∀ a x nb, Rel a x nb → x.size = 11 ∧ x.all (·.oneCell') = true) := hrel
  have HIQ : Hid (∀ i q p a q' p', i < n → Iq i q → st q p = some (a, q', p') → Iq (i + 1) q') := hiq
  have HST : Hid (∀ i V bs1 q p, i < n → Iq i q → (∀ b ∈ bs, b ∈ bs1) → Rd w0 V.heap.size V R bs1 q s p → Calls Tryd.prog 77 #[.pointer (some ⟨R, 0, none⟩)] V (OutS w0 V.heap.size R bs1 s Rel mk V.heap.size (st q p))) := hst
  obtain ⟨T, eT⟩ : ∃ T, listR st n q p = T := ⟨_, rfl⟩
  rw [eT]
  have HT0 : Hid (T = (listR st (n - 0) q p).map fun r => (([] : List α) ++ r.1, r.2)) := by
    show _ = _
    rw [← eT, Nat.sub_zero]
    cases listR st n q p with
    | none => rfl
    | some r => rfl
  have HW : Hid (w0.heap.size ≤ w.heap.size) := h.B.size
  have HMZ : Hid (mz ≤ w.heap.size) := h.M
  have HO0 : Hid (OwnK w0 w ((R, 90, rdA q s p) :: ([] ++ bs)) 72 11 (.slice none 0 0) []) := h.own ⟨by simp, .inl ⟨rfl, rfl⟩⟩ (by simp) (by simp [Value.ownBlock]) (by simp [Value.ownBlock])
  have HNR : Hid (∀ b ∈ bs, b.1 ≠ R) := fun b hb => (h.K b hb).2
  have hnm : (n : Int) ≤ 9223372036854775807 := by omega
  have HI0 : Hid (Iq 0 q) := hq0
  clear eT h hq0 hst hiq hrel hmk
  go_enter Tryd.func76, Tryd.ntmps76
  go_wp2_with fail
  go_loopw [5, 7] (fun fv t wr => ∃ (i : Nat) (v : Value) (q : RS) (p : Int) (al : List α) (xs : List (Array Value)) (nbs : List Bx), i ≤ n ∧ fv = v ∧ t = .int .i64 i ∧ xs.length = i ∧ Hid (OwnK w0 wr ((R, 90, rdA q s p) :: (nbs ++ bs)) 72 11 v xs) ∧ Hid (∀ b ∈ nbs ++ bs, b.1 ≠ R) ∧ Hid (Rels Rel al xs nbs) ∧ Hid (Iq i q) ∧ Hid (T = (listR st (n - i) q p).map fun r => (al ++ r.1, r.2)) ∧ Hid ((i = 0 → v = .slice none 0 0) ∧ (∀ b ∈ nbs, w.heap.size ≤ b.1) ∧ (∀ g, v.ownBlock = some g → w.heap.size ≤ g) ∧ w.heap.size ≤ wr.heap.size)) (fun _ t _ => n - (intOf t).toNat)
  case atStart => exact ⟨0, _, q, p, [], [], [], by omega, rfl, rfl, rfl, HO0, HNR, Rels.nil, HI0, HT0, fun _ => rfl, by simp, by simp [Value.ownBlock], Nat.le_refl _⟩
  case round =>
    obtain ⟨i, v, q, p, al, xs, nbs, hi, rfl, rfl, hxl, HOR, HNN, HRS, HIR, HTR, HVR⟩ := hrel
    by_cases hlt : i < n
    · have hlt' : (i : Int) < (n : Int) := by omega
      have hmx : (i : Int) + 1 ≤ 9223372036854775807 := by omega
      have HRD := obx_rd (mz := wr.heap.size) HOR.out HNN.out (Nat.le_refl _)
      have cS := HST.out i wr _ q p hlt HIR.out (fun b hb => by simp [hb]) HRD
      have hni : n - i = (n - (i + 1)) + 1 := by omega
      cases hS : st q p with
      | none =>
        rw [hS] at cS
        replace cS : Calls Tryd.prog 77 #[.pointer (some ⟨R, 0, none⟩)] wr (fun e w' => e = pan pf ∧ Below w0.heap.size w0 w') := cS
        have HT2 : Hid (T = none) := by show _ = _; rw [HTR.out, hni]; show Option.map _ ((st q p).bind _) = _; rw [hS]; rfl
        clear HRD
        go_wp2_with fail
        refine cS.mono ?_
        rintro e w5 ⟨rfl, hb5⟩
        exact ⟨rfl, by rw [HT2.out]; exact ⟨rfl, hb5⟩⟩
      | some aq =>
        obtain ⟨a, q2, p2⟩ := aq
        rw [hS] at cS
        replace cS : Calls Tryd.prog 77 #[.pointer (some ⟨R, 0, none⟩)] wr (fun e w' => ∃ x nb, e = .returned (mk x) ∧ Rel a x nb ∧ Rd w0 wr.heap.size w' R (nb ++ (obx wr _ ++ (nbs ++ bs))) q2 s p2 ∧ (∀ b ∈ nb, wr.heap.size ≤ b.1) ∧ wr.heap.size ≤ w'.heap.size) := cS
        have HT2 : Hid (T = (listR st (n - (i + 1)) q2 p2).map fun r => ((al ++ [a]) ++ r.1, r.2)) := by
          show _ = _
          rw [HTR.out, hni]
          show Option.map _ ((st q p).bind _) = _
          rw [hS, Option.bind_some, Option.map_map]
          congr 1
          funext r
          simp
        have HI2 : Hid (Iq (i + 1) q2) := HIQ.out i q p a q2 p2 hlt HIR.out hS
        clear HRD
        go_wp2_with fail
        refine cS.mono ?_
        rintro e w5 ⟨x, nb, rfl, hx, hr5, hf5, h55⟩
        have HO5 : Hid (OwnK w0 w5 ((R, 90, rdA q2 s p2) :: (nb ++ (nbs ++ bs))) 72 11 _ xs) := obx_own HOR.out hr5 hf5
        have HN5 : Hid (∀ b ∈ nb ++ (nbs ++ bs), b.1 ≠ R) := fun b hb => (hr5.K b (by rcases List.mem_append.1 hb with hb | hb <;> simp [hb])).2
        obtain ⟨hxz, hxa⟩ := HRL.out a x nb hx
        have HXC : Hid ((mk x).cells = x) := HMK.out a x nb hx
        have HRS2 : Hid (Rels Rel (al ++ [a]) (xs ++ [x]) (nb ++ nbs)) := Rels.snoc HRS.out hx
        have hv1 := HVR.out.2.1
        have hv2 := HVR.out.2.2.1
        have hv3 := HVR.out.2.2.2
        have HV2 : Hid ((∀ b ∈ nb ++ nbs, w.heap.size ≤ b.1) ∧ w.heap.size ≤ w5.heap.size) := ⟨fun b hb => by rcases List.mem_append.1 hb with hb | hb; exact Nat.le_trans hv3 (hf5 b hb); exact hv1 b hb, by omega⟩
        clear cS hr5 hf5 HOR HNN HRS HIR HTR hx
        go_wp2_with (first | (refine wpList_slice1w rfl 49 72 (.tmp 11) rfl x mk rfl HXC.out 11 _ Tryd.underlying49 80 inf85 rfl hxz (by decide) (by decide) ?_) | (refine app_one2 HO5.out 49 x hxz hxa _ 80 Tryd.underlying49 inf85 rfl (by decide) (by omega) (by decide) rfl (.tmp 9) (.tmp 12) rfl rfl rfl ?_; intro g cap w8 HO8 hg8 hs8))
        have hgg : w.heap.size ≤ g := by
          rcases hg8 with hg8 | hg8
          · exact hv2 g hg8
          · have := HV2.out.2; omega
        refine ⟨⟨i + 1, .slice (some ⟨g, 0, none⟩) (i + 1) cap, q2, p2, al ++ [a], xs ++ [x], nb ++ nbs, hlt, rfl, rfl, by rw [List.length_append, hxl]; rfl, ?_, ?_, HRS2, HI2, HT2, ⟨fun e => by omega, HV2.out.1, fun g' hg' => ?_, by have := HV2.out.2; omega⟩⟩, by simp only [intOf]; omega⟩
        · rw [List.append_assoc, ← hxl]; exact HO8
        · rw [List.append_assoc]; exact HN5
        · have : g = g' := by simpa [Value.ownBlock] using hg'
          omega
    · obtain rfl : i = n := by omega
      have hnot : ¬ (i : Int) < (i : Int) := by omega
      have HT2 : Hid (T = some (al, q, p)) := by show _ = _; rw [HTR.out, Nat.sub_self]; show some (al ++ [], q, p) = _; rw [List.append_nil]
      rcases HOR.out.R.2 with ⟨e1, e2⟩ | ⟨g, cap, cur, e1, e2, e3, e4, e5, e6, e7⟩
      · subst e1
        have hi0 : i = 0 := by omega
        subst hi0
        have HRD : Hid (Rd w0 mz wr R ([] ++ (nbs ++ bs)) q s p) := HOR.out.rd HNN.out (by have := HVR.out.2.2.2; have := HMZ.out; omega)
        go_wp2_with fail
        go_ret
        rw [HT2.out]
        exact ⟨none, xs, [], nbs, rfl, HRS.out, hxl, fun V _ => ⟨by omega, by omega, fun j hj => by omega⟩, HRD.out, fun b hb => HVR.out.2.1 b (by simpa using hb), HVR.out.2.2.2⟩
      · subst e1
        have hci : i ≤ cap := by omega
        have hcm : (i : Int) ≤ (cap : Int) := by omega
        have hc9 : cap ≤ 9223372036854775807 := by unfold maxLen at e5; omega
        have HRD : Hid (Rd w0 mz wr R ([(g, 72, cur)] ++ (nbs ++ bs)) q s p) := by
          have hh := obx_rd (mz := mz) HOR.out HNN.out (by have := HVR.out.2.2.2; have := HMZ.out; omega)
          have ho : obx wr (.slice (some ⟨g, 0, none⟩) xs.length cap) = [(g, 72, cur)] := by
            show (match wr.heap[g]? with | some (.cells cur e _) => [(g, e, cur)] | _ => []) = _
            rw [e3]
          rw [ho] at hh
          exact hh
        have HKP : Hid (Keep [(g, 72, cur)] (fun V => SlAt V 11 (some ⟨g, 0, none⟩) i xs)) := fun V hV => by
          have h3 := hV (g, 72, cur) (List.mem_singleton.2 rfl)
          refine ⟨by omega, by omega, fun j hj => ⟨g, 0, rfl, fun k hk => ?_⟩⟩
          rw [cell_of h3, Nat.zero_add]
          have hlt : j * 11 + k < xs.length * 11 := by
            have := Nat.mul_le_mul_right 11 hj
            rw [Nat.succ_mul] at this
            omega
          have h8 : (cur.toList.take (xs.length * 11))[j * 11 + k]? = cur[j * 11 + k]? := by rw [List.getElem?_take_of_lt hlt]; simp
          rw [← h8, e7, flat_at xs HOR.out.Z j hj k hk]
        have HVB : Hid ((∀ b ∈ [(g, 72, cur)] ++ nbs, w.heap.size ≤ b.1) ∧ w.heap.size ≤ wr.heap.size) := ⟨fun b hb => by
          rcases List.mem_append.1 hb with hb | hb
          · rw [List.mem_singleton.1 hb]; exact HVR.out.2.2.1 g rfl
          · exact HVR.out.2.1 b hb, HVR.out.2.2.2⟩
        have HRS2 : Hid (Rels Rel al xs nbs ∧ xs.length = i) := ⟨HRS.out, hxl⟩
        rw [hxl]
        clear hxl HOR HNN HRS HVR e2 e3 e4 e5 e6 e7
        go_wp2_with fail
        go_ret
        rw [HT2.out]
        exact ⟨some ⟨g, 0, none⟩, xs, [(g, 72, cur)], nbs, rfl, HRS2.out.1, HRS2.out.2, HKP.out, HRD.out, HVB.out.1, HVB.out.2⟩
set_option maxRecDepth 100000 in
set_option maxHeartbeats 4000000 in
theorem list135_any {mz : Nat} {α : Type} (st : RS → Int → Option (α × RS × Int)) (Rel : α → Array Value → List Bx → Prop) (mk : Array Value → Value) (Iq : Nat → RS → Prop) (R n : Nat) (bs : List Bx) (q : RS) (s : ByteArray) (p : Int) (w : World) (w0 : World) (h : Rd w0 mz w R bs q s p) (hn : n ≤ 100000) (hq0 : Iq 0 q) (hmk : ∀ a x nb, Rel a x nb → (mk x).cells = x) (hrel : ∀ a x nb, Rel a x nb → x.size = 5 ∧ x.all (·.oneCell') = true) (hiq : ∀ i q p a q' p', i < n → Iq i q → st q p = some (a, q', p') → Iq (i + 1) q') (hst : ∀ i V bs1 q p, i < n → Iq i q → (∀ b ∈ bs, b ∈ bs1) → Rd w0 V.heap.size V R bs1 q s p → Calls Tryd.prog 62 #[.pointer (some ⟨R, 0, none⟩)] V (OutS w0 V.heap.size R bs1 s Rel mk V.heap.size (st q p))) : Calls Tryd.prog 61 #[.int .i64 n, .func (.func 62) #[.pointer (some ⟨R, 0, none⟩)] #[]] w fun e w' => OutL w0 mz R bs s Rel 5 n w.heap.size (listR st n q p) e w' := by
  have HMK : Hid (∀ a x nb, Rel a x nb → (mk x).cells = x) := hmk
  have HRL : Hid (∀ a x nb, Rel a x nb → x.size = 5 ∧ x.all (·.oneCell') = true) := hrel
  have HIQ : Hid (∀ i q p a q' p', i < n → Iq i q → st q p = some (a, q', p') → Iq (i + 1) q') := hiq
  have HST : Hid (∀ i V bs1 q p, i < n → Iq i q → (∀ b ∈ bs, b ∈ bs1) → Rd w0 V.heap.size V R bs1 q s p → Calls Tryd.prog 62 #[.pointer (some ⟨R, 0, none⟩)] V (OutS w0 V.heap.size R bs1 s Rel mk V.heap.size (st q p))) := hst
  obtain ⟨T, eT⟩ : ∃ T, listR st n q p = T := ⟨_, rfl⟩
  rw [eT]
  have HT0 : Hid (T = (listR st (n - 0) q p).map fun r => (([] : List α) ++ r.1, r.2)) := by
    show _ = _
    rw [← eT, Nat.sub_zero]
    cases listR st n q p with
    | none => rfl
    | some r => rfl
  have HW : Hid (w0.heap.size ≤ w.heap.size) := h.B.size
  have HMZ : Hid (mz ≤ w.heap.size) := h.M
  have HO0 : Hid (OwnK w0 w ((R, 90, rdA q s p) :: ([] ++ bs)) 51 5 (.slice none 0 0) []) := h.own ⟨by simp, .inl ⟨rfl, rfl⟩⟩ (by simp) (by simp [Value.ownBlock]) (by simp [Value.ownBlock])
  have HNR : Hid (∀ b ∈ bs, b.1 ≠ R) := fun b hb => (h.K b hb).2
  have hnm : (n : Int) ≤ 9223372036854775807 := by omega
  have HI0 : Hid (Iq 0 q) := hq0
  clear eT h hq0 hst hiq hrel hmk
  go_enter Tryd.func61, Tryd.ntmps61
  go_wp2_with fail
  go_loopw [5, 7] (fun fv t wr => ∃ (i : Nat) (v : Value) (q : RS) (p : Int) (al : List α) (xs : List (Array Value)) (nbs : List Bx), i ≤ n ∧ fv = v ∧ t = .int .i64 i ∧ xs.length = i ∧ Hid (OwnK w0 wr ((R, 90, rdA q s p) :: (nbs ++ bs)) 51 5 v xs) ∧ Hid (∀ b ∈ nbs ++ bs, b.1 ≠ R) ∧ Hid (Rels Rel al xs nbs) ∧ Hid (Iq i q) ∧ Hid (T = (listR st (n - i) q p).map fun r => (al ++ r.1, r.2)) ∧ Hid ((i = 0 → v = .slice none 0 0) ∧ (∀ b ∈ nbs, w.heap.size ≤ b.1) ∧ (∀ g, v.ownBlock = some g → w.heap.size ≤ g) ∧ w.heap.size ≤ wr.heap.size)) (fun _ t _ => n - (intOf t).toNat)
  case atStart => exact ⟨0, _, q, p, [], [], [], by omega, rfl, rfl, rfl, HO0, HNR, Rels.nil, HI0, HT0, fun _ => rfl, by simp, by simp [Value.ownBlock], Nat.le_refl _⟩
  case round =>
    obtain ⟨i, v, q, p, al, xs, nbs, hi, rfl, rfl, hxl, HOR, HNN, HRS, HIR, HTR, HVR⟩ := hrel
    by_cases hlt : i < n
    · have hlt' : (i : Int) < (n : Int) := by omega
      have hmx : (i : Int) + 1 ≤ 9223372036854775807 := by omega
      have HRD := obx_rd (mz := wr.heap.size) HOR.out HNN.out (Nat.le_refl _)
      have cS := HST.out i wr _ q p hlt HIR.out (fun b hb => by simp [hb]) HRD
      have hni : n - i = (n - (i + 1)) + 1 := by omega
      cases hS : st q p with
      | none =>
        rw [hS] at cS
        replace cS : Calls Tryd.prog 62 #[.pointer (some ⟨R, 0, none⟩)] wr (fun e w' => e = pan pf ∧ Below w0.heap.size w0 w') := cS
        have HT2 : Hid (T = none) := by show _ = _; rw [HTR.out, hni]; show Option.map _ ((st q p).bind _) = _; rw [hS]; rfl
        clear HRD
        go_wp2_with fail
        refine cS.mono ?_
        rintro e w5 ⟨rfl, hb5⟩
        exact ⟨rfl, by rw [HT2.out]; exact ⟨rfl, hb5⟩⟩
      | some aq =>
        obtain ⟨a, q2, p2⟩ := aq
        rw [hS] at cS
        replace cS : Calls Tryd.prog 62 #[.pointer (some ⟨R, 0, none⟩)] wr (fun e w' => ∃ x nb, e = .returned (mk x) ∧ Rel a x nb ∧ Rd w0 wr.heap.size w' R (nb ++ (obx wr _ ++ (nbs ++ bs))) q2 s p2 ∧ (∀ b ∈ nb, wr.heap.size ≤ b.1) ∧ wr.heap.size ≤ w'.heap.size) := cS
        have HT2 : Hid (T = (listR st (n - (i + 1)) q2 p2).map fun r => ((al ++ [a]) ++ r.1, r.2)) := by
          show _ = _
          rw [HTR.out, hni]
          show Option.map _ ((st q p).bind _) = _
          rw [hS, Option.bind_some, Option.map_map]
          congr 1
          funext r
          simp
        have HI2 : Hid (Iq (i + 1) q2) := HIQ.out i q p a q2 p2 hlt HIR.out hS
        clear HRD
        go_wp2_with fail
        refine cS.mono ?_
        rintro e w5 ⟨x, nb, rfl, hx, hr5, hf5, h55⟩
        have HO5 : Hid (OwnK w0 w5 ((R, 90, rdA q2 s p2) :: (nb ++ (nbs ++ bs))) 51 5 _ xs) := obx_own HOR.out hr5 hf5
        have HN5 : Hid (∀ b ∈ nb ++ (nbs ++ bs), b.1 ≠ R) := fun b hb => (hr5.K b (by rcases List.mem_append.1 hb with hb | hb <;> simp [hb])).2
        obtain ⟨hxz, hxa⟩ := HRL.out a x nb hx
        have HXC : Hid ((mk x).cells = x) := HMK.out a x nb hx
        have HRS2 : Hid (Rels Rel (al ++ [a]) (xs ++ [x]) (nb ++ nbs)) := Rels.snoc HRS.out hx
        have hv1 := HVR.out.2.1
        have hv2 := HVR.out.2.2.1
        have hv3 := HVR.out.2.2.2
        have HV2 : Hid ((∀ b ∈ nb ++ nbs, w.heap.size ≤ b.1) ∧ w.heap.size ≤ w5.heap.size) := ⟨fun b hb => by rcases List.mem_append.1 hb with hb | hb; exact Nat.le_trans hv3 (hf5 b hb); exact hv1 b hb, by omega⟩
        clear cS hr5 hf5 HOR HNN HRS HIR HTR hx
        go_wp2_with (first | (refine wpList_slice1w rfl 52 51 (.tmp 11) rfl x mk rfl HXC.out 5 _ Tryd.underlying52 48 inf68 rfl hxz (by decide) (by decide) ?_) | (refine app_one2 HO5.out 52 x hxz hxa _ 48 Tryd.underlying52 inf68 rfl (by decide) (by omega) (by decide) rfl (.tmp 9) (.tmp 12) rfl rfl rfl ?_; intro g cap w8 HO8 hg8 hs8))
        have hgg : w.heap.size ≤ g := by
          rcases hg8 with hg8 | hg8
          · exact hv2 g hg8
          · have := HV2.out.2; omega
        refine ⟨⟨i + 1, .slice (some ⟨g, 0, none⟩) (i + 1) cap, q2, p2, al ++ [a], xs ++ [x], nb ++ nbs, hlt, rfl, rfl, by rw [List.length_append, hxl]; rfl, ?_, ?_, HRS2, HI2, HT2, ⟨fun e => by omega, HV2.out.1, fun g' hg' => ?_, by have := HV2.out.2; omega⟩⟩, by simp only [intOf]; omega⟩
        · rw [List.append_assoc, ← hxl]; exact HO8
        · rw [List.append_assoc]; exact HN5
        · have : g = g' := by simpa [Value.ownBlock] using hg'
          omega
    · obtain rfl : i = n := by omega
      have hnot : ¬ (i : Int) < (i : Int) := by omega
      have HT2 : Hid (T = some (al, q, p)) := by show _ = _; rw [HTR.out, Nat.sub_self]; show some (al ++ [], q, p) = _; rw [List.append_nil]
      rcases HOR.out.R.2 with ⟨e1, e2⟩ | ⟨g, cap, cur, e1, e2, e3, e4, e5, e6, e7⟩
      · subst e1
        have hi0 : i = 0 := by omega
        subst hi0
        have HRD : Hid (Rd w0 mz wr R ([] ++ (nbs ++ bs)) q s p) := HOR.out.rd HNN.out (by have := HVR.out.2.2.2; have := HMZ.out; omega)
        go_wp2_with fail
        go_ret
        rw [HT2.out]
        exact ⟨none, xs, [], nbs, rfl, HRS.out, hxl, fun V _ => ⟨by omega, by omega, fun j hj => by omega⟩, HRD.out, fun b hb => HVR.out.2.1 b (by simpa using hb), HVR.out.2.2.2⟩
      · subst e1
        have hci : i ≤ cap := by omega
        have hcm : (i : Int) ≤ (cap : Int) := by omega
        have hc9 : cap ≤ 9223372036854775807 := by unfold maxLen at e5; omega
        have HRD : Hid (Rd w0 mz wr R ([(g, 51, cur)] ++ (nbs ++ bs)) q s p) := by
          have hh := obx_rd (mz := mz) HOR.out HNN.out (by have := HVR.out.2.2.2; have := HMZ.out; omega)
          have ho : obx wr (.slice (some ⟨g, 0, none⟩) xs.length cap) = [(g, 51, cur)] := by
            show (match wr.heap[g]? with | some (.cells cur e _) => [(g, e, cur)] | _ => []) = _
            rw [e3]
          rw [ho] at hh
          exact hh
        have HKP : Hid (Keep [(g, 51, cur)] (fun V => SlAt V 5 (some ⟨g, 0, none⟩) i xs)) := fun V hV => by
          have h3 := hV (g, 51, cur) (List.mem_singleton.2 rfl)
          refine ⟨by omega, by omega, fun j hj => ⟨g, 0, rfl, fun k hk => ?_⟩⟩
          rw [cell_of h3, Nat.zero_add]
          have hlt : j * 5 + k < xs.length * 5 := by
            have := Nat.mul_le_mul_right 5 hj
            rw [Nat.succ_mul] at this
            omega
          have h8 : (cur.toList.take (xs.length * 5))[j * 5 + k]? = cur[j * 5 + k]? := by rw [List.getElem?_take_of_lt hlt]; simp
          rw [← h8, e7, flat_at xs HOR.out.Z j hj k hk]
        have HVB : Hid ((∀ b ∈ [(g, 51, cur)] ++ nbs, w.heap.size ≤ b.1) ∧ w.heap.size ≤ wr.heap.size) := ⟨fun b hb => by
          rcases List.mem_append.1 hb with hb | hb
          · rw [List.mem_singleton.1 hb]; exact HVR.out.2.2.1 g rfl
          · exact HVR.out.2.1 b hb, HVR.out.2.2.2⟩
        have HRS2 : Hid (Rels Rel al xs nbs ∧ xs.length = i) := ⟨HRS.out, hxl⟩
        rw [hxl]
        clear hxl HOR HNN HRS HVR e2 e3 e4 e5 e6 e7
        go_wp2_with fail
        go_ret
        rw [HT2.out]
        exact ⟨some ⟨g, 0, none⟩, xs, [(g, 51, cur)], nbs, rfl, HRS2.out.1, HRS2.out.2, HKP.out, HRD.out, HVB.out.1, HVB.out.2⟩
set_option maxRecDepth 100000 in
set_option maxHeartbeats 4000000 in
theorem list115_any {mz : Nat} {α : Type} (st : RS → Int → Option (α × RS × Int)) (Rel : α → Array Value → List Bx → Prop) (mk : Array Value → Value) (Iq : Nat → RS → Prop) (R n : Nat) (bs : List Bx) (q : RS) (s : ByteArray) (p : Int) (w : World) (w0 : World) (h : Rd w0 mz w R bs q s p) (hn : n ≤ 100000) (hq0 : Iq 0 q) (hmk : ∀ a x nb, Rel a x nb → (mk x).cells = x) (hrel : ∀ a x nb, Rel a x nb → x.size = 1 ∧ x.all (·.oneCell') = true) (hiq : ∀ i q p a q' p', i < n → Iq i q → st q p = some (a, q', p') → Iq (i + 1) q') (hst : ∀ i V bs1 q p, i < n → Iq i q → (∀ b ∈ bs, b ∈ bs1) → Rd w0 V.heap.size V R bs1 q s p → Calls Tryd.prog 50 #[.pointer (some ⟨R, 0, none⟩)] V (OutS w0 V.heap.size R bs1 s Rel mk V.heap.size (st q p))) : Calls Tryd.prog 49 #[.int .i64 n, .func (.func 50) #[.pointer (some ⟨R, 0, none⟩)] #[]] w fun e w' => OutL w0 mz R bs s Rel 1 n w.heap.size (listR st n q p) e w' := by
  have HMK : Hid (∀ a x nb, Rel a x nb → (mk x).cells = x) := hmk
  have HRL : Hid (∀ a x nb, Rel a x nb → x.size = 1 ∧ x.all (·.oneCell') = true) := hrel
  have HIQ : Hid (∀ i q p a q' p', i < n → Iq i q → st q p = some (a, q', p') → Iq (i + 1) q') := hiq
  have HST : Hid (∀ i V bs1 q p, i < n → Iq i q → (∀ b ∈ bs, b ∈ bs1) → Rd w0 V.heap.size V R bs1 q s p → Calls Tryd.prog 50 #[.pointer (some ⟨R, 0, none⟩)] V (OutS w0 V.heap.size R bs1 s Rel mk V.heap.size (st q p))) := hst
  obtain ⟨T, eT⟩ : ∃ T, listR st n q p = T := ⟨_, rfl⟩
  rw [eT]
  have HT0 : Hid (T = (listR st (n - 0) q p).map fun r => (([] : List α) ++ r.1, r.2)) := by
    show _ = _
    rw [← eT, Nat.sub_zero]
    cases listR st n q p with
    | none => rfl
    | some r => rfl
  have HW : Hid (w0.heap.size ≤ w.heap.size) := h.B.size
  have HMZ : Hid (mz ≤ w.heap.size) := h.M
  have HO0 : Hid (OwnK w0 w ((R, 90, rdA q s p) :: ([] ++ bs)) 52 1 (.slice none 0 0) []) := h.own ⟨by simp, .inl ⟨rfl, rfl⟩⟩ (by simp) (by simp [Value.ownBlock]) (by simp [Value.ownBlock])
  have HNR : Hid (∀ b ∈ bs, b.1 ≠ R) := fun b hb => (h.K b hb).2
  have hnm : (n : Int) ≤ 9223372036854775807 := by omega
  have HI0 : Hid (Iq 0 q) := hq0
  clear eT h hq0 hst hiq hrel hmk
  go_enter Tryd.func49, Tryd.ntmps49
  go_wp2_with fail
  go_loopw [5, 7] (fun fv t wr => ∃ (i : Nat) (v : Value) (q : RS) (p : Int) (al : List α) (xs : List (Array Value)) (nbs : List Bx), i ≤ n ∧ fv = v ∧ t = .int .i64 i ∧ xs.length = i ∧ Hid (OwnK w0 wr ((R, 90, rdA q s p) :: (nbs ++ bs)) 52 1 v xs) ∧ Hid (∀ b ∈ nbs ++ bs, b.1 ≠ R) ∧ Hid (Rels Rel al xs nbs) ∧ Hid (Iq i q) ∧ Hid (T = (listR st (n - i) q p).map fun r => (al ++ r.1, r.2)) ∧ Hid ((i = 0 → v = .slice none 0 0) ∧ (∀ b ∈ nbs, w.heap.size ≤ b.1) ∧ (∀ g, v.ownBlock = some g → w.heap.size ≤ g) ∧ w.heap.size ≤ wr.heap.size)) (fun _ t _ => n - (intOf t).toNat)
  case atStart => exact ⟨0, _, q, p, [], [], [], by omega, rfl, rfl, rfl, HO0, HNR, Rels.nil, HI0, HT0, fun _ => rfl, by simp, by simp [Value.ownBlock], Nat.le_refl _⟩
  case round =>
    obtain ⟨i, v, q, p, al, xs, nbs, hi, rfl, rfl, hxl, HOR, HNN, HRS, HIR, HTR, HVR⟩ := hrel
    by_cases hlt : i < n
    · have hlt' : (i : Int) < (n : Int) := by omega
      have hmx : (i : Int) + 1 ≤ 9223372036854775807 := by omega
      have HRD := obx_rd (mz := wr.heap.size) HOR.out HNN.out (Nat.le_refl _)
      have cS := HST.out i wr _ q p hlt HIR.out (fun b hb => by simp [hb]) HRD
      have hni : n - i = (n - (i + 1)) + 1 := by omega
      cases hS : st q p with
      | none =>
        rw [hS] at cS
        replace cS : Calls Tryd.prog 50 #[.pointer (some ⟨R, 0, none⟩)] wr (fun e w' => e = pan pf ∧ Below w0.heap.size w0 w') := cS
        have HT2 : Hid (T = none) := by show _ = _; rw [HTR.out, hni]; show Option.map _ ((st q p).bind _) = _; rw [hS]; rfl
        clear HRD
        go_wp2_with fail
        refine cS.mono ?_
        rintro e w5 ⟨rfl, hb5⟩
        exact ⟨rfl, by rw [HT2.out]; exact ⟨rfl, hb5⟩⟩
      | some aq =>
        obtain ⟨a, q2, p2⟩ := aq
        rw [hS] at cS
        replace cS : Calls Tryd.prog 50 #[.pointer (some ⟨R, 0, none⟩)] wr (fun e w' => ∃ x nb, e = .returned (mk x) ∧ Rel a x nb ∧ Rd w0 wr.heap.size w' R (nb ++ (obx wr _ ++ (nbs ++ bs))) q2 s p2 ∧ (∀ b ∈ nb, wr.heap.size ≤ b.1) ∧ wr.heap.size ≤ w'.heap.size) := cS
        have HT2 : Hid (T = (listR st (n - (i + 1)) q2 p2).map fun r => ((al ++ [a]) ++ r.1, r.2)) := by
          show _ = _
          rw [HTR.out, hni]
          show Option.map _ ((st q p).bind _) = _
          rw [hS, Option.bind_some, Option.map_map]
          congr 1
          funext r
          simp
        have HI2 : Hid (Iq (i + 1) q2) := HIQ.out i q p a q2 p2 hlt HIR.out hS
        clear HRD
        go_wp2_with fail
        refine cS.mono ?_
        rintro e w5 ⟨x, nb, rfl, hx, hr5, hf5, h55⟩
        have HO5 : Hid (OwnK w0 w5 ((R, 90, rdA q2 s p2) :: (nb ++ (nbs ++ bs))) 52 1 _ xs) := obx_own HOR.out hr5 hf5
        have HN5 : Hid (∀ b ∈ nb ++ (nbs ++ bs), b.1 ≠ R) := fun b hb => (hr5.K b (by rcases List.mem_append.1 hb with hb | hb <;> simp [hb])).2
        obtain ⟨hxz, hxa⟩ := HRL.out a x nb hx
        have HXC : Hid ((mk x).cells = x) := HMK.out a x nb hx
        have HRS2 : Hid (Rels Rel (al ++ [a]) (xs ++ [x]) (nb ++ nbs)) := Rels.snoc HRS.out hx
        have hv1 := HVR.out.2.1
        have hv2 := HVR.out.2.2.1
        have hv3 := HVR.out.2.2.2
        have HV2 : Hid ((∀ b ∈ nb ++ nbs, w.heap.size ≤ b.1) ∧ w.heap.size ≤ w5.heap.size) := ⟨fun b hb => by rcases List.mem_append.1 hb with hb | hb; exact Nat.le_trans hv3 (hf5 b hb); exact hv1 b hb, by omega⟩
        clear cS hr5 hf5 HOR HNN HRS HIR HTR hx
        go_wp2_with (first | (refine wpList_slice1w rfl 24 52 (.tmp 11) rfl x mk rfl HXC.out 1 _ Tryd.underlying24 24 inf69 rfl hxz (by decide) (by decide) ?_) | (refine app_one2 HO5.out 24 x hxz hxa _ 24 Tryd.underlying24 inf69 rfl (by decide) (by omega) (by decide) rfl (.tmp 9) (.tmp 12) rfl rfl rfl ?_; intro g cap w8 HO8 hg8 hs8))
        have hgg : w.heap.size ≤ g := by
          rcases hg8 with hg8 | hg8
          · exact hv2 g hg8
          · have := HV2.out.2; omega
        refine ⟨⟨i + 1, .slice (some ⟨g, 0, none⟩) (i + 1) cap, q2, p2, al ++ [a], xs ++ [x], nb ++ nbs, hlt, rfl, rfl, by rw [List.length_append, hxl]; rfl, ?_, ?_, HRS2, HI2, HT2, ⟨fun e => by omega, HV2.out.1, fun g' hg' => ?_, by have := HV2.out.2; omega⟩⟩, by simp only [intOf]; omega⟩
        · rw [List.append_assoc, ← hxl]; exact HO8
        · rw [List.append_assoc]; exact HN5
        · have : g = g' := by simpa [Value.ownBlock] using hg'
          omega
    · obtain rfl : i = n := by omega
      have hnot : ¬ (i : Int) < (i : Int) := by omega
      have HT2 : Hid (T = some (al, q, p)) := by show _ = _; rw [HTR.out, Nat.sub_self]; show some (al ++ [], q, p) = _; rw [List.append_nil]
      rcases HOR.out.R.2 with ⟨e1, e2⟩ | ⟨g, cap, cur, e1, e2, e3, e4, e5, e6, e7⟩
      · subst e1
        have hi0 : i = 0 := by omega
        subst hi0
        have HRD : Hid (Rd w0 mz wr R ([] ++ (nbs ++ bs)) q s p) := HOR.out.rd HNN.out (by have := HVR.out.2.2.2; have := HMZ.out; omega)
        go_wp2_with fail
        go_ret
        rw [HT2.out]
        exact ⟨none, xs, [], nbs, rfl, HRS.out, hxl, fun V _ => ⟨by omega, by omega, fun j hj => by omega⟩, HRD.out, fun b hb => HVR.out.2.1 b (by simpa using hb), HVR.out.2.2.2⟩
      · subst e1
        have hci : i ≤ cap := by omega
        have hcm : (i : Int) ≤ (cap : Int) := by omega
        have hc9 : cap ≤ 9223372036854775807 := by unfold maxLen at e5; omega
        have HRD : Hid (Rd w0 mz wr R ([(g, 52, cur)] ++ (nbs ++ bs)) q s p) := by
          have hh := obx_rd (mz := mz) HOR.out HNN.out (by have := HVR.out.2.2.2; have := HMZ.out; omega)
          have ho : obx wr (.slice (some ⟨g, 0, none⟩) xs.length cap) = [(g, 52, cur)] := by
            show (match wr.heap[g]? with | some (.cells cur e _) => [(g, e, cur)] | _ => []) = _
            rw [e3]
          rw [ho] at hh
          exact hh
        have HKP : Hid (Keep [(g, 52, cur)] (fun V => SlAt V 1 (some ⟨g, 0, none⟩) i xs)) := fun V hV => by
          have h3 := hV (g, 52, cur) (List.mem_singleton.2 rfl)
          refine ⟨by omega, by omega, fun j hj => ⟨g, 0, rfl, fun k hk => ?_⟩⟩
          rw [cell_of h3, Nat.zero_add]
          have hlt : j * 1 + k < xs.length * 1 := by
            have := Nat.mul_le_mul_right 1 hj
            rw [Nat.succ_mul] at this
            omega
          have h8 : (cur.toList.take (xs.length * 1))[j * 1 + k]? = cur[j * 1 + k]? := by rw [List.getElem?_take_of_lt hlt]; simp
          rw [← h8, e7, flat_at xs HOR.out.Z j hj k hk]
        have HVB : Hid ((∀ b ∈ [(g, 52, cur)] ++ nbs, w.heap.size ≤ b.1) ∧ w.heap.size ≤ wr.heap.size) := ⟨fun b hb => by
          rcases List.mem_append.1 hb with hb | hb
          · rw [List.mem_singleton.1 hb]; exact HVR.out.2.2.1 g rfl
          · exact HVR.out.2.1 b hb, HVR.out.2.2.2⟩
        have HRS2 : Hid (Rels Rel al xs nbs ∧ xs.length = i) := ⟨HRS.out, hxl⟩
        rw [hxl]
        clear hxl HOR HNN HRS HVR e2 e3 e4 e5 e6 e7
        go_wp2_with fail
        go_ret
        rw [HT2.out]
        exact ⟨some ⟨g, 0, none⟩, xs, [(g, 52, cur)], nbs, rfl, HRS2.out.1, HRS2.out.2, HKP.out, HRD.out, HVB.out.1, HVB.out.2⟩
end Go.Proofs.YteedmmljahgpjabDoor
