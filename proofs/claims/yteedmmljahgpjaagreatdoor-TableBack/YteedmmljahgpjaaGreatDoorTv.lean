/-
  The writer: numbers with signs.
-/
import Derived.Test.YteedmmljahgpjaaGreatDoorM15
import Derived.Deep.RegionLaw
namespace Go.Proofs.YteedmmljahgpjaaGreatDoor
open Go.RowKit
set_option linter.unusedVariables false
set_option linter.unusedSimpArgs false
theorem step_one {w V : World} {bs : List (Nat × Nat × Array Value)} {e sz : Nat} {v : Value} {vs : List (Array Value)} (hL : OwnK w V bs e sz v vs) (t : TypeId) (cs : Array Value) (hcs : cs.size = sz) (h1 : cs.all (·.oneCell') = true)
    (z : Value) (by_ : Nat) (ht : Tryz.prog.underlying t = some (.slice e)) (hi : (Tryz.prog.info? e).map (fun i => (i.zero, i.size, i.bytes)) = some (some z, sz, by_)) (hz : z.cells.size = sz) (h0 : 0 < sz) (hn : vs.length ≤ 1000000) (hby : by_ ≤ 1000)
    {ops : Array Oper} {o : Oper} {a : Act} {K : Act → World → Prop} {Q : Exit → Act → World → Prop} {E : Prop} (hgd : o.guard = none) (d x : Operand)
    (ho : o.op = .call { callee := .builtin .append, args := #[d, x], argTypes := #[t, t] }) (hs : a.eval d = v) (hx : a.eval x = .slice (some ⟨V.heap.size, 0, none⟩) 1 1)
    (h : ∀ g cap w', OwnK w w' bs e sz (.slice (some ⟨g, 0, none⟩) (vs.length + 1) cap) (vs ++ [cs]) → K (a.put o.dst (.slice (some ⟨g, 0, none⟩) (vs.length + 1) cap)) w') :
    if Region.wanted o (yielded ops a.tmps) = true then Oper.wp Tryz.prog o a (V.alloc (.cells cs e)) K Q else E := by
  obtain ⟨i0, hi0, hz0, hz1, hz2⟩ := info_parts hi
  have hsz := size_alloc V (.cells cs e)
  have hA : OwnK w (V.alloc (.cells cs e)) bs e sz v vs := hL.on (below_new _ _)
  have hwV := hL.B.size
  have hby2 : (vs.length + 1) * by_ ≤ 140737488355328 := by
    have : (vs.length + 1) * by_ ≤ 1000001 * 1000 := Nat.mul_le_mul (by omega) hby
    omega
  refine step_append_lies _ hgd d x t ho w.heap.size e i0 z sz by_ ht hi0 hz0 hz1 hz2 hz h0 v vs.length _ hs hA.R ⟨V.heap.size, 0, none⟩ 1 1 cs.toList hx (by simp; exact hcs) (World.news_of_block (heap_new V _)) (fun u hu => (Array.all_eq_true_iff_forall_mem.1 h1) u (by simpa using hu)) (by decide) (by unfold maxLen; omega) hby2 (by omega) _ rfl ?_
  intro g cap w' h2 h3 h4 h5
  refine h g cap w' ⟨?_, ?_, ?_, ?_⟩
  · rw [List.length_append, List.length_singleton, List.map_append, List.flatten_append]
    simpa using h2
  · intro y hy
    rcases List.mem_append.1 hy with hy | hy
    · exact hL.Z y hy
    · rw [List.mem_singleton.1 hy]; exact hcs
  · exact hA.B.grown h3 (by omega) fun k hk => (hA.lt k hk).1
  · intro p hp
    obtain ⟨q1, q2, q3⟩ := hA.K p hp
    have hl := (Array.getElem?_eq_some_iff.1 q1).1
    refine ⟨(h3.block _ hl (fun e => q3 e.symm)).trans q1, q2, fun e => ?_⟩
    have hg : g = p.1 := by simpa [Value.ownBlock] using e
    rcases h4 with h4 | h4
    · exact q3 (by rw [h4, hg])
    · omega
theorem allReady_cons {P : Program} {md : Region.Mode} {ops : Array Oper} {Q : Exit → Act → World → Prop} {fuel : Nat} {listed : Array Bool} {a : Act} {w : World} {i : Nat} {o : Oper} {rs : List Nat} (ho : ops[i]? = some o)
    (h : ∀ K' : Act → World → Prop, Shut (∀ a w, wpAny P md ops Q fuel (listed.setIfInBounds i true) a w → K' a w) → if Region.wanted o (yielded ops a.tmps) = true then Oper.wp P o a w K' Q else K' (a.put o.dst undef) w)
    (hs : AllReady P md ops Q fuel listed a w rs) : AllReady P md ops Q fuel listed a w (i :: rs) := AllReady.cons ho (fun K hK => h K hK) hs
def sgZ (l : List Int) : List Int := (l.length : Int) :: l.map W.zigN
theorem inf3 : (Tryz.prog.info? 3).map (fun i => (i.zero, i.size, i.bytes)) = some (some (.int .i64 0), 1, 8) := by kernel_rfl
set_option maxRecDepth 100000 in
set_option maxHeartbeats 4000000 in
theorem wsigned_any (b : Nat) (l zs : List Int) (a : Option Addr) (c : Nat) (bs : List (Nat × Nat × Array Value)) (w : World) (w0 : World) (h : Wr w0 w b bs zs) (hk : SlAt w0 1 a c (l.map nvals)) (hi : ∀ n ∈ l, I64 n) (hz : zs.length + l.length + 1 ≤ 1000000) : Calls Tryz.prog 76 #[.pointer (some ⟨b, 0, none⟩), .slice a l.length c] w fun e w' => e = .returned (.tuple #[]) ∧ Wr w0 w' b bs (zs ++ sgZ l) := by
  have HSL : Hid (SlAt w0 1 a c (l.map nvals)) := hk
  have HLI : Hid (∀ n ∈ l, I64 n) := hi
  have HLZ : Hid (zs.length + l.length + 1 ≤ 1000000) := hz
  have hlm : (l.length : Int) ≤ 1000000 := by omega
  have HW1 : Hid (Wr w0 (w.alloc (.cells (iA [(l.length : Int)]) 3)) b ((w.heap.size, 3, iA [(l.length : Int)]) :: bs) zs) := h.add (below_new _ _) _ _ _ (Nat.le_refl _) (heap_new _ _)
  have cP := wput_any b w.heap.size [(l.length : Int)] zs bs (w.alloc (.cells (iA [(l.length : Int)]) 3)) w0 HW1.out (by intro n hn; rw [List.mem_singleton] at hn; omega) (by simp only [List.length_singleton]; omega)
  clear h hk hi hz HW1
  go_enter Tryz.func76, Tryz.ntmps76
  go_wp2_with (refine wpList_slice1v rfl 192 3 (.tmp 8) rfl (iA [(l.length : Int)]) (.int .i64 (l.length : Int)) rfl rfl 1 _ Tryz.underlying192 8 inf3 rfl rfl (by decide) (by decide) ?_)
  refine cP.mono ?_
  rintro e w2 ⟨rfl, hw2⟩
  have HW2 : Hid (Wr w0 w2 b bs (zs ++ ((l.length : Int) :: (l.take 0).map W.zigN))) := hw2.less
  clear cP hw2
  go_wp2_with fail
  go_loopw [13] (fun q wr => ∃ (i : Nat), i ≤ l.length ∧ q = .int .i64 i ∧ Hid (Wr w0 wr b bs (zs ++ ((l.length : Int) :: (l.take i).map W.zigN)))) (fun q _ => l.length - (intOf q).toNat)
  case atStart => exact ⟨0, by omega, rfl, HW2⟩
  case round =>
    obtain ⟨i, hi, rfl, HWR⟩ := hrel
    by_cases hlt : i < l.length
    · have hlt' : (i : Int) < (l.length : Int) := by omega
      have hmx : (i : Int) + 1 ≤ 9223372036854775807 := by omega
      obtain ⟨bb, o, ea, hat⟩ := (HSL.out.on (mapz nvals_sz _) HWR.out.below).2.2 i (by rw [List.length_map]; exact hlt)
      simp only [List.getElem_map] at hat
      have hni := HLI.out l[i] (List.getElem_mem hlt)
      have HTK : Hid (((l.length : Int) :: (l.take (i + 1)).map W.zigN) = ((l.length : Int) :: (l.take i).map W.zigN) ++ [W.zigN l[i]]) := by show _ = _; rw [List.take_succ_eq_append_getElem hlt, List.map_append]; rfl
      obtain ⟨n, en⟩ : ∃ n, l[i] = n := ⟨_, rfl⟩
      rw [en] at hat hni HTK
      have ci : wr.cell? ⟨bb, o + i, none⟩ = some (.int .i64 n) := by have := hat 0 (by omega); rw [Nat.mul_one, Nat.add_zero] at this; exact this
      have hZG := fun w => W.zig_any n hni.1 hni.2 w
      obtain ⟨z, ez⟩ : ∃ z, W.zigN n = z := ⟨_, rfl⟩
      rw [ez] at hZG HTK
      have HZG : Hid (∀ w, Calls Tryz.prog 106 #[.int .i64 n] w fun e w' => e = .returned (.int .u64 z) ∧ w' = w) := hZG
      obtain ⟨v, hO⟩ := HWR.out.H
      have HO : Hid (OwnK w0 wr.drew ((b, 136, #[v]) :: bs) 104 1 v ((zs ++ ((l.length : Int) :: (l.take i).map W.zigN)).map uvals)) := hO.on ⟨rfl, rfl, rfl, Nat.le_refl _, fun _ _ => rfl⟩
      have HNN : Hid (∀ p ∈ bs, p.1 ≠ b) := HWR.out.N
      have cb : wr.cell? ⟨b, 0, none⟩ = some v := cell_of hO.box 0
      have cbd : wr.drew.cell? ⟨b, 0, none⟩ = some v := cell_of HO.out.box 0
      have cba : (wr.drew.alloc (.cells (uvals z) 104)).cell? ⟨b, 0, none⟩ = some v := cell_of ((HO.out.on (below_new _ _)).box) 0
      have cbb : (wr.drew.alloc (.cells #[.int .u64 z] 104)).cell? ⟨b, 0, none⟩ = some v := cba
      have cbc : (wr.alloc (.cells #[.int .u64 z] 104)).cell? ⟨b, 0, none⟩ = some v := cba
      have HLL : Hid (((zs ++ ((l.length : Int) :: (l.take i).map W.zigN)).map uvals).length ≤ 1000000) := by show _ ≤ _; rw [List.length_map, List.length_append]; simp only [List.length_cons, List.length_map, List.length_take]; have := HLZ.out; omega
      subst ea
      clear en ez hO HWR hat hni hZG
      go_upto_region 4 with fail
      refine wp_region_any (by kernel_rfl) ?_
      change wpAny _ _ _ _ _ _ _ wr.drew
      refine wpAny_take (i := 0) (v := ?_) rfl (by kernel_rfl) (by kernel_rfl) (by kernel_rfl) (fun _ _ _ h => h) (Or.inl ⟨by rfl, ?_⟩) ?_
      rotate_left
      · (intro v; go_simp; try (with_reducible rfl))
      try simp [Act.put]
      refine wpAny_take (i := 1) (v := ?_) rfl (by kernel_rfl) (by kernel_rfl) (by kernel_rfl) (fun _ _ _ h => h) (Or.inl ⟨by rfl, ?_⟩) ?_
      rotate_left
      · (intro v; go_simp; try (with_reducible rfl))
      try simp [Act.put]
      refine wpAny_take (i := 2) (v := ?_) rfl (by kernel_rfl) (by kernel_rfl) (by kernel_rfl) (fun _ _ _ h => h) (Or.inl ⟨by rfl, ?_⟩) ?_
      rotate_left
      · (intro v; go_simp; try (with_reducible rfl))
      try simp [Act.put]
      refine wpAny_take (i := 3) (v := ?_) rfl (by kernel_rfl) (by kernel_rfl) (by kernel_rfl) (fun _ _ _ h => h) (Or.inl ⟨by rfl, ?_⟩) ?_
      rotate_left
      · (intro v; go_simp; try (with_reducible rfl))
      try simp [Act.put]
      refine wpAny_take (i := 5) (v := ?_) rfl (by kernel_rfl) (by kernel_rfl) (by kernel_rfl) (fun _ _ _ h => h) (Or.inl ⟨by rfl, ?_⟩) ?_
      rotate_left
      · (intro v; go_simp; try (with_reducible rfl))
      try simp [Act.put]
      refine wpAny_ready (rs := [4, 6]) (by kernel_rfl) (by simp) (allReady_cons rfl (fun K hK => ?_) (allReady_cons rfl (fun K hK => ?_) AllReady.nil))
      · go_simp
        refine hK.out _ _ ?_
        clear hK K
        try simp [Act.put]
        refine wpAny_ready (rs := [6]) (by kernel_rfl) (by simp) (allReady_cons rfl (fun K hK => ?_) AllReady.nil)
        go_simp
        go_at_call 106
        refine (HZG.out _).mono ?_
        rintro e w1 ⟨rfl, rfl⟩
        refine hK.out _ _ ?_
        clear hK K
        try simp [Act.put]
        refine wpAny_ready (rs := [7]) (by kernel_rfl) (by simp) (allReady_cons rfl (fun K hK => ?_) AllReady.nil)
        go_simp
        refine hK.out _ _ ?_
        clear hK K
        try simp [Act.put]
        refine wpAny_ready (rs := [8]) (by kernel_rfl) (by simp) (allReady_cons rfl (fun K hK => ?_) AllReady.nil)
        refine step_one HO.out 134 (uvals z) rfl (uvals_all z) _ 8 Tryz.underlying134 inf104 rfl (by decide) HLL.out (by decide) rfl (.tmp 21) (.tmp 24) rfl (by simp [Act.eval]) (by simp [Act.eval]) ?_
        intro g cap w8 HO8
        have xb := cell_of HO8.box 0
        have fb := frozen_of HO8.box 0
        refine hK.out _ _ ?_
        clear hK K
        try simp [Act.put]
        refine wpAny_take (i := 9) (v := ?_) rfl (by kernel_rfl) (by kernel_rfl) (by kernel_rfl) (fun _ _ _ h => h) (Or.inl ⟨by rfl, ?_⟩) ?_
        rotate_left
        · (intro v; go_simp; try (with_reducible rfl))
        try simp [Act.put]
        refine wpAny_take (i := 10) (v := ?_) rfl (by kernel_rfl) (by kernel_rfl) (by kernel_rfl) (fun _ _ _ h => h) (Or.inl ⟨by rfl, ?_⟩) ?_
        rotate_left
        · (intro v; go_simp; try (with_reducible rfl))
        try simp [Act.put]
        refine wpAny_ready (rs := [11]) (by kernel_rfl) (by simp) (allReady_cons rfl (fun K hK => ?_) AllReady.nil)
        go_simp
        refine hK.out _ _ ?_
        clear hK K
        try simp [Act.put]
        refine wpAny_done (by kernel_rfl) ?_ _
        have hLe : ((zs ++ ((l.length : Int) :: (l.take i).map W.zigN)).map uvals).length = zs.length + (i + 1) := by rw [List.length_map, List.length_append]; rw [List.length_cons, List.length_map, List.length_take]; omega
        rw [hLe] at HO8
        try rw [hLe]
        have hq := HO8.put HNN.out (.slice (some ⟨g, 0, none⟩) (zs.length + (i + 1) + 1) cap)
        have HQ : Hid (Wr w0 (w8.setCell ⟨b, 0, none⟩ (.slice (some ⟨g, 0, none⟩) (zs.length + (i + 1) + 1) cap)) b bs (zs ++ ((l.length : Int) :: (l.take (i + 1)).map W.zigN))) := by
          refine ⟨⟨.slice (some ⟨g, 0, none⟩) (zs.length + (i + 1) + 1) cap, ?_⟩, HNN.out⟩
          rw [HTK.out, ← List.append_assoc, List.map_append]
          exact hq
        generalize w8.setCell ⟨b, 0, none⟩ (.slice (some ⟨g, 0, none⟩) (zs.length + (i + 1) + 1) cap) = W9 at HQ ⊢
        clear hq HO8 hLe xb fb
        go_wp2_with fail
        exact ⟨⟨i + 1, hlt, rfl, HQ⟩, by simp only [intOf]; omega⟩
      · go_simp
        go_at_call 106
        refine (HZG.out _).mono ?_
        rintro e w1 ⟨rfl, rfl⟩
        refine hK.out _ _ ?_
        clear hK K
        try simp [Act.put]
        refine wpAny_ready (rs := [4, 7]) (by kernel_rfl) (by simp) (allReady_cons rfl (fun K hK => ?_) (allReady_cons rfl (fun K hK => ?_) AllReady.nil))
        · go_simp
          refine hK.out _ _ ?_
          clear hK K
          try simp [Act.put]
          refine wpAny_ready (rs := [7]) (by kernel_rfl) (by simp) (allReady_cons rfl (fun K hK => ?_) AllReady.nil)
          go_simp
          refine hK.out _ _ ?_
          clear hK K
          try simp [Act.put]
          refine wpAny_ready (rs := [8]) (by kernel_rfl) (by simp) (allReady_cons rfl (fun K hK => ?_) AllReady.nil)
          refine step_one HO.out 134 (uvals z) rfl (uvals_all z) _ 8 Tryz.underlying134 inf104 rfl (by decide) HLL.out (by decide) rfl (.tmp 21) (.tmp 24) rfl (by simp [Act.eval]) (by simp [Act.eval]) ?_
          intro g cap w8 HO8
          have xb := cell_of HO8.box 0
          have fb := frozen_of HO8.box 0
          refine hK.out _ _ ?_
          clear hK K
          try simp [Act.put]
          refine wpAny_take (i := 9) (v := ?_) rfl (by kernel_rfl) (by kernel_rfl) (by kernel_rfl) (fun _ _ _ h => h) (Or.inl ⟨by rfl, ?_⟩) ?_
          rotate_left
          · (intro v; go_simp; try (with_reducible rfl))
          try simp [Act.put]
          refine wpAny_take (i := 10) (v := ?_) rfl (by kernel_rfl) (by kernel_rfl) (by kernel_rfl) (fun _ _ _ h => h) (Or.inl ⟨by rfl, ?_⟩) ?_
          rotate_left
          · (intro v; go_simp; try (with_reducible rfl))
          try simp [Act.put]
          refine wpAny_ready (rs := [11]) (by kernel_rfl) (by simp) (allReady_cons rfl (fun K hK => ?_) AllReady.nil)
          go_simp
          refine hK.out _ _ ?_
          clear hK K
          try simp [Act.put]
          refine wpAny_done (by kernel_rfl) ?_ _
          have hLe : ((zs ++ ((l.length : Int) :: (l.take i).map W.zigN)).map uvals).length = zs.length + (i + 1) := by rw [List.length_map, List.length_append]; rw [List.length_cons, List.length_map, List.length_take]; omega
          rw [hLe] at HO8
          try rw [hLe]
          have hq := HO8.put HNN.out (.slice (some ⟨g, 0, none⟩) (zs.length + (i + 1) + 1) cap)
          have HQ : Hid (Wr w0 (w8.setCell ⟨b, 0, none⟩ (.slice (some ⟨g, 0, none⟩) (zs.length + (i + 1) + 1) cap)) b bs (zs ++ ((l.length : Int) :: (l.take (i + 1)).map W.zigN))) := by
            refine ⟨⟨.slice (some ⟨g, 0, none⟩) (zs.length + (i + 1) + 1) cap, ?_⟩, HNN.out⟩
            rw [HTK.out, ← List.append_assoc, List.map_append]
            exact hq
          generalize w8.setCell ⟨b, 0, none⟩ (.slice (some ⟨g, 0, none⟩) (zs.length + (i + 1) + 1) cap) = W9 at HQ ⊢
          clear hq HO8 hLe xb fb
          go_wp2_with fail
          exact ⟨⟨i + 1, hlt, rfl, HQ⟩, by simp only [intOf]; omega⟩
        · go_simp
          refine hK.out _ _ ?_
          clear hK K
          try simp [Act.put]
          refine wpAny_ready (rs := [4]) (by kernel_rfl) (by simp) (allReady_cons rfl (fun K hK => ?_) AllReady.nil)
          go_simp
          refine hK.out _ _ ?_
          clear hK K
          try simp [Act.put]
          refine wpAny_ready (rs := [8]) (by kernel_rfl) (by simp) (allReady_cons rfl (fun K hK => ?_) AllReady.nil)
          refine step_one HO.out 134 (uvals z) rfl (uvals_all z) _ 8 Tryz.underlying134 inf104 rfl (by decide) HLL.out (by decide) rfl (.tmp 21) (.tmp 24) rfl (by simp [Act.eval]) (by simp [Act.eval]) ?_
          intro g cap w8 HO8
          have xb := cell_of HO8.box 0
          have fb := frozen_of HO8.box 0
          refine hK.out _ _ ?_
          clear hK K
          try simp [Act.put]
          refine wpAny_take (i := 9) (v := ?_) rfl (by kernel_rfl) (by kernel_rfl) (by kernel_rfl) (fun _ _ _ h => h) (Or.inl ⟨by rfl, ?_⟩) ?_
          rotate_left
          · (intro v; go_simp; try (with_reducible rfl))
          try simp [Act.put]
          refine wpAny_take (i := 10) (v := ?_) rfl (by kernel_rfl) (by kernel_rfl) (by kernel_rfl) (fun _ _ _ h => h) (Or.inl ⟨by rfl, ?_⟩) ?_
          rotate_left
          · (intro v; go_simp; try (with_reducible rfl))
          try simp [Act.put]
          refine wpAny_ready (rs := [11]) (by kernel_rfl) (by simp) (allReady_cons rfl (fun K hK => ?_) AllReady.nil)
          go_simp
          refine hK.out _ _ ?_
          clear hK K
          try simp [Act.put]
          refine wpAny_done (by kernel_rfl) ?_ _
          have hLe : ((zs ++ ((l.length : Int) :: (l.take i).map W.zigN)).map uvals).length = zs.length + (i + 1) := by rw [List.length_map, List.length_append]; rw [List.length_cons, List.length_map, List.length_take]; omega
          rw [hLe] at HO8
          try rw [hLe]
          have hq := HO8.put HNN.out (.slice (some ⟨g, 0, none⟩) (zs.length + (i + 1) + 1) cap)
          have HQ : Hid (Wr w0 (w8.setCell ⟨b, 0, none⟩ (.slice (some ⟨g, 0, none⟩) (zs.length + (i + 1) + 1) cap)) b bs (zs ++ ((l.length : Int) :: (l.take (i + 1)).map W.zigN))) := by
            refine ⟨⟨.slice (some ⟨g, 0, none⟩) (zs.length + (i + 1) + 1) cap, ?_⟩, HNN.out⟩
            rw [HTK.out, ← List.append_assoc, List.map_append]
            exact hq
          generalize w8.setCell ⟨b, 0, none⟩ (.slice (some ⟨g, 0, none⟩) (zs.length + (i + 1) + 1) cap) = W9 at HQ ⊢
          clear hq HO8 hLe xb fb
          go_wp2_with fail
          exact ⟨⟨i + 1, hlt, rfl, HQ⟩, by simp only [intOf]; omega⟩
    · obtain rfl : i = l.length := by omega
      have hnot : ¬ (l.length : Int) < (l.length : Int) := by omega
      have HE : Hid (Wr w0 wr b bs (zs ++ sgZ l)) := by have := HWR.out; rw [List.take_length] at this; exact this
      go_wp2_with fail
      go_end0
      exact ⟨rfl, HE.out⟩
end Go.Proofs.YteedmmljahgpjaaGreatDoor
