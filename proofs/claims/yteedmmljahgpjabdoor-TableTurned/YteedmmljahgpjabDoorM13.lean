import Derived.Test.YteedmmljahgpjabDoorM12
import Derived.Deep.RegionLaw
import Derived.Deep.RegionHeld
/-
  The writer: numbers with signs.
-/
namespace Go.Proofs.YteedmmljahgpjabDoor
open Go.RowKit
set_option linter.unusedVariables false
set_option linter.unusedSimpArgs false
theorem step_one {w V : World} {bs : List (Nat × Nat × Array Value)} {e sz : Nat} {v : Value} {vs : List (Array Value)} (hL : OwnK w V bs e sz v vs) (t : TypeId) (cs : Array Value) (hcs : cs.size = sz) (h1 : cs.all (·.oneCell') = true)
    (z : Value) (by_ : Nat) (ht : Tryd.prog.underlying t = some (.slice e)) (hi : (Tryd.prog.info? e).map (fun i => (i.zero, i.size, i.bytes)) = some (some z, sz, by_)) (hz : z.cells.size = sz) (h0 : 0 < sz) (hn : vs.length ≤ 1000000) (hby : by_ ≤ 1000)
    {ops : Array Oper} {o : Oper} {a : Act} {K : Act → World → Prop} {Q : Exit → Act → World → Prop} {E : Prop} (hgd : o.guard = none) (d x : Operand)
    (ho : o.op = .call { callee := .builtin .append, args := #[d, x], argTypes := #[t, t] }) (hs : a.eval d = v) (hx : a.eval x = .slice (some ⟨V.heap.size, 0, none⟩) 1 1)
    (h : ∀ g cap w', OwnK w w' bs e sz (.slice (some ⟨g, 0, none⟩) (vs.length + 1) cap) (vs ++ [cs]) → K (a.put o.dst (.slice (some ⟨g, 0, none⟩) (vs.length + 1) cap)) w') :
    if Region.wanted o (yielded ops a.tmps) = true then Oper.wp Tryd.prog o a (V.alloc (.cells cs e)) K Q else E := by
  obtain ⟨i0, hi0, hz0, hz1, hz2⟩ := info_parts hi
  have hsz := size_alloc V (.cells cs e)
  have hA : OwnK w (V.alloc (.cells cs e)) bs e sz v vs := hL.on (below_new _ _)
  have hwV := hL.B.size
  have hby2 : (vs.length + 1) * by_ ≤ 140737488355328 := by
    have : (vs.length + 1) * by_ ≤ 1000001 * 1000 := Nat.mul_le_mul (by omega) hby
    omega
  refine step_append_lies _ hgd d x t ho w.heap.size e i0 z sz by_ ht hi0 hz0 hz1 hz2 hz h0 v vs.length _ hs hA.R ⟨V.heap.size, 0, none⟩ 1 1 cs.toList hx (by simp; exact hcs) (World.news_of_block (heap_new V _)) (fun u hu => (Array.all_eq_true_iff_forall_mem.1 h1) u (by simpa using hu)) (by decide) (by unfold maxLen; omega) hby2 (by omega) _ rfl ?_
  intro g cap w' h2 h3 h4 h5
  refine h g cap w' ⟨?_, ?_, ?_, ?_⟩
  · rw [List.length_append, List.length_singleton, List.map_append, List.flatten_append]
    simpa using h2
  · intro y hy
    rcases List.mem_append.1 hy with hy | hy
    · exact hL.Z y hy
    · rw [List.mem_singleton.1 hy]; exact hcs
  · exact hA.B.grown h3 (by omega) fun k hk => (hA.lt k hk).1
  · intro p hp
    obtain ⟨q1, q2, q3⟩ := hA.K p hp
    have hl := (Array.getElem?_eq_some_iff.1 q1).1
    refine ⟨(h3.block _ hl (fun e => q3 e.symm)).trans q1, q2, fun e => ?_⟩
    have hg : g = p.1 := by simpa [Value.ownBlock] using e
    rcases h4 with h4 | h4
    · exact q3 (by rw [h4, hg])
    · omega
theorem allReady_cons {P : Program} {md : Region.Mode} {ops : Array Oper} {Q : Exit → Act → World → Prop} {fuel : Nat} {listed : Array Bool} {a : Act} {w : World} {i : Nat} {o : Oper} {rs : List Nat} (ho : ops[i]? = some o)
    (h : ∀ K' : Act → World → Prop, Shut (∀ a w, wpAny P md ops Q fuel (listed.setIfInBounds i true) a w → K' a w) → if Region.wanted o (yielded ops a.tmps) = true then Oper.wp P o a w K' Q else K' (a.put o.dst undef) w)
    (hs : AllReady P md ops Q fuel listed a w rs) : AllReady P md ops Q fuel listed a w (i :: rs) := AllReady.cons ho (fun K hK => h K hK) hs
def sgZ (l : List Int) : List Int := (l.length : Int) :: l.map W.zigN
theorem inf3 : (Tryd.prog.info? 3).map (fun i => (i.zero, i.size, i.bytes)) = some (some (.int .i64 0), 1, 8) := by kernel_rfl
set_option maxRecDepth 100000 in
set_option maxHeartbeats 4000000 in
theorem wsigned_any (b : Nat) (l zs : List Int) (a : Option Addr) (c : Nat) (bs : List (Nat × Nat × Array Value)) (w : World) (w0 : World) (h : Wr w0 w b bs zs) (hk : SlAt w0 1 a c (l.map nvals)) (hi : ∀ n ∈ l, I64 n) (hz : zs.length + l.length + 1 ≤ 1000000) : Calls Tryd.prog 25 #[.pointer (some ⟨b, 0, none⟩), .slice a l.length c] w fun e w' => e = .returned (.tuple #[]) ∧ Wr w0 w' b bs (zs ++ sgZ l) := by
  have HSL : Hid (SlAt w0 1 a c (l.map nvals)) := hk
  have HLI : Hid (∀ n ∈ l, I64 n) := hi
  have HLZ : Hid (zs.length + l.length + 1 ≤ 1000000) := hz
  have hlm : (l.length : Int) ≤ 1000000 := by omega
  have HW1 : Hid (Wr w0 (w.alloc (.cells (iA [(l.length : Int)]) 3)) b ((w.heap.size, 3, iA [(l.length : Int)]) :: bs) zs) := h.add (below_new _ _) _ _ _ (Nat.le_refl _) (heap_new _ _)
  have cP := wput_any b w.heap.size [(l.length : Int)] zs bs (w.alloc (.cells (iA [(l.length : Int)]) 3)) w0 HW1.out (by intro n hn; rw [List.mem_singleton] at hn; omega) (by simp only [List.length_singleton]; omega)
  clear h hk hi hz HW1
  go_enter Tryd.func25, Tryd.ntmps25
  go_wp2_with (refine wpList_slice1v rfl 104 3 (.tmp 8) rfl (iA [(l.length : Int)]) (.int .i64 (l.length : Int)) rfl rfl 1 _ Tryd.underlying104 8 inf3 rfl rfl (by decide) (by decide) ?_)
  refine cP.mono ?_
  rintro e w2 ⟨rfl, hw2⟩
  have HW2 : Hid (Wr w0 w2 b bs (zs ++ ((l.length : Int) :: (l.take 0).map W.zigN))) := hw2.less
  clear cP hw2
  go_wp2_with fail
  go_loopw [13] (fun q wr => ∃ (i : Nat), i ≤ l.length ∧ q = .int .i64 i ∧ Hid (Wr w0 wr b bs (zs ++ ((l.length : Int) :: (l.take i).map W.zigN)))) (fun q _ => l.length - (intOf q).toNat)
  case atStart => exact ⟨0, by omega, rfl, HW2⟩
  case round =>
    obtain ⟨i, hi, rfl, HWR⟩ := hrel
    by_cases hlt : i < l.length
    · have hlt' : (i : Int) < (l.length : Int) := by omega
      have hmx : (i : Int) + 1 ≤ 9223372036854775807 := by omega
      obtain ⟨bb, o, ea, hat⟩ := (HSL.out.on (mapz nvals_sz _) HWR.out.below).2.2 i (by rw [List.length_map]; exact hlt)
      simp only [List.getElem_map] at hat
      have hni := HLI.out l[i] (List.getElem_mem hlt)
      have HTK : Hid (((l.length : Int) :: (l.take (i + 1)).map W.zigN) = ((l.length : Int) :: (l.take i).map W.zigN) ++ [W.zigN l[i]]) := by show _ = _; rw [List.take_succ_eq_append_getElem hlt, List.map_append]; rfl
      obtain ⟨n, en⟩ : ∃ n, l[i] = n := ⟨_, rfl⟩
      rw [en] at hat hni HTK
      have ci : wr.cell? ⟨bb, o + i, none⟩ = some (.int .i64 n) := by have := hat 0 (by omega); rw [Nat.mul_one, Nat.add_zero] at this; exact this
      have hZG := fun w => W.zig_any n hni.1 hni.2 w
      obtain ⟨z, ez⟩ : ∃ z, W.zigN n = z := ⟨_, rfl⟩
      rw [ez] at hZG HTK
      have HZG : Hid (∀ w, Calls Tryd.prog 40 #[.int .i64 n] w fun e w' => e = .returned (.int .u64 z) ∧ w' = w) := hZG
      obtain ⟨v, hO⟩ := HWR.out.H
      have HO : Hid (OwnK w0 wr.drew ((b, 79, #[v]) :: bs) 98 1 v ((zs ++ ((l.length : Int) :: (l.take i).map W.zigN)).map uvals)) := hO.on ⟨rfl, rfl, rfl, Nat.le_refl _, fun _ _ => rfl⟩
      have HNN : Hid (∀ p ∈ bs, p.1 ≠ b) := HWR.out.N
      have cb : wr.cell? ⟨b, 0, none⟩ = some v := cell_of hO.box 0
      have cbd : wr.drew.cell? ⟨b, 0, none⟩ = some v := cell_of HO.out.box 0
      have cba : (wr.drew.alloc (.cells (uvals z) 98)).cell? ⟨b, 0, none⟩ = some v := cell_of ((HO.out.on (below_new _ _)).box) 0
      have cbb : (wr.drew.alloc (.cells #[.int .u64 z] 98)).cell? ⟨b, 0, none⟩ = some v := cba
      have cbc : (wr.alloc (.cells #[.int .u64 z] 98)).cell? ⟨b, 0, none⟩ = some v := cba
      have HLL : Hid (((zs ++ ((l.length : Int) :: (l.take i).map W.zigN)).map uvals).length ≤ 1000000) := by show _ ≤ _; rw [List.length_map, List.length_append]; simp only [List.length_cons, List.length_map, List.length_take]; have := HLZ.out; omega
      subst ea
      clear en ez hO HWR hat hni hZG
      go_upto_region 4 with fail
      refine wp_region_any (by kernel_rfl) ?_
      change wpAny _ _ _ _ _ _ _ wr.drew
      refine wpAny_take (i := 0) (v := ?_) rfl (by kernel_rfl) (by kernel_rfl) (by kernel_rfl) (fun _ _ _ h => h) (Or.inl ⟨by rfl, ?_⟩) ?_
      rotate_left
      · (intro v; go_simp; try (with_reducible rfl))
      try simp [Act.put]
      refine wpAny_take (i := 1) (v := ?_) rfl (by kernel_rfl) (by kernel_rfl) (by kernel_rfl) (fun _ _ _ h => h) (Or.inl ⟨by rfl, ?_⟩) ?_
      rotate_left
      · (intro v; go_simp; try (with_reducible rfl))
      try simp [Act.put]
      refine wpAny_take (i := 2) (v := ?_) rfl (by kernel_rfl) (by kernel_rfl) (by kernel_rfl) (fun _ _ _ h => h) (Or.inl ⟨by rfl, ?_⟩) ?_
      rotate_left
      · (intro v; go_simp; try (with_reducible rfl))
      try simp [Act.put]
      refine wpAny_take (i := 3) (v := ?_) rfl (by kernel_rfl) (by kernel_rfl) (by kernel_rfl) (fun _ _ _ h => h) (Or.inl ⟨by rfl, ?_⟩) ?_
      rotate_left
      · (intro v; go_simp; try (with_reducible rfl))
      try simp [Act.put]
      refine wpAny_take (i := 5) (v := ?_) rfl (by kernel_rfl) (by kernel_rfl) (by kernel_rfl) (fun _ _ _ h => h) (Or.inl ⟨by rfl, ?_⟩) ?_
      rotate_left
      · (intro v; go_simp; try (with_reducible rfl))
      try simp [Act.put]
      refine wpAny_ready (rs := [4, 6]) (by kernel_rfl) (by simp) (allReady_cons rfl (fun K hK => ?_) (allReady_cons rfl (fun K hK => ?_) AllReady.nil))
      · go_simp
        refine hK.out _ _ ?_
        clear hK K
        try simp [Act.put]
        refine wpAny_ready (rs := [6]) (by kernel_rfl) (by simp) (allReady_cons rfl (fun K hK => ?_) AllReady.nil)
        go_simp
        go_at_call 40
        refine (HZG.out _).mono ?_
        rintro e w1 ⟨rfl, rfl⟩
        refine hK.out _ _ ?_
        clear hK K
        try simp [Act.put]
        refine wpAny_ready (rs := [7]) (by kernel_rfl) (by simp) (allReady_cons rfl (fun K hK => ?_) AllReady.nil)
        go_simp
        refine hK.out _ _ ?_
        clear hK K
        try simp [Act.put]
        refine wpAny_ready (rs := [8]) (by kernel_rfl) (by simp) (allReady_cons rfl (fun K hK => ?_) AllReady.nil)
        refine step_one HO.out 77 (uvals z) rfl (uvals_all z) _ 8 Tryd.underlying77 inf104 rfl (by decide) HLL.out (by decide) rfl (.tmp 21) (.tmp 24) rfl (by simp [Act.eval]) (by simp [Act.eval]) ?_
        intro g cap w8 HO8
        have xb := cell_of HO8.box 0
        have fb := frozen_of HO8.box 0
        refine hK.out _ _ ?_
        clear hK K
        try simp [Act.put]
        refine wpAny_take (i := 9) (v := ?_) rfl (by kernel_rfl) (by kernel_rfl) (by kernel_rfl) (fun _ _ _ h => h) (Or.inl ⟨by rfl, ?_⟩) ?_
        rotate_left
        · (intro v; go_simp; try (with_reducible rfl))
        try simp [Act.put]
        refine wpAny_take (i := 10) (v := ?_) rfl (by kernel_rfl) (by kernel_rfl) (by kernel_rfl) (fun _ _ _ h => h) (Or.inl ⟨by rfl, ?_⟩) ?_
        rotate_left
        · (intro v; go_simp; try (with_reducible rfl))
        try simp [Act.put]
        refine wpAny_ready (rs := [11]) (by kernel_rfl) (by simp) (allReady_cons rfl (fun K hK => ?_) AllReady.nil)
        go_simp
        refine hK.out _ _ ?_
        clear hK K
        try simp [Act.put]
        refine wpAny_done (by kernel_rfl) ?_ _
        have hLe : ((zs ++ ((l.length : Int) :: (l.take i).map W.zigN)).map uvals).length = zs.length + (i + 1) := by rw [List.length_map, List.length_append]; rw [List.length_cons, List.length_map, List.length_take]; omega
        rw [hLe] at HO8
        try rw [hLe]
        have hq := HO8.put HNN.out (.slice (some ⟨g, 0, none⟩) (zs.length + (i + 1) + 1) cap)
        have HQ : Hid (Wr w0 (w8.setCell ⟨b, 0, none⟩ (.slice (some ⟨g, 0, none⟩) (zs.length + (i + 1) + 1) cap)) b bs (zs ++ ((l.length : Int) :: (l.take (i + 1)).map W.zigN))) := by
          refine ⟨⟨.slice (some ⟨g, 0, none⟩) (zs.length + (i + 1) + 1) cap, ?_⟩, HNN.out⟩
          rw [HTK.out, ← List.append_assoc, List.map_append]
          exact hq
        generalize w8.setCell ⟨b, 0, none⟩ (.slice (some ⟨g, 0, none⟩) (zs.length + (i + 1) + 1) cap) = W9 at HQ ⊢
        clear hq HO8 hLe xb fb
        go_wp2_with fail
        exact ⟨⟨i + 1, hlt, rfl, HQ⟩, by simp only [intOf]; omega⟩
      · go_simp
        go_at_call 40
        refine (HZG.out _).mono ?_
        rintro e w1 ⟨rfl, rfl⟩
        refine hK.out _ _ ?_
        clear hK K
        try simp [Act.put]
        refine wpAny_ready (rs := [4, 7]) (by kernel_rfl) (by simp) (allReady_cons rfl (fun K hK => ?_) (allReady_cons rfl (fun K hK => ?_) AllReady.nil))
        · go_simp
          refine hK.out _ _ ?_
          clear hK K
          try simp [Act.put]
          refine wpAny_ready (rs := [7]) (by kernel_rfl) (by simp) (allReady_cons rfl (fun K hK => ?_) AllReady.nil)
          go_simp
          refine hK.out _ _ ?_
          clear hK K
          try simp [Act.put]
          refine wpAny_ready (rs := [8]) (by kernel_rfl) (by simp) (allReady_cons rfl (fun K hK => ?_) AllReady.nil)
          refine step_one HO.out 77 (uvals z) rfl (uvals_all z) _ 8 Tryd.underlying77 inf104 rfl (by decide) HLL.out (by decide) rfl (.tmp 21) (.tmp 24) rfl (by simp [Act.eval]) (by simp [Act.eval]) ?_
          intro g cap w8 HO8
          have xb := cell_of HO8.box 0
          have fb := frozen_of HO8.box 0
          refine hK.out _ _ ?_
          clear hK K
          try simp [Act.put]
          refine wpAny_take (i := 9) (v := ?_) rfl (by kernel_rfl) (by kernel_rfl) (by kernel_rfl) (fun _ _ _ h => h) (Or.inl ⟨by rfl, ?_⟩) ?_
          rotate_left
          · (intro v; go_simp; try (with_reducible rfl))
          try simp [Act.put]
          refine wpAny_take (i := 10) (v := ?_) rfl (by kernel_rfl) (by kernel_rfl) (by kernel_rfl) (fun _ _ _ h => h) (Or.inl ⟨by rfl, ?_⟩) ?_
          rotate_left
          · (intro v; go_simp; try (with_reducible rfl))
          try simp [Act.put]
          refine wpAny_ready (rs := [11]) (by kernel_rfl) (by simp) (allReady_cons rfl (fun K hK => ?_) AllReady.nil)
          go_simp
          refine hK.out _ _ ?_
          clear hK K
          try simp [Act.put]
          refine wpAny_done (by kernel_rfl) ?_ _
          have hLe : ((zs ++ ((l.length : Int) :: (l.take i).map W.zigN)).map uvals).length = zs.length + (i + 1) := by rw [List.length_map, List.length_append]; rw [List.length_cons, List.length_map, List.length_take]; omega
          rw [hLe] at HO8
          try rw [hLe]
          have hq := HO8.put HNN.out (.slice (some ⟨g, 0, none⟩) (zs.length + (i + 1) + 1) cap)
          have HQ : Hid (Wr w0 (w8.setCell ⟨b, 0, none⟩ (.slice (some ⟨g, 0, none⟩) (zs.length + (i + 1) + 1) cap)) b bs (zs ++ ((l.length : Int) :: (l.take (i + 1)).map W.zigN))) := by
            refine ⟨⟨.slice (some ⟨g, 0, none⟩) (zs.length + (i + 1) + 1) cap, ?_⟩, HNN.out⟩
            rw [HTK.out, ← List.append_assoc, List.map_append]
            exact hq
          generalize w8.setCell ⟨b, 0, none⟩ (.slice (some ⟨g, 0, none⟩) (zs.length + (i + 1) + 1) cap) = W9 at HQ ⊢
          clear hq HO8 hLe xb fb
          go_wp2_with fail
          exact ⟨⟨i + 1, hlt, rfl, HQ⟩, by simp only [intOf]; omega⟩
        · go_simp
          refine hK.out _ _ ?_
          clear hK K
          try simp [Act.put]
          refine wpAny_ready (rs := [4]) (by kernel_rfl) (by simp) (allReady_cons rfl (fun K hK => ?_) AllReady.nil)
          go_simp
          refine hK.out _ _ ?_
          clear hK K
          try simp [Act.put]
          refine wpAny_ready (rs := [8]) (by kernel_rfl) (by simp) (allReady_cons rfl (fun K hK => ?_) AllReady.nil)
          refine step_one HO.out 77 (uvals z) rfl (uvals_all z) _ 8 Tryd.underlying77 inf104 rfl (by decide) HLL.out (by decide) rfl (.tmp 21) (.tmp 24) rfl (by simp [Act.eval]) (by simp [Act.eval]) ?_
          intro g cap w8 HO8
          have xb := cell_of HO8.box 0
          have fb := frozen_of HO8.box 0
          refine hK.out _ _ ?_
          clear hK K
          try simp [Act.put]
          refine wpAny_take (i := 9) (v := ?_) rfl (by kernel_rfl) (by kernel_rfl) (by kernel_rfl) (fun _ _ _ h => h) (Or.inl ⟨by rfl, ?_⟩) ?_
          rotate_left
          · (intro v; go_simp; try (with_reducible rfl))
          try simp [Act.put]
          refine wpAny_take (i := 10) (v := ?_) rfl (by kernel_rfl) (by kernel_rfl) (by kernel_rfl) (fun _ _ _ h => h) (Or.inl ⟨by rfl, ?_⟩) ?_
          rotate_left
          · (intro v; go_simp; try (with_reducible rfl))
          try simp [Act.put]
          refine wpAny_ready (rs := [11]) (by kernel_rfl) (by simp) (allReady_cons rfl (fun K hK => ?_) AllReady.nil)
          go_simp
          refine hK.out _ _ ?_
          clear hK K
          try simp [Act.put]
          refine wpAny_done (by kernel_rfl) ?_ _
          have hLe : ((zs ++ ((l.length : Int) :: (l.take i).map W.zigN)).map uvals).length = zs.length + (i + 1) := by rw [List.length_map, List.length_append]; rw [List.length_cons, List.length_map, List.length_take]; omega
          rw [hLe] at HO8
          try rw [hLe]
          have hq := HO8.put HNN.out (.slice (some ⟨g, 0, none⟩) (zs.length + (i + 1) + 1) cap)
          have HQ : Hid (Wr w0 (w8.setCell ⟨b, 0, none⟩ (.slice (some ⟨g, 0, none⟩) (zs.length + (i + 1) + 1) cap)) b bs (zs ++ ((l.length : Int) :: (l.take (i + 1)).map W.zigN))) := by
            refine ⟨⟨.slice (some ⟨g, 0, none⟩) (zs.length + (i + 1) + 1) cap, ?_⟩, HNN.out⟩
            rw [HTK.out, ← List.append_assoc, List.map_append]
            exact hq
          generalize w8.setCell ⟨b, 0, none⟩ (.slice (some ⟨g, 0, none⟩) (zs.length + (i + 1) + 1) cap) = W9 at HQ ⊢
          clear hq HO8 hLe xb fb
          go_wp2_with fail
          exact ⟨⟨i + 1, hlt, rfl, HQ⟩, by simp only [intOf]; omega⟩
    · obtain rfl : i = l.length := by omega
      have hnot : ¬ (l.length : Int) < (l.length : Int) := by omega
      have HE : Hid (Wr w0 wr b bs (zs ++ sgZ l)) := by have := HWR.out; rw [List.take_length] at this; exact this
      go_wp2_with fail
      go_end0
      exact ⟨rfl, HE.out⟩
end Go.Proofs.YteedmmljahgpjabDoor

/-
  The writer: a guard.
-/
namespace Go.Proofs.YteedmmljahgpjabDoor
open Go.RowKit
set_option linter.unusedVariables false
set_option linter.unusedSimpArgs false
def rowZ (r : RowM) : List Int := [r.k, r.o, r.i] ++ (hasL r).map Sp.len
def gdZ (g : GdM) : List Int := [g.wh.len, (g.rs.length : Int)] ++ (g.rs.map rowZ).flatten
theorem Wr.drop {w0 V : World} {b : Nat} {zs : List Int} : ∀ {bq bs : List (Nat × Nat × Array Value)}, Wr w0 V b (bq ++ bs) zs → Wr w0 V b bs zs
  | [], _, h => h
  | _ :: bq, _, h => Wr.drop (bq := bq) h.less
theorem rowZ_le (r : RowM) : (rowZ r).length ≤ 7 := by
  have h := hasI_le r 4 (by omega)
  have h2 : (hasL r).length ≤ 4 := h
  unfold rowZ
  rw [List.length_append, List.length_map]
  simp only [List.length_cons, List.length_nil]
  omega
theorem rowsZ_le : ∀ l : List RowM, ((l.map rowZ).flatten).length ≤ 7 * l.length
  | [] => by simp
  | r :: l => by
    have := rowZ_le r
    have := rowsZ_le l
    simp only [List.map_cons, List.flatten_cons, List.length_append, List.length_cons]
    omega
set_option maxRecDepth 100000 in
set_option maxHeartbeats 4000000 in
theorem wguard_any (b : Nat) (g : GdM) (zs : List Int) (bs : List (Nat × Nat × Array Value)) (w : World) (w0 : World) (h : Wr w0 w b bs zs) (hg : GdL w0 g) (hb : GdB g) (hi : ∀ r ∈ g.rs, 0 ≤ r.i) (hz : zs.length + 1000 ≤ 1000000) : Calls Tryd.prog 27 #[.pointer (some ⟨b, 0, none⟩), .agg g.vals] w fun e w' => e = .returned (.tuple #[]) ∧ Wr w0 w' b bs (zs ++ gdZ g) := by
  have hb1 := below_new w (.cells g.vals 51)
  have hn1 := heap_new w (.cells g.vals 51)
  obtain ⟨W1, e1⟩ : ∃ W, w.alloc (.cells g.vals 51) = W := ⟨_, rfl⟩
  have E1 : Hid (w.alloc (.cells g.vals 51) = W1) := e1
  rw [e1] at hb1 hn1
  have HB1 : Hid (Below w.heap.size w W1) := hb1
  have HN1 : Hid (W1.heap[w.heap.size]? = some (.cells g.vals 51 (0, 0))) := hn1
  have HS1 : Hid (W1.heap.size = w.heap.size + 1) := by show _ = _; rw [← e1]; exact size_alloc _ _
  clear hb1 e1 hn1
  have HSL : Hid (SlAt w0 11 g.a g.c (g.rs.map RowM.vals)) := hg.2.2.2.1
  have HRI : Hid (∀ r ∈ g.rs, RowI r ∧ 0 ≤ r.i ∧ ∀ x ∈ hasL r, LenW x) := fun r hr => ⟨hg.2.2.2.2 r hr, hi r hr, hb.2.2 r hr⟩
  have HW1 : Hid (Wr w0 W1 b ((w.heap.size, 51, g.vals) :: bs) zs) := h.add HB1.out _ _ _ (Nat.le_refl _) HN1.out
  have HLZ : Hid (zs.length + 1000 ≤ 1000000) := hz
  obtain ⟨hl0, hl1⟩ := hb.1
  have h8 := hb.2.1
  have HFA : Hid (∀ v : World, v.heap[w.heap.size]? = some (.cells g.vals 51 (0, 0)) → v.cell? ⟨w.heap.size, 0, none⟩ = some (.int .i64 g.wh.f) ∧ v.cell? ⟨w.heap.size, 1, none⟩ = some (.int .i64 g.wh.t) ∧ v.cell? ⟨w.heap.size, 4, none⟩ = some (.slice g.a g.rs.length g.c)) := fun v hv => ⟨cell_of hv 0, cell_of hv 1, cell_of hv 4⟩
  have cL := length_any g.wh ⟨by omega, by omega⟩ W1.drew
  unfold Sp.vals at cL
  obtain ⟨GZ, eGZ⟩ : ∃ q, gdZ g = q := ⟨_, rfl⟩
  have HGZ : Hid (GZ = [g.wh.len, (g.rs.length : Int)] ++ (g.rs.map rowZ).flatten) := eGZ.symm
  rw [eGZ]
  obtain ⟨WL, eWL⟩ : ∃ q, g.wh.len = q := ⟨_, rfl⟩
  rw [eWL] at cL HGZ hl0 hl1
  clear hg hi hb h hz eGZ eWL
  go_enter Tryd.func27, Tryd.ntmps27
  go_upto_region 1 with fail
  rw [E1.out]
  clear E1
  refine wp_region_held_drew (S := fun v => v.heap[w.heap.size]? = some (.cells g.vals 51 (0, 0))) (by kernel_rfl) HN1.out (fun hHeld => ?_)
  refine wpAnyH_take (i := 0) (v := ?_) rfl (by kernel_rfl) (by kernel_rfl) (by kernel_rfl) (fun _ _ _ h => h) (Or.inl ⟨by rfl, ?_⟩) (by assumption) ?_
  rotate_left
  · (intro v hv; go_simp; try (with_reducible rfl))
  try simp [Act.put]
  refine wpAnyH_take (i := 1) (v := ?_) rfl (by kernel_rfl) (by kernel_rfl) (by kernel_rfl) (fun _ _ _ h => h) (Or.inl ⟨by rfl, ?_⟩) (by assumption) ?_
  rotate_left
  · (intro v hv; go_simp; try (with_reducible rfl))
  try simp [Act.put]
  refine wpAnyH_take (i := 2) (v := ?_) rfl (by kernel_rfl) (by kernel_rfl) (by kernel_rfl) (fun _ _ _ h => h) (Or.inl ⟨by rfl, ?_⟩) (by assumption) ?_
  rotate_left
  · (intro v hv; obtain ⟨a0, a1, a4⟩ := HFA.out v hv; go_simp; try (with_reducible rfl))
  try simp [Act.put]
  refine wpAnyH_take (i := 4) (v := ?_) rfl (by kernel_rfl) (by kernel_rfl) (by kernel_rfl) (fun _ _ _ h => h) (Or.inl ⟨by rfl, ?_⟩) (by assumption) ?_
  rotate_left
  · (intro v hv; go_simp; try (with_reducible rfl))
  try simp [Act.put]
  refine wpAnyH_take (i := 5) (v := ?_) rfl (by kernel_rfl) (by kernel_rfl) (by kernel_rfl) (fun _ _ _ h => h) (Or.inl ⟨by rfl, ?_⟩) (by assumption) ?_
  rotate_left
  · (intro v hv; obtain ⟨a0, a1, a4⟩ := HFA.out v hv; go_simp; try (with_reducible rfl))
  try simp [Act.put]
  refine wpAnyH_take (i := 6) (v := ?_) rfl (by kernel_rfl) (by kernel_rfl) (by kernel_rfl) (fun _ _ _ h => h) (Or.inl ⟨by rfl, ?_⟩) (by assumption) ?_
  rotate_left
  · (intro v hv; go_simp; try (with_reducible rfl))
  try simp [Act.put]
  refine wpAnyH_ready (rs := [3]) (by kernel_rfl) (by simp) ?_
  refine AllReadyH.cons rfl (fun K hK => ?_) AllReadyH.nil
  go_simp
  refine cL.mono ?_
  rintro e w3 ⟨rfl, hb3⟩
  have hb3' : Below W1.heap.size W1 w3 := ⟨hb3.os, hb3.tape, hb3.output, hb3.size, hb3.block⟩
  have hW3 := HW1.out.on hb3'
  refine hK.out _ _ hW3.box (fun hHeld => ?_)
  clear hK K cL hb3
  try simp [Act.put]
  have HW4 : Hid (Wr w0 (w3.alloc (.cells (iA [WL, (g.rs.length : Int)]) 3)) b ((w3.heap.size, 3, iA [WL, (g.rs.length : Int)]) :: (w.heap.size, 51, g.vals) :: bs) zs) := hW3.add (below_new _ _) _ _ _ (Nat.le_refl _) (heap_new _ _)
  have cP := wput_any b w3.heap.size [WL, (g.rs.length : Int)] zs ((w.heap.size, 51, g.vals) :: bs) (w3.alloc (.cells (iA [WL, (g.rs.length : Int)]) 3)) w0 HW4.out (by intro n hn; simp only [List.mem_cons, List.not_mem_nil, or_false] at hn; omega) (by simp only [List.length_cons, List.length_nil]; have := HLZ.out; omega)
  refine wpAnyH_ready (rs := [7]) (by kernel_rfl) (by simp) ?_
  refine AllReadyH.cons rfl (fun K hK => ?_) AllReadyH.nil
  go_simp
  refine hK.out _ _ HW4.out.less.box (fun hHeld => ?_)
  clear hK K
  try simp [Act.put]
  refine wpAnyH_ready (rs := [8]) (by kernel_rfl) (by simp) ?_
  refine AllReadyH.cons rfl (fun K hK => ?_) AllReadyH.nil
  go_simp
  refine cP.mono ?_
  rintro e w5 ⟨rfl, hw5⟩
  refine hK.out _ _ hw5.less.box (fun hHeld => ?_)
  clear hK K cP
  try simp [Act.put]
  refine wpAnyH_done (by kernel_rfl) ?_ _
  have HW5 : Hid (Wr w0 w5 b bs (zs ++ [WL, (g.rs.length : Int)] ++ ((g.rs.take 0).map rowZ).flatten)) := by show Wr _ _ _ _ _; have := hw5.less.less; simpa using this
  have d4 := (HFA.out w5 hw5.less.box).2.2
  obtain ⟨rs, ers⟩ : ∃ q, g.rs = q := ⟨_, rfl⟩
  obtain ⟨ra, era⟩ : ∃ q, g.a = q := ⟨_, rfl⟩
  rw [ers, era] at HSL d4
  rw [ers] at HW5 HRI HGZ h8
  obtain ⟨Z0, eZ0⟩ : ∃ q, zs ++ [WL, (rs.length : Int)] = q := ⟨_, rfl⟩
  have HZ0 : Hid (zs ++ GZ = Z0 ++ (rs.map rowZ).flatten ∧ Z0.length + 900 ≤ 1000000) := ⟨by rw [HGZ.out, ← eZ0, List.append_assoc], by rw [← eZ0, List.length_append]; simp only [List.length_cons, List.length_nil]; have := HLZ.out; omega⟩
  rw [eZ0] at HW5
  clear hw5 HW4 hW3 hb3' HW1 HFA HB1 HN1 HS1 eZ0 ers era hHeld
  go_wp2_with fail
  go_loopw [20] (fun q wr => ∃ (i : Nat), i ≤ rs.length ∧ q = .int .i64 i ∧ Hid (Wr w0 wr b bs (Z0 ++ ((rs.take i).map rowZ).flatten))) (fun q _ => rs.length - (intOf q).toNat)
  case atStart => exact ⟨0, by omega, rfl, HW5⟩
  case round =>
    obtain ⟨i, hi, rfl, HWR⟩ := hrel
    by_cases hlt : i < rs.length
    · have hlt' : (i : Int) < (rs.length : Int) := by omega
      have hmx : (i : Int) + 1 ≤ 9223372036854775807 := by have h1 := HSL.out.1; have h2 := HSL.out.2.1; rw [List.length_map] at h1; omega
      obtain ⟨bb, o, ea, hat⟩ := (HSL.out.on (mapz RowM.sz _) HWR.out.below).2.2 i (by rw [List.length_map]; exact hlt)
      simp only [List.getElem_map] at hat
      have HMEM : Hid (rs[i] ∈ rs) := List.getElem_mem hlt
      have HD : Hid (((rs.take (i + 1)).map rowZ).flatten = ((rs.take i).map rowZ).flatten ++ rowZ rs[i]) := by show _ = _; rw [List.take_succ_eq_append_getElem hlt, List.map_append, List.flatten_append, List.map_singleton, List.flatten_singleton]
      obtain ⟨d, ed⟩ : ∃ d, rs[i] = d := ⟨_, rfl⟩
      rw [ed] at hat HMEM HD
      have HRG : Hid (wr.rangeAt bb (o + i * 11) d.vals.toList) := fun j v hv => by
        have hj : j < 11 := (List.getElem?_eq_some_iff.1 hv).1
        rw [hat j hj, ← hv]; simp
      have HZ : Hid ((wr.alloc (.cells #[.int .u8 0, .int .u8 0, .int .i64 0, .int .i64 0, .int .i64 0, .int .i64 0, .int .i64 0, .int .i64 0, .int .i64 0, .int .i64 0, .int .i64 0] 72)).heap[wr.heap.size]? = some (.cells #[.int .u8 0, .int .u8 0, .int .i64 0, .int .i64 0, .int .i64 0, .int .i64 0, .int .i64 0, .int .i64 0, .int .i64 0, .int .i64 0, .int .i64 0] 72 (0, 0))) := heap_new _ _
      have HWX : Hid (Below wr.heap.size wr ((wr.alloc (.cells #[.int .u8 0, .int .u8 0, .int .i64 0, .int .i64 0, .int .i64 0, .int .i64 0, .int .i64 0, .int .i64 0, .int .i64 0, .int .i64 0, .int .i64 0] 72)).setRow wr.heap.size d.vals)) := below_row (below_new _ _) (Nat.le_refl _) _
      have HNX : Hid (((wr.alloc (.cells #[.int .u8 0, .int .u8 0, .int .i64 0, .int .i64 0, .int .i64 0, .int .i64 0, .int .i64 0, .int .i64 0, .int .i64 0, .int .i64 0, .int .i64 0] 72)).setRow wr.heap.size d.vals).heap[wr.heap.size]? = some (.cells d.vals 72 (0, 0))) := setRow_heap _ _ _ _ _ _ HZ.out
      subst ea
      clear hat ed
      go_upto_region 5 with (first | (refine wpList_load_mid rfl 72 (.tmp 22) rfl bb (o + i * 11) rfl d.vals.toList _ HRG.out Tryd.underlying72 rfl (by show _ = some 11; exact size85') ?_; rw [Array.toArray_toList]) | (refine wpList_store_row rfl 72 (.tmp 5) (.tmp 23) rfl wr.heap.size d.vals rfl rfl 72 #[.int .u8 0, .int .u8 0, .int .i64 0, .int .i64 0, .int .i64 0, .int .i64 0, .int .i64 0, .int .i64 0, .int .i64 0, .int .i64 0, .int .i64 0] HZ.out size85' rfl (allRow d) ?_))
      generalize World.setRow _ _ _ = WX at HWX HNX ⊢
      clear HZ HRG
      have HWX2 : Hid (Wr w0 WX b ((wr.heap.size, 72, d.vals) :: bs) (Z0 ++ ((rs.take i).map rowZ).flatten)) := HWR.out.add HWX.out _ _ _ (Nat.le_refl _) HNX.out
      obtain ⟨hri, hii, hlw⟩ := HRI.out d HMEM.out
      have HLW : Hid (∀ x ∈ hasL d, LenW x) := hlw
      obtain ⟨⟨hk0, hk1⟩, ⟨ho0, ho1⟩, ⟨_, hi1⟩, _⟩ := hri
      have hll := rowsZ_le (rs.take i)
      rw [List.length_take] at hll
      obtain ⟨Z1, eZ1⟩ : ∃ q, Z0 ++ ((rs.take i).map rowZ).flatten = q := ⟨_, rfl⟩
      have HZ1 : Hid (Z0 ++ ((rs.take (i + 1)).map rowZ).flatten = Z1 ++ ([d.k, d.o, d.i] ++ (hasL d).map Sp.len) ∧ Z1.length + 100 ≤ 1000000) := ⟨by rw [HD.out, ← List.append_assoc, eZ1]; rfl, by rw [← eZ1, List.length_append]; have := HZ0.out.2; omega⟩
      rw [eZ1] at HWX2
      have x0 : WX.cell? ⟨wr.heap.size, 0, none⟩ = some (.int .u8 d.k) := cell_of HNX.out 0
      have x1 : WX.cell? ⟨wr.heap.size, 1, none⟩ = some (.int .u8 d.o) := cell_of HNX.out 1
      have x2 : WX.cell? ⟨wr.heap.size, 2, none⟩ = some (.int .i64 d.i) := cell_of HNX.out 2
      have HW4 : Hid (Wr w0 (WX.alloc (.cells (iA [d.k, d.o, d.i]) 3)) b ((WX.heap.size, 3, iA [d.k, d.o, d.i]) :: (wr.heap.size, 72, d.vals) :: bs) Z1) := HWX2.out.add (below_new _ _) _ _ _ (Nat.le_refl _) (heap_new _ _)
      have cP := wput_any b WX.heap.size [d.k, d.o, d.i] Z1 ((wr.heap.size, 72, d.vals) :: bs) (WX.alloc (.cells (iA [d.k, d.o, d.i]) 3)) w0 HW4.out (by intro n hn; simp only [List.mem_cons, List.not_mem_nil, or_false] at hn; omega) (by simp only [List.length_cons, List.length_nil]; have := HZ1.out.2; omega)
      clear HWR HMEM HNX HWX hlw eZ1 hll HW4 HD
      go_wp2_with fail
      refine cP.mono ?_
      rintro e w5 ⟨rfl, hw5⟩
      have HW6 : Hid (Wr w0 w5 b ((wr.heap.size, 72, d.vals) :: bs) (Z1 ++ [d.k, d.o, d.i])) := hw5.less
      have HN6 : Hid (w5.heap[wr.heap.size]? = some (.cells d.vals 72 (0, 0))) := HW6.out.box
      have cH := has_any d w5
      have hl4 := hasI_le d 4 (by omega)
      obtain ⟨sp, esp⟩ : ∃ q, hasL d = q := ⟨_, rfl⟩
      rw [esp] at cH HLW HZ1
      have hsp4 : sp.length ≤ 4 := by rw [← esp]; exact hl4
      clear cP hw5 x0 x1 x2 HWX2 esp hl4
      go_wp2_with (refine wpList_load_row rfl 72 (.tmp 5) rfl wr.heap.size rfl 72 d.vals (0, 0) _ HN6.out Tryd.underlying72 rfl size85' ?_)
      refine cH.mono ?_
      rintro e w7 ⟨ua, uc, rfl, hU, hnil, hfr, hb7⟩
      have HU : Hid (SlAt w7 2 ua uc (sp.map Sp.vals)) := hU
      obtain ⟨bq, hbq, hkeep⟩ : ∃ bq : List (Nat × Nat × Array Value), Wr w0 w7 b (bq ++ bs) (Z1 ++ [d.k, d.o, d.i] ++ (sp.take 0).map Sp.len) ∧ ∀ V : World, ∀ zs', Wr w0 V b (bq ++ bs) zs' → SlAt V 2 ua uc (sp.map Sp.vals) := by
        have hw7 := HW6.out.less.on hb7
        cases hua : ua with
        | none =>
          refine ⟨[], by simpa using hw7, fun V zs' _ => ?_⟩
          rw [hua] at hU
          exact hU.blk fun b o e => by cases e
        | some ad =>
          obtain ⟨ab, ao, az⟩ := ad
          cases az with
          | some z0 =>
            refine ⟨[], by simpa using hw7, fun V zs' _ => ?_⟩
            rw [hua] at hU
            exact hU.blk fun b o e => by cases e
          | none =>
            obtain ⟨h1, cur, h2⟩ := hfr ab ao hua
            refine ⟨[(ab, 48, cur)], ?_, fun V zs' hV => ?_⟩
            · have := HW6.out.less.add hb7 ab 48 cur h1 h2
              simpa using this
            · rw [hua] at hU
              refine hU.blk fun b o e => ?_
              have hab : ab = b := by injection e with e; injection e
              subst hab
              rw [h2]
              exact hV.box
      have HKP : Hid (∀ V : World, ∀ zs', Wr w0 V b (bq ++ bs) zs' → SlAt V 2 ua uc (sp.map Sp.vals)) := hkeep
      have HWQ : Hid (Wr w0 w7 b (bq ++ bs) (Z1 ++ [d.k, d.o, d.i] ++ (sp.take 0).map Sp.len)) := hbq
      clear cH hU hnil hfr hb7 hbq hkeep HW6 HN6
      go_wp2_with fail
      go_loopw [38] (fun q wr => ∃ (j : Nat), j ≤ sp.length ∧ q = .int .i64 j ∧ Hid (Wr w0 wr b (bq ++ bs) (Z1 ++ [d.k, d.o, d.i] ++ (sp.take j).map Sp.len))) (fun q _ => sp.length - (intOf q).toNat)
      case atStart => exact ⟨0, by omega, rfl, HWQ⟩
      case round =>
        obtain ⟨j, hj, rfl, HW2⟩ := hrel
        by_cases hltj : j < sp.length
        · have HU2 : Hid (SlAt wr 2 ua uc (sp.map Sp.vals)) := HKP.out wr _ HW2.out
          have hltj' : (j : Int) < (sp.length : Int) := by omega
          have hmxj : (j : Int) + 1 ≤ 9223372036854775807 := by have h1 := HU2.out.1; have h2 := HU2.out.2.1; rw [List.length_map] at h1; omega
          obtain ⟨b2, o2, ea, hat⟩ := (HU2.out.on (mapz Sp.sz _) (Below.refl _ _)).2.2 j (by rw [List.length_map]; exact hltj)
          simp only [List.getElem_map] at hat
          have HMEM : Hid (sp[j] ∈ sp) := List.getElem_mem hltj
          have HD2 : Hid ((sp.take (j + 1)).map Sp.len = (sp.take j).map Sp.len ++ [sp[j].len]) := by show _ = _; rw [List.take_succ_eq_append_getElem hltj, List.map_append]; rfl
          obtain ⟨y, ed⟩ : ∃ y, sp[j] = y := ⟨_, rfl⟩
          rw [ed] at hat HMEM HD2
          have HRG : Hid (wr.rangeAt b2 (o2 + j * 2) y.vals.toList) := fun j9 v hv => by
            have hj9 : j9 < 2 := (List.getElem?_eq_some_iff.1 hv).1
            rw [hat j9 hj9, ← hv]; simp
          have HZ : Hid ((wr.alloc (.cells #[.int .i64 0, .int .i64 0] 48)).heap[wr.heap.size]? = some (.cells #[.int .i64 0, .int .i64 0] 48 (0, 0))) := heap_new _ _
          have HWX : Hid (Below wr.heap.size wr ((wr.alloc (.cells #[.int .i64 0, .int .i64 0] 48)).setRow wr.heap.size y.vals)) := below_row (below_new _ _) (Nat.le_refl _) _
          have HNX : Hid (((wr.alloc (.cells #[.int .i64 0, .int .i64 0] 48)).setRow wr.heap.size y.vals).heap[wr.heap.size]? = some (.cells y.vals 48 (0, 0))) := setRow_heap _ _ _ _ _ _ HZ.out
          subst ea
          clear hat ed
          go_upto_region 9 with (first | (refine wpList_load_mid rfl 48 (.tmp 40) rfl b2 (o2 + j * 2) rfl y.vals.toList _ HRG.out Tryd.underlying48 rfl (by show _ = some 2; exact size65') ?_; rw [Array.toArray_toList]) | (refine wpList_store_row rfl 48 (.tmp 7) (.tmp 41) rfl wr.heap.size y.vals rfl rfl 48 #[.int .i64 0, .int .i64 0] HZ.out size65' rfl (allSp y) ?_))
          generalize World.setRow _ _ _ = WX at HWX HNX ⊢
          clear HZ HRG
          have HWX2 : Hid (Wr w0 WX b (bq ++ bs) (Z1 ++ [d.k, d.o, d.i] ++ (sp.take j).map Sp.len)) := HW2.out.on HWX.out
          obtain ⟨hy0, hy1⟩ := HLW.out y HMEM.out
          have cL := length_any y ⟨by omega, by omega⟩ WX
          obtain ⟨YL, eYL⟩ : ∃ q, y.len = q := ⟨_, rfl⟩
          rw [eYL] at cL HD2 hy0 hy1
          clear HW2 HMEM eYL
          go_wp2_with (refine wpList_load_row rfl 48 (.tmp 7) rfl wr.heap.size rfl 48 y.vals (0, 0) _ HNX.out Tryd.underlying48 rfl size65' ?_)
          refine cL.mono ?_
          rintro e w8 ⟨rfl, hb8⟩
          have HW8 : Hid (Wr w0 w8 b (bq ++ bs) (Z1 ++ [d.k, d.o, d.i] ++ (sp.take j).map Sp.len)) := HWX2.out.on hb8
          have HW9 : Hid (Wr w0 (w8.alloc (.cells (iA [YL]) 3)) b ((w8.heap.size, 3, iA [YL]) :: (bq ++ bs)) (Z1 ++ [d.k, d.o, d.i] ++ (sp.take j).map Sp.len)) := HW8.out.add (below_new _ _) _ _ _ (Nat.le_refl _) (heap_new _ _)
          have cP := wput_any b w8.heap.size [YL] (Z1 ++ [d.k, d.o, d.i] ++ (sp.take j).map Sp.len) (bq ++ bs) (w8.alloc (.cells (iA [YL]) 3)) w0 HW9.out (by intro n hn; rw [List.mem_singleton] at hn; omega) (by simp only [List.length_append, List.length_map, List.length_take, List.length_cons, List.length_nil]; have := HZ1.out.2; omega)
          clear cL hb8 HNX HWX HWX2 HW9
          go_wp2_with (refine wpList_slice1v rfl 104 3 (.tmp 44) rfl (iA [YL]) (.int .i64 YL) rfl rfl 1 _ Tryd.underlying104 8 inf3 rfl rfl (by decide) (by decide) ?_)
          refine cP.mono ?_
          rintro e w9 ⟨rfl, hw9⟩
          have HWZ : Hid (Wr w0 w9 b (bq ++ bs) (Z1 ++ [d.k, d.o, d.i] ++ (sp.take (j + 1)).map Sp.len)) := by have := hw9.less; show Wr _ _ _ _ _; rw [HD2.out, ← List.append_assoc]; exact this
          clear cP hw9 HW8
          go_wp2_with fail
          exact ⟨⟨j + 1, hltj, rfl, HWZ⟩, by simp only [intOf]; omega⟩
        · obtain rfl : j = sp.length := by omega
          have hnot : ¬ (sp.length : Int) < (sp.length : Int) := by omega
          have HWZ : Hid (Wr w0 wr b bs (Z0 ++ ((rs.take (i + 1)).map rowZ).flatten)) := by
            have hh := HW2.out
            rw [List.take_length, List.append_assoc, ← HZ1.out.1] at hh
            exact hh.drop
          go_wp2_with fail
          exact ⟨⟨i + 1, hlt, rfl, HWZ⟩, by simp only [intOf]; omega⟩
    · obtain rfl : i = rs.length := by omega
      have hnot : ¬ (rs.length : Int) < (rs.length : Int) := by omega
      have HE : Hid (Wr w0 wr b bs (zs ++ GZ)) := by have := HWR.out; rw [List.take_length, ← HZ0.out.1] at this; exact this
      go_wp2_with fail
      go_end0
      exact ⟨rfl, HE.out⟩
end Go.Proofs.YteedmmljahgpjabDoor
