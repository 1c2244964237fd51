import Derived.Test.YteedmmljahgpjabDoorM10
import Derived.Great.BuildSlice
/-
  What is wrong with a table: Check.
-/
namespace Go.Proofs.YteedmmljahgpjabDoor
open Go.RowKit
set_option linter.unusedVariables false
set_option linter.unusedSimpArgs false
def gdsE (t : TbM) : (Nat → Int) → List GdM → Int × (Nat → Int)
  | h, [] => (0, h)
  | h, g :: l => if (gdE t h g).1 == 0 then gdsE t (gdE t h g).2 l else gdE t h g
def stsE (t : TbM) : (Nat → Int) → List StM → Int × (Nat → Int)
  | h, [] => (0, h)
  | h, s :: l => if (gdsE t h s.gs).1 == 0 then stsE t (gdsE t h s.gs).2 l else gdsE t h s.gs
def checkE (t : TbM) : Int := if formB t then (stsE t (fun _ => 0) t.ts).1 else 190
theorem liesN_w : ∀ (l : List Sp) (p q : Int), liesN p l = some q → 0 ≤ p → p ≤ q ∧ ∀ x ∈ l, 0 ≤ x.f ∧ x.f < x.t ∧ x.t ≤ q
  | [], p, q, h, h0 => by
    have : p = q := Option.some.inj h
    exact ⟨by omega, fun x hx => by simp at hx⟩
  | y :: l, p, q, h, h0 => by
    unfold liesN at h
    split at h
    · cases h
    · rename_i hc
      simp only [Bool.or_eq_true, bne_iff_ne, ne_eq, decide_eq_true_eq, not_or, Decidable.not_not] at hc
      obtain ⟨h1, h2⟩ := liesN_w l y.t q h (by omega)
      refine ⟨by omega, fun x hx => ?_⟩
      rcases List.mem_cons.1 hx with rfl | hx
      · omega
      · exact h2 x hx
theorem gdsN_w (sl : Int) (nr ns : Nat) : ∀ (l : List GdM) (p q : Int), gdsN sl nr ns p l = some q → 0 ≤ p → p ≤ q ∧ ∀ g ∈ l, ∀ x ∈ gSp g, 0 ≤ x.f ∧ x.f < x.t ∧ x.t ≤ q
  | [], p, q, h, h0 => by
    have : p = q := Option.some.inj h
    exact ⟨by omega, fun x hx => by simp at hx⟩
  | y :: l, p, q, h, h0 => by
    unfold gdsN at h
    obtain ⟨r, hr, h⟩ := Option.bind_eq_some_iff.1 h
    unfold gdN at hr
    split at hr
    · obtain ⟨h1, h2⟩ := liesN_w _ p r hr h0
      obtain ⟨h3, h4⟩ := gdsN_w sl nr ns l r q h (by omega)
      refine ⟨by omega, fun g hg x hx => ?_⟩
      rcases List.mem_cons.1 hg with rfl | hg
      · have := h2 x hx; omega
      · exact h4 g hg x hx
    · cases hr
theorem stsN_w (sl : Int) (nr ns : Nat) : ∀ (l : List StM) (p q : Int), stsN sl nr ns p l = some q → 0 ≤ p → p ≤ q ∧ ∀ s ∈ l, ∀ g ∈ s.gs, ∀ x ∈ gSp g, 0 ≤ x.f ∧ x.f < x.t ∧ x.t ≤ q
  | [], p, q, h, h0 => by
    have : p = q := Option.some.inj h
    exact ⟨by omega, fun x hx => by simp at hx⟩
  | y :: l, p, q, h, h0 => by
    unfold stsN at h
    split at h
    · cases h
    · obtain ⟨r, hr, h⟩ := Option.bind_eq_some_iff.1 h
      obtain ⟨h1, h2⟩ := gdsN_w sl nr ns _ p r hr h0
      obtain ⟨h3, h4⟩ := stsN_w sl nr ns l r q h (by omega)
      refine ⟨by omega, fun s hs g hg x hx => ?_⟩
      rcases List.mem_cons.1 hs with rfl | hs
      · have := h2 g hg x hx; omega
      · exact h4 s hs g hg x hx
theorem form_w {t : TbM} (h : formB t = true) : (t.rs.length ≤ 12 ∧ t.cs.length ≤ 1024 ∧ t.ds.length ≤ 4096) ∧ ∀ s ∈ t.ts, ∀ g ∈ s.gs, GdW t g := by
  unfold formB at h
  rw [Bool.and_eq_true, Bool.and_eq_true] at h
  obtain ⟨⟨_, h2⟩, h3⟩ := h
  constructor
  · unfold sizesB at h2
    simp only [Bool.and_eq_true, decide_eq_true_eq] at h2
    omega
  · unfold endB at h3
    split at h3
    · rename_i q hq
      have hq2 : q = (t.ds.length : Int) := by simpa using h3
      obtain ⟨_, h4⟩ := stsN_w _ _ _ _ 0 q hq (by omega)
      intro s hs g hg x hx
      have := h4 s hs g hg x hx
      unfold SpW
      omega
    · cases h3
set_option maxRecDepth 100000 in
set_option maxHeartbeats 4000000 in
theorem check_m (C : Nat) (t : TbM) (h : Nat → Int) (w : World) (w0 : World) (hc : Cx w0 C t w h) (hw : ∀ s ∈ t.ts, ∀ g ∈ s.gs, GdW t g) (hs : t.rs.length ≤ 12 ∧ t.cs.length ≤ 1024 ∧ t.ds.length ≤ 4096) : Calls Tryd.prog 20 #[.pointer (some ⟨C, 0, none⟩)] w fun e w' => e = .returned (.int .i64 (stsE t h t.ts).1) ∧ Mv w w' (fun k => k = C) := by
  obtain ⟨R, eR⟩ : ∃ R, stsE t h t.ts = R := ⟨_, rfl⟩
  rw [eR]
  have HX : Hid (R = stsE t h (t.ts.drop 0)) := eR.symm
  have HTT : Hid (SlAt w0 1 t.ta t.tc (t.ts.map StM.vals)) := hc.T.T
  have HTI : Hid (∀ s ∈ t.ts, StL w0 s) := hc.T.Ti
  have HC0 : Hid (Cx w0 C t w h) := hc
  have HGW : Hid (∀ s ∈ t.ts, ∀ g ∈ s.gs, GdW t g) := hw
  have HSZ : Hid (t.rs.length ≤ 12 ∧ t.cs.length ≤ 1024 ∧ t.ds.length ≤ 4096) := hs
  have c5 := hc.K.c5
  obtain ⟨ta, eta⟩ : ∃ q, t.ta = q := ⟨_, rfl⟩
  rw [eta] at c5 HTT
  clear eR hc hw hs eta
  go_enter Tryd.func20, Tryd.ntmps20
  go_wp2_with fail
  go_loopw [14] (fun q wr => ∃ (i : Nat) (g : Nat → Int), i ≤ t.ts.length ∧ q = .int .i64 i ∧ Hid (Cx w0 C t wr g) ∧ Hid (Mv w wr (fun k => k = C)) ∧ Hid (R = stsE t g (t.ts.drop i))) (fun q _ => t.ts.length - (intOf q).toNat)
  case atStart => exact ⟨0, h, by omega, rfl, HC0, Mv.refl _ _, HX⟩
  case round =>
    obtain ⟨i, g, hi, rfl, HCR, HMR, HRR⟩ := hrel
    by_cases hlt : i < t.ts.length
    · rename World => V
      have hlt' : (i : Int) < (t.ts.length : Int) := by omega
      have hmx : (i : Int) + 1 ≤ 9223372036854775807 := by have h1 := HTT.out.1; have h2 := HTT.out.2.1; rw [List.length_map] at h1; omega
      obtain ⟨bb, o, ea, hat⟩ := (HTT.out.on (mapz StM.sz _) HCR.out.B).2.2 i (by rw [List.length_map]; exact hlt)
      simp only [List.getElem_map] at hat
      have hsl := HTI.out t.ts[i] (List.getElem_mem hlt)
      have hgw := HGW.out t.ts[i] (List.getElem_mem hlt)
      have HD : Hid (R = if (gdsE t g t.ts[i].gs).1 == 0 then stsE t (gdsE t g t.ts[i].gs).2 (t.ts.drop (i + 1)) else gdsE t g t.ts[i].gs) := by show _ = _; rw [HRR.out, List.drop_eq_getElem_cons hlt]; rfl
      obtain ⟨s, es⟩ : ∃ s, t.ts[i] = s := ⟨_, rfl⟩
      rw [es] at hat hsl HD hgw
      have hcc := hat 0 (by omega)
      have cs : V.cell? ⟨bb, o + i, none⟩ = some (.slice s.a s.gs.length s.c) := by rw [Nat.mul_one, Nat.add_zero] at hcc; exact hcc
      have HSG : Hid (SlAt w0 5 s.a s.c (s.gs.map GdM.vals)) := hsl.1
      have HGI : Hid (∀ g ∈ s.gs, GdL w0 g) := hsl.2
      have HGG : Hid (∀ g ∈ s.gs, GdW t g) := hgw
      subst ea
      clear hat es hcc hsl HRR hgw
      obtain ⟨gs, egs⟩ : ∃ q, s.gs = q := ⟨_, rfl⟩
      obtain ⟨sa, esa⟩ : ∃ q, s.a = q := ⟨_, rfl⟩
      rw [egs, esa] at HSG cs
      rw [egs] at HGI HD HGG
      obtain ⟨RR2, eRR⟩ : ∃ q, gdsE t g gs = q := ⟨_, rfl⟩
      have HR0 : Hid (RR2 = gdsE t g (gs.drop 0)) := by show _ = _; rw [← eRR]; rfl
      rw [eRR] at HD
      clear egs esa eRR
      go_wp2_with fail
      go_loopw [20] (fun q wr => ∃ (j : Nat) (g2 : Nat → Int), j ≤ gs.length ∧ q = .int .i64 j ∧ Hid (Cx w0 C t wr g2) ∧ Hid (Mv w wr (fun k => k = C)) ∧ Hid (RR2 = gdsE t g2 (gs.drop j))) (fun q _ => gs.length - (intOf q).toNat)
      case atStart => exact ⟨0, g, by omega, rfl, HCR, HMR, HR0⟩
      case round =>
        obtain ⟨j, g2, hj, rfl, HC2, HM2, HR2⟩ := hrel
        have HBR : Hid (Below w0.heap.size w0 wr) := HC2.out.B
        by_cases hltj : j < gs.length
        · have hltj' : (j : Int) < (gs.length : Int) := by omega
          have hmxj : (j : Int) + 1 ≤ 9223372036854775807 := by have h1 := HSG.out.1; have h2 := HSG.out.2.1; rw [List.length_map] at h1; omega
          obtain ⟨b2, o2, ea, hat⟩ := (HSG.out.on (mapz GdM.sz _) HBR.out).2.2 j (by rw [List.length_map]; exact hltj)
          simp only [List.getElem_map] at hat
          have HMEM : Hid (gs[j] ∈ gs) := List.getElem_mem hltj
          have HD2 : Hid (RR2 = if (gdE t g2 gs[j]).1 == 0 then gdsE t (gdE t g2 gs[j]).2 (gs.drop (j + 1)) else gdE t g2 gs[j]) := by show _ = _; rw [HR2.out, List.drop_eq_getElem_cons hltj]; rfl
          obtain ⟨d, ed⟩ : ∃ d, gs[j] = d := ⟨_, rfl⟩
          rw [ed] at hat HMEM HD2
          have HRG : Hid (wr.rangeAt b2 (o2 + j * 5) d.vals.toList) := fun j9 v hv => by
            have hj9 : j9 < 5 := (List.getElem?_eq_some_iff.1 hv).1
            rw [hat j9 hj9, ← hv]; simp
          have HZ : Hid ((wr.alloc (.cells #[.int .i64 0, .int .i64 0, .int .u16 0, .int .u16 0, .slice none 0 0] 51)).heap[wr.heap.size]? = some (.cells #[.int .i64 0, .int .i64 0, .int .u16 0, .int .u16 0, .slice none 0 0] 51 (0, 0))) := heap_new _ _
          have HWX : Hid (Below wr.heap.size wr ((wr.alloc (.cells #[.int .i64 0, .int .i64 0, .int .u16 0, .int .u16 0, .slice none 0 0] 51)).setRow wr.heap.size d.vals)) := below_row (below_new _ _) (Nat.le_refl _) _
          have HNX : Hid (((wr.alloc (.cells #[.int .i64 0, .int .i64 0, .int .u16 0, .int .u16 0, .slice none 0 0] 51)).setRow wr.heap.size d.vals).heap[wr.heap.size]? = some (.cells d.vals 51 (0, 0))) := setRow_heap _ _ _ _ _ _ HZ.out
          subst ea
          clear hat ed
          go_upto_region 7 with (first | (refine wpList_load_mid rfl 51 (.tmp 22) rfl b2 (o2 + j * 5) rfl d.vals.toList _ HRG.out Tryd.underlying51 rfl (by show _ = some 5; exact size68') ?_; rw [Array.toArray_toList]) | (refine wpList_store_row rfl 51 (.tmp 6) (.tmp 23) rfl wr.heap.size d.vals rfl rfl 51 #[.int .i64 0, .int .i64 0, .int .u16 0, .int .u16 0, .slice none 0 0] HZ.out size68' rfl (allGd d) ?_))
          generalize World.setRow _ _ _ = WX at HWX HNX ⊢
          clear HZ HRG
          have HCX2 : Hid (Cx w0 C t WX g2) := HC2.out.on HWX.out
          have HMX2 : Hid (Mv w WX (fun k => k = C)) := HM2.out.trans (Mv.ofBelow (F := fun _ => False) HWX.out) (fun _ e => e.elim)
          have cG := guard_any C t g2 d WX w0 HCX2.out (HGI.out d HMEM.out) (HGG.out d HMEM.out) HSZ.out
          have HOS : Hid (HOk (gdE t g2 d).2) := gdE_ok t d HCX2.out.O
          obtain ⟨T, eT⟩ : ∃ T, gdE t g2 d = T := ⟨_, rfl⟩
          rw [eT] at cG HD2 HOS
          clear HC2 HM2 HR2 HBR HMEM eT HCR HMR
          go_wp2_with (refine wpList_load_row rfl 51 (.tmp 6) rfl wr.heap.size rfl 51 d.vals (0, 0) _ HNX.out Tryd.underlying51 rfl size68' ?_)
          refine cG.mono ?_
          rintro e w8 ⟨rfl, hm8, hk8⟩
          have HC8 : Hid (Cx w0 C t w8 T.2) := HCX2.out.mv hm8 hk8 HOS.out
          have HM8 : Hid (Mv w w8 (fun k => k = C)) := HMX2.out.trans hm8 (fun _ e => .inl e)
          clear cG hm8 hk8 HNX HWX HCX2 HMX2
          obtain ⟨T1, T2⟩ := T
          simp only at HC8 HD2 HOS ⊢
          cases hz2 : (T1 == 0) with
          | false =>
            have HE2 : Hid (RR2 = (T1, T2)) := by show _ = _; rw [HD2.out, if_neg (by simp [hz2])]
            have HE3 : Hid (R = (T1, T2)) := by show _ = _; rw [HD.out, HE2.out, if_neg (by simp [hz2])]
            have hq : (T1 != 0) = true := by simp [bne, hz2]
            clear HD2 HD HR0 HX HGW HSG HGI HGG HTT HTI HSZ
            go_wp2_with fail
            go_ret
            exact ⟨by rw [HE3.out]; rfl, HM8.out⟩
          | true =>
            have HE2 : Hid (RR2 = gdsE t T2 (gs.drop (j + 1))) := by show _ = _; rw [HD2.out, if_pos hz2]
            have hq : (T1 != 0) = false := by simp [bne, hz2]
            clear HD2 HD HR0 HX HGW HSG HGI HGG HTT HTI HSZ
            go_wp2_with fail
            exact ⟨⟨j + 1, T2, hltj, rfl, HC8, HM8, HE2⟩, by simp only [intOf]; omega⟩
        · obtain rfl : j = gs.length := by omega
          have hnot : ¬ (gs.length : Int) < (gs.length : Int) := by omega
          have HE2 : Hid (RR2 = (0, g2)) := by show _ = _; rw [HR2.out, List.drop_length]; rfl
          have HE3 : Hid (R = stsE t g2 (t.ts.drop (i + 1))) := by show _ = _; rw [HD.out, HE2.out]; rfl
          go_wp2_with fail
          exact ⟨⟨i + 1, g2, hlt, rfl, HC2, HM2, HE3⟩, by simp only [intOf]; omega⟩
    · obtain rfl : i = t.ts.length := by omega
      have hnot : ¬ (t.ts.length : Int) < (t.ts.length : Int) := by omega
      have HE3 : Hid (R = (0, g)) := by show _ = _; rw [HRR.out, List.drop_length]; rfl
      go_wp2_with fail
      go_ret
      exact ⟨by rw [HE3.out]; rfl, HMR.out⟩
end Go.Proofs.YteedmmljahgpjabDoor

/-
  Check of any table.
-/
namespace Go.Proofs.YteedmmljahgpjabDoor
open Go.RowKit
set_option linter.unusedVariables false
set_option linter.unusedSimpArgs false
def zcOf (P : Program) : Array Value := ((P.info? 67).bind (fun i => i.zero.map Value.cells)).getD #[]
def isz : Value → Bool
  | .int .u8 n => n == 0
  | _ => false
theorem zc_size : (zcOf Tryd.prog).size = 4103 := by kernel_rfl
theorem zc_all : ((zcOf Tryd.prog).toList.drop 6).all isz = true := by kernel_rfl
theorem zc_at (j : Nat) (hj : j < 4097) : (zcOf Tryd.prog)[6 + j]? = some (.int .u8 0) := by
  have hlt : 6 + j < (zcOf Tryd.prog).size := by rw [zc_size]; omega
  have h := List.all_eq_true.1 zc_all ((zcOf Tryd.prog)[6 + j]) (by
    rw [List.mem_iff_getElem?]
    exact ⟨j, by rw [List.getElem?_drop]; simp [hlt]⟩)
  rw [Array.getElem?_eq_getElem hlt]
  generalize (zcOf Tryd.prog)[6 + j] = v at h ⊢
  match v, h with
  | .int .u8 n, h =>
    have : n = 0 := by simpa [isz] using h
    rw [this]
def ckP (P : Program) (t : TbM) : Array Value := t.vals.zipIdx.foldl (fun (x : Array Value) (q : Value × Nat) => x.setIfInBounds (0 * 0 + q.2) q.1) (zcOf P)
theorem built76 (t : TbM) : Tryd.prog.built 67 [(0, .agg t.vals)] = some (ckP Tryd.prog t) := by kernel_rfl
theorem wpList_ck (t : TbM) {w : World} {ops : Array Oper} {rest : List Oper} {o : Oper} {a : Act} {Q : Exit → Act → World → Prop} (hgd : o.guard = none) (x : Operand) (ho : o.op = .build 67 #[(0, x)]) (hx : a.eval x = .agg t.vals)
    (h : wpList Tryd.prog ops Q rest (a.put o.dst (.agg (ckP Tryd.prog t))) w) : wpList Tryd.prog ops Q (o :: rest) a w := by
  have e : ((#[(0, x)] : Array (Nat × Operand)).map fun (i, x) => (i, a.eval x)).toList = [(0, .agg t.vals)] := by simp [hx]
  refine wpList_build hgd 67 #[(0, x)] ho ?_ ?_
  · rw [e, built76]; rfl
  · rw [e, built76]; exact h
theorem ckA_at (t : TbM) (i : Nat) (hi : i < 4103) : (ckP Tryd.prog t)[i]? = if i < 6 then t.vals[i]? else (zcOf Tryd.prog)[i]? := by
  have h := fold_get 0 t.vals.toList 0 (zcOf Tryd.prog) i (by rw [zc_size]; exact hi)
  have e : ckP Tryd.prog t = (t.vals.toList.zipIdx 0).foldl (fun (x : Array Value) (q : Value × Nat) => x.setIfInBounds (0 * 0 + q.2) q.1) (zcOf Tryd.prog) := by
    unfold ckP
    rw [← Array.foldl_toList]
    simp
  rw [e, h]
  have hl : t.vals.toList.length = 6 := rfl
  rw [hl]
  by_cases h6 : i < 6
  · rw [if_pos (by omega), if_pos h6]; simp
  · rw [if_neg (by omega), if_neg h6]
theorem ck_new {w : World} {C : Nat} {t : TbM} (h : w.heap[C]? = some (.cells (ckP Tryd.prog t) 67 (0, 0))) : CkAt w C t (fun _ => 0) :=
  ⟨fun j hj => by rw [cell_of h, ckA_at t j (by omega), if_pos hj], fun j hj => by rw [cell_of h, ckA_at t _ (by omega), if_neg (by omega)]; exact zc_at j hj, fun k => frozen_of h k, (Array.getElem?_eq_some_iff.1 h).1⟩
set_option maxRecDepth 100000 in
set_option maxHeartbeats 4000000 in
theorem check_any (t : TbM) (w : World) (hl : TbL w t) (htb : Tab w) : Calls Tryd.prog 8 #[.agg t.vals] w fun e w' => e = .returned (.int .i64 (checkE t)) ∧ Below w.heap.size w w' := by
  have hb1 := below_new w (.cells t.vals 26)
  have hn1 := heap_new w (.cells t.vals 26)
  obtain ⟨W1, e1⟩ : ∃ W, w.alloc (.cells t.vals 26) = W := ⟨_, rfl⟩
  have E1 : Hid (w.alloc (.cells t.vals 26) = W1) := e1
  rw [e1] at hb1 hn1
  have HB1 : Hid (Below w.heap.size w W1) := hb1
  have HN1 : Hid (W1.heap[w.heap.size]? = some (.cells t.vals 26 (0, 0))) := hn1
  have HS1 : Hid (W1.heap.size = w.heap.size + 1) := by show _ = _; rw [← e1]; exact size_alloc _ _
  clear hb1 e1 hn1
  have cF := wellFormed_any t W1 (hl.on HB1.out) (htb.on HB1.out)
  have HTL : Hid (TbL w t) := hl
  unfold checkE
  clear hl htb
  cases hf : formB t with
  | false =>
    rw [hf] at cF
    go_enter Tryd.func8, Tryd.ntmps8
    go_upto_region 1 with fail
    rw [E1.out]
    clear E1
    go_wp2_with (refine wpList_load_row rfl 26 (.tmp 1) rfl w.heap.size rfl 26 t.vals (0, 0) _ HN1.out Tryd.underlying26 rfl size26' ?_)
    refine cF.mono ?_
    rintro e w2 ⟨rfl, hb2⟩
    have HB2 : Hid (Below w.heap.size w w2) := below2 HB1.out hb2
    go_wp2_with fail
    go_ret
    exact ⟨rfl, HB2.out⟩
  | true =>
    rw [hf] at cF
    have HFW : Hid ((t.rs.length ≤ 12 ∧ t.cs.length ≤ 1024 ∧ t.ds.length ≤ 4096) ∧ ∀ s ∈ t.ts, ∀ g ∈ s.gs, GdW t g) := form_w hf
    go_enter Tryd.func8, Tryd.ntmps8
    go_upto_region 1 with fail
    rw [E1.out]
    clear E1
    go_wp2_with (refine wpList_load_row rfl 26 (.tmp 1) rfl w.heap.size rfl 26 t.vals (0, 0) _ HN1.out Tryd.underlying26 rfl size26' ?_)
    refine cF.mono ?_
    rintro e w2 ⟨rfl, hb2⟩
    have HB2 : Hid (Below w.heap.size w w2) := below2 HB1.out hb2
    have HN2 : Hid (w2.heap[w.heap.size]? = some (.cells t.vals 26 (0, 0))) := (hb2.block _ (by rw [HS1.out]; omega)).trans HN1.out
    have HC3 : Hid (Cx w w2.heap.size t (w2.alloc (.cells (ckP Tryd.prog t) 67)) (fun _ => 0)) := ⟨HTL.out, below2 HB2.out (below_new _ _), HB2.out.size, ck_new (heap_new _ _), fun _ => by omega⟩
    have cC := check_m w2.heap.size t (fun _ => 0) (w2.alloc (.cells (ckP Tryd.prog t) 67)) w HC3.out HFW.out.2 HFW.out.1
    clear cF hb2 HN1 HB1 HS1
    go_wp2_with (first | (refine wpList_load_row rfl 26 (.tmp 1) rfl w.heap.size rfl 26 t.vals (0, 0) _ HN2.out Tryd.underlying26 rfl size26' ?_) | (refine wpList_ck t rfl (.tmp 6) rfl rfl ?_))
    refine cC.mono ?_
    rintro e w5 ⟨rfl, hm5⟩
    have HB5 : Hid (Below w.heap.size w w5) := HC3.out.below hm5
    clear cC hm5
    go_wp2_with fail
    go_ret
    exact ⟨rfl, HB5.out⟩
end Go.Proofs.YteedmmljahgpjabDoor

/-
  How many steps and actions rows, guards, a table can need.
-/
namespace Go.Proofs.YteedmmljahgpjabDoor
open Go.RowKit
set_option linter.unusedVariables false
set_option linter.unusedSimpArgs false
def lenL (l : List Sp) : Int := (l.map Sp.len).sum
def stepsN : List RowM → Int
  | [] => 0
  | r :: l => lenL (hasL r) + stepsN l
def actI (r : RowM) : Int := if r.k == 1 then 1 else if r.k == 2 then 1 else if r.k == 3 then 1 else 0
def actsN : List RowM → Int
  | [] => 0
  | r :: l => actI r + actsN l
def mxN (x y : Int) : Int := if y > x then y else x
def bndL : Int × Int × Int → List GdM → Int × Int × Int
  | q, [] => q
  | q, g :: l => bndL (q.1 + g.wh.len, mxN q.2.1 (stepsN g.rs), mxN q.2.2 (actsN g.rs)) l
def boundS (gs : List GdM) : Int × Int := ((bndL (0, 0, 0) gs).1 + (bndL (0, 0, 0) gs).2.1, (bndL (0, 0, 0) gs).2.2)
def bndT : Int × Int → List StM → Int × Int
  | q, [] => q
  | q, s :: l => bndT (mxN q.1 (boundS s.gs).1, mxN q.2 (boundS s.gs).2) l
def boundN (t : TbM) : Int × Int := if checkE t == 0 then bndT (0, 0) t.ts else (0, 0)
def LenW (x : Sp) : Prop := 0 ≤ x.len ∧ x.len ≤ 4096
theorem actsN_le : ∀ l, 0 ≤ actsN l ∧ actsN l ≤ l.length
  | [] => by simp [actsN]
  | r :: l => by
    have := actsN_le l
    simp only [actsN, actI, List.length_cons]
    repeat' split
    all_goals omega
theorem lenL_cons (x : Sp) (l : List Sp) : lenL (x :: l) = x.len + lenL l := by simp [lenL]
theorem lenL_le : ∀ l : List Sp, (∀ x ∈ l, LenW x) → 0 ≤ lenL l ∧ lenL l ≤ 4096 * l.length
  | [], _ => by simp [lenL]
  | x :: l, h => by
    have h1 := lenL_le l (fun y hy => h y (List.mem_cons_of_mem _ hy))
    have h2 := h x (List.mem_cons_self ..)
    unfold LenW at h2
    have e : lenL (x :: l) = x.len + lenL l := by simp [lenL]
    rw [e, List.length_cons]
    omega
theorem stepsN_le : ∀ l : List RowM, (∀ r ∈ l, ∀ x ∈ hasL r, LenW x) → 0 ≤ stepsN l ∧ stepsN l ≤ 16384 * l.length
  | [], _ => by simp [stepsN]
  | r :: l, h => by
    have h1 := stepsN_le l (fun y hy => h y (List.mem_cons_of_mem _ hy))
    have h2 := lenL_le _ (h r (List.mem_cons_self ..))
    have h3 := hasI_le r 4 (by omega)
    have h4 : (hasL r).length ≤ 4 := h3
    simp only [stepsN, List.length_cons]
    omega
set_option maxRecDepth 100000 in
set_option maxHeartbeats 4000000 in
theorem steps_any (rs : List RowM) (a : Option Addr) (c : Nat) (w : World) (hk : SlAt w 11 a c (rs.map RowM.vals)) (hw : ∀ r ∈ rs, ∀ x ∈ hasL r, LenW x) (h8 : rs.length ≤ 8) : Calls Tryd.prog 37 #[.slice a rs.length c] w fun e w' => e = .returned (.int .i64 (stepsN rs)) ∧ Below w.heap.size w w' := by
  have HSL : Hid (SlAt w 11 a c (rs.map RowM.vals)) := hk
  have HLW : Hid (∀ r ∈ rs, ∀ x ∈ hasL r, LenW x) := hw
  obtain ⟨S, eS⟩ : ∃ S, stepsN rs = S := ⟨_, rfl⟩
  rw [eS]
  have HS : Hid (S = 0 + stepsN (rs.drop 0)) := by show _ = _; rw [← eS, Int.zero_add]; rfl
  clear hk hw eS
  go_enter Tryd.func37, Tryd.ntmps37
  go_wp2_with fail
  go_loopw [3, 10] (fun f q wr => ∃ (i : Nat) (n : Int), i ≤ rs.length ∧ q = .int .i64 i ∧ f = .int .i64 n ∧ (0 ≤ n ∧ n ≤ 16384 * i) ∧ Hid (Below w.heap.size w wr) ∧ Hid (S = n + stepsN (rs.drop i))) (fun _ q _ => rs.length - (intOf q).toNat)
  case atStart => exact ⟨0, 0, by omega, rfl, rfl, by omega, Below.refl _ _, HS⟩
  case round =>
    obtain ⟨i, n, hi, rfl, rfl, hn, HBR, HRR⟩ := hrel
    by_cases hlt : i < rs.length
    · have hlt' : (i : Int) < (rs.length : Int) := by omega
      have hmx : (i : Int) + 1 ≤ 9223372036854775807 := by have h1 := HSL.out.1; have h2 := HSL.out.2.1; rw [List.length_map] at h1; omega
      obtain ⟨bb, o, ea, hat⟩ := (HSL.out.on (mapz RowM.sz _) HBR.out).2.2 i (by rw [List.length_map]; exact hlt)
      simp only [List.getElem_map] at hat
      have HMEM : Hid (rs[i] ∈ rs) := List.getElem_mem hlt
      have HD : Hid (S = n + (lenL (hasL rs[i]) + stepsN (rs.drop (i + 1)))) := by show _ = _; rw [HRR.out, List.drop_eq_getElem_cons hlt]; rfl
      obtain ⟨d, ed⟩ : ∃ d, rs[i] = d := ⟨_, rfl⟩
      rw [ed] at hat HMEM HD
      have HRG : Hid (wr.rangeAt bb (o + i * 11) d.vals.toList) := fun j v hv => by
        have hj : j < 11 := (List.getElem?_eq_some_iff.1 hv).1
        rw [hat j hj, ← hv]; simp
      have HZ : Hid ((wr.alloc (.cells #[.int .u8 0, .int .u8 0, .int .i64 0, .int .i64 0, .int .i64 0, .int .i64 0, .int .i64 0, .int .i64 0, .int .i64 0, .int .i64 0, .int .i64 0] 72)).heap[wr.heap.size]? = some (.cells #[.int .u8 0, .int .u8 0, .int .i64 0, .int .i64 0, .int .i64 0, .int .i64 0, .int .i64 0, .int .i64 0, .int .i64 0, .int .i64 0, .int .i64 0] 72 (0, 0))) := heap_new _ _
      have HWX : Hid (Below wr.heap.size wr ((wr.alloc (.cells #[.int .u8 0, .int .u8 0, .int .i64 0, .int .i64 0, .int .i64 0, .int .i64 0, .int .i64 0, .int .i64 0, .int .i64 0, .int .i64 0, .int .i64 0] 72)).setRow wr.heap.size d.vals)) := below_row (below_new _ _) (Nat.le_refl _) _
      have HNX : Hid (((wr.alloc (.cells #[.int .u8 0, .int .u8 0, .int .i64 0, .int .i64 0, .int .i64 0, .int .i64 0, .int .i64 0, .int .i64 0, .int .i64 0, .int .i64 0, .int .i64 0] 72)).setRow wr.heap.size d.vals).heap[wr.heap.size]? = some (.cells d.vals 72 (0, 0))) := setRow_heap _ _ _ _ _ _ HZ.out
      subst ea
      clear hat ed
      go_upto_region 5 with (first | (refine wpList_load_mid rfl 72 (.tmp 12) rfl bb (o + i * 11) rfl d.vals.toList _ HRG.out Tryd.underlying72 rfl (by show _ = some 11; exact size85') ?_; rw [Array.toArray_toList]) | (refine wpList_store_row rfl 72 (.tmp 5) (.tmp 13) rfl wr.heap.size d.vals rfl rfl 72 #[.int .u8 0, .int .u8 0, .int .i64 0, .int .i64 0, .int .i64 0, .int .i64 0, .int .i64 0, .int .i64 0, .int .i64 0, .int .i64 0, .int .i64 0] HZ.out size85' rfl (allRow d) ?_))
      generalize World.setRow _ _ _ = WX at HWX HNX ⊢
      clear HZ HRG
      have HBX : Hid (Below w.heap.size w WX) := below2 HBR.out HWX.out
      have HGD : Hid (∀ y ∈ hasL d, LenW y) := HLW.out d HMEM.out
      have cH := has_any d WX
      have hl4 := hasI_le d 4 (by omega)
      obtain ⟨sp, esp⟩ : ∃ q, hasL d = q := ⟨_, rfl⟩
      rw [esp] at cH HGD HD
      have hsp4 : sp.length ≤ 4 := by rw [← esp]; exact hl4
      have HR0 : Hid (S = n + lenL (sp.drop 0) + stepsN (rs.drop (i + 1))) := by show _ = _; rw [HD.out, List.drop_zero]; omega
      clear HRR HBR HMEM esp hl4 HD
      go_wp2_with (refine wpList_load_row rfl 72 (.tmp 5) rfl wr.heap.size rfl 72 d.vals (0, 0) _ HNX.out Tryd.underlying72 rfl size85' ?_)
      refine cH.mono ?_
      rintro e w7 ⟨ua, uc, rfl, hU, hnil, hfr, hb7⟩
      have HU : Hid (SlAt w7 2 ua uc (sp.map Sp.vals)) := hU
      have HB7 : Hid (Below w.heap.size w w7) := below2 HBX.out hb7
      clear cH hU hnil hfr hb7 HBX HWX HNX
      go_wp2_with fail
      go_loopw [3, 17] (fun f q wr => ∃ (j : Nat) (n2 : Int), j ≤ sp.length ∧ q = .int .i64 j ∧ f = .int .i64 n2 ∧ (0 ≤ n2 ∧ n2 ≤ 16384 * i + 4096 * j) ∧ Hid (Below w7.heap.size w7 wr) ∧ Hid (S = n2 + lenL (sp.drop j) + stepsN (rs.drop (i + 1)))) (fun _ q _ => sp.length - (intOf q).toNat)
      case atStart => exact ⟨0, n, by omega, rfl, rfl, by omega, Below.refl _ _, HR0⟩
      case round =>
        obtain ⟨j, n2, hj, rfl, rfl, hn2, HB2, HR2⟩ := hrel
        by_cases hltj : j < sp.length
        · have HU2 : Hid (SlAt wr 2 ua uc (sp.map Sp.vals)) := HU.out.on (mapz Sp.sz _) HB2.out
          have hltj' : (j : Int) < (sp.length : Int) := by omega
          have hmxj : (j : Int) + 1 ≤ 9223372036854775807 := by have h1 := HU2.out.1; have h2 := HU2.out.2.1; rw [List.length_map] at h1; omega
          obtain ⟨b2, o2, ea, hat⟩ := (HU2.out.on (mapz Sp.sz _) (Below.refl _ _)).2.2 j (by rw [List.length_map]; exact hltj)
          simp only [List.getElem_map] at hat
          have HMEM : Hid (sp[j] ∈ sp) := List.getElem_mem hltj
          have HD2 : Hid (S = n2 + (sp[j].len + lenL (sp.drop (j + 1))) + stepsN (rs.drop (i + 1))) := by show _ = _; rw [HR2.out, List.drop_eq_getElem_cons hltj, lenL_cons]
          obtain ⟨y, ed⟩ : ∃ y, sp[j] = y := ⟨_, rfl⟩
          rw [ed] at hat HMEM HD2
          have HRG : Hid (wr.rangeAt b2 (o2 + j * 2) y.vals.toList) := fun j9 v hv => by
            have hj9 : j9 < 2 := (List.getElem?_eq_some_iff.1 hv).1
            rw [hat j9 hj9, ← hv]; simp
          have HZ : Hid ((wr.alloc (.cells #[.int .i64 0, .int .i64 0] 48)).heap[wr.heap.size]? = some (.cells #[.int .i64 0, .int .i64 0] 48 (0, 0))) := heap_new _ _
          have HWX : Hid (Below wr.heap.size wr ((wr.alloc (.cells #[.int .i64 0, .int .i64 0] 48)).setRow wr.heap.size y.vals)) := below_row (below_new _ _) (Nat.le_refl _) _
          have HNX : Hid (((wr.alloc (.cells #[.int .i64 0, .int .i64 0] 48)).setRow wr.heap.size y.vals).heap[wr.heap.size]? = some (.cells y.vals 48 (0, 0))) := setRow_heap _ _ _ _ _ _ HZ.out
          subst ea
          clear hat ed
          go_upto_region 8 with (first | (refine wpList_load_mid rfl 48 (.tmp 19) rfl b2 (o2 + j * 2) rfl y.vals.toList _ HRG.out Tryd.underlying48 rfl (by show _ = some 2; exact size65') ?_; rw [Array.toArray_toList]) | (refine wpList_store_row rfl 48 (.tmp 7) (.tmp 20) rfl wr.heap.size y.vals rfl rfl 48 #[.int .i64 0, .int .i64 0] HZ.out size65' rfl (allSp y) ?_))
          generalize World.setRow _ _ _ = WX at HWX HNX ⊢
          clear HZ HRG
          have HBX : Hid (Below w7.heap.size w7 WX) := below2 HB2.out HWX.out
          obtain ⟨hy0, hy1⟩ := HGD.out y HMEM.out
          have cL := length_any y ⟨by omega, by omega⟩ WX
          have HD3 : Hid (S = (n2 + y.len) + lenL (sp.drop (j + 1)) + stepsN (rs.drop (i + 1))) := by show _ = _; rw [HD2.out]; omega
          obtain ⟨YL, eYL⟩ : ∃ q, y.len = q := ⟨_, rfl⟩
          rw [eYL] at cL HD3 hy0 hy1
          clear HR2 HD2 HMEM HB2 eYL
          go_wp2_with (refine wpList_load_row rfl 48 (.tmp 7) rfl wr.heap.size rfl 48 y.vals (0, 0) _ HNX.out Tryd.underlying48 rfl size65' ?_)
          refine cL.mono ?_
          rintro e w8 ⟨rfl, hb8⟩
          have HB8 : Hid (Below w7.heap.size w7 w8) := below2 HBX.out hb8
          clear cL hb8 HNX HWX HBX
          go_wp2_with fail
          exact ⟨⟨j + 1, n2 + YL, hltj, rfl, rfl, by omega, HB8, HD3⟩, by simp only [intOf]; omega⟩
        · obtain rfl : j = sp.length := by omega
          have hnot : ¬ (sp.length : Int) < (sp.length : Int) := by omega
          have HE3 : Hid (S = n2 + stepsN (rs.drop (i + 1))) := by show _ = _; rw [HR2.out, List.drop_length]; simp [lenL]
          have HB9 : Hid (Below w.heap.size w wr) := below2 HB7.out HB2.out
          go_wp2_with fail
          exact ⟨⟨i + 1, n2, hlt, rfl, rfl, by omega, HB9, HE3⟩, by simp only [intOf]; omega⟩
    · obtain rfl : i = rs.length := by omega
      have hnot : ¬ (rs.length : Int) < (rs.length : Int) := by omega
      have HE3 : Hid (S = n) := by show _ = _; rw [HRR.out, List.drop_length]; simp [stepsN]
      go_wp2_with fail
      go_ret
      exact ⟨by rw [HE3.out]; rfl, HBR.out⟩
set_option maxRecDepth 100000 in
set_option maxHeartbeats 4000000 in
theorem actions_any (rs : List RowM) (a : Option Addr) (c : Nat) (w : World) (hk : SlAt w 11 a c (rs.map RowM.vals)) (h8 : rs.length ≤ 8) : Calls Tryd.prog 38 #[.slice a rs.length c] w fun e w' => e = .returned (.int .i64 (actsN rs)) ∧ Below w.heap.size w w' := by
  have HSL : Hid (SlAt w 11 a c (rs.map RowM.vals)) := hk
  obtain ⟨S, eS⟩ : ∃ S, actsN rs = S := ⟨_, rfl⟩
  rw [eS]
  have HS : Hid (S = 0 + actsN (rs.drop 0)) := by show _ = _; rw [← eS, Int.zero_add]; rfl
  clear hk eS
  go_enter Tryd.func38, Tryd.ntmps38
  go_wp2_with fail
  go_loopw [3, 8] (fun f q wr => ∃ (i : Nat) (n : Int), i ≤ rs.length ∧ q = .int .i64 i ∧ f = .int .i64 n ∧ (0 ≤ n ∧ n ≤ i) ∧ Hid (Below w.heap.size w wr) ∧ Hid (S = n + actsN (rs.drop i))) (fun _ q _ => rs.length - (intOf q).toNat)
  case atStart => exact ⟨0, 0, by omega, rfl, rfl, by omega, Below.refl _ _, HS⟩
  case round =>
    obtain ⟨i, n, hi, rfl, rfl, hn, HBR, HRR⟩ := hrel
    by_cases hlt : i < rs.length
    · have hlt' : (i : Int) < (rs.length : Int) := by omega
      have hmx : (i : Int) + 1 ≤ 9223372036854775807 := by have h1 := HSL.out.1; have h2 := HSL.out.2.1; rw [List.length_map] at h1; omega
      obtain ⟨bb, o, ea, hat⟩ := (HSL.out.on (mapz RowM.sz _) HBR.out).2.2 i (by rw [List.length_map]; exact hlt)
      simp only [List.getElem_map] at hat
      have HMEM : Hid (rs[i] ∈ rs) := List.getElem_mem hlt
      have HD : Hid (S = n + (actI rs[i] + actsN (rs.drop (i + 1)))) := by show _ = _; rw [HRR.out, List.drop_eq_getElem_cons hlt]; rfl
      obtain ⟨d, ed⟩ : ∃ d, rs[i] = d := ⟨_, rfl⟩
      rw [ed] at hat HMEM HD
      have HRG : Hid (wr.rangeAt bb (o + i * 11) d.vals.toList) := fun j v hv => by
        have hj : j < 11 := (List.getElem?_eq_some_iff.1 hv).1
        rw [hat j hj, ← hv]; simp
      have HZ : Hid ((wr.alloc (.cells #[.int .u8 0, .int .u8 0, .int .i64 0, .int .i64 0, .int .i64 0, .int .i64 0, .int .i64 0, .int .i64 0, .int .i64 0, .int .i64 0, .int .i64 0] 72)).heap[wr.heap.size]? = some (.cells #[.int .u8 0, .int .u8 0, .int .i64 0, .int .i64 0, .int .i64 0, .int .i64 0, .int .i64 0, .int .i64 0, .int .i64 0, .int .i64 0, .int .i64 0] 72 (0, 0))) := heap_new _ _
      have HWX : Hid (Below wr.heap.size wr ((wr.alloc (.cells #[.int .u8 0, .int .u8 0, .int .i64 0, .int .i64 0, .int .i64 0, .int .i64 0, .int .i64 0, .int .i64 0, .int .i64 0, .int .i64 0, .int .i64 0] 72)).setRow wr.heap.size d.vals)) := below_row (below_new _ _) (Nat.le_refl _) _
      have HNX : Hid (((wr.alloc (.cells #[.int .u8 0, .int .u8 0, .int .i64 0, .int .i64 0, .int .i64 0, .int .i64 0, .int .i64 0, .int .i64 0, .int .i64 0, .int .i64 0, .int .i64 0] 72)).setRow wr.heap.size d.vals).heap[wr.heap.size]? = some (.cells d.vals 72 (0, 0))) := setRow_heap _ _ _ _ _ _ HZ.out
      subst ea
      clear hat ed
      go_upto_region 5 with (first | (refine wpList_load_mid rfl 72 (.tmp 10) rfl bb (o + i * 11) rfl d.vals.toList _ HRG.out Tryd.underlying72 rfl (by show _ = some 11; exact size85') ?_; rw [Array.toArray_toList]) | (refine wpList_store_row rfl 72 (.tmp 5) (.tmp 11) rfl wr.heap.size d.vals rfl rfl 72 #[.int .u8 0, .int .u8 0, .int .i64 0, .int .i64 0, .int .i64 0, .int .i64 0, .int .i64 0, .int .i64 0, .int .i64 0, .int .i64 0, .int .i64 0] HZ.out size85' rfl (allRow d) ?_))
      generalize World.setRow _ _ _ = WX at HWX HNX ⊢
      clear HZ HRG
      have HBX : Hid (Below w.heap.size w WX) := below2 HBR.out HWX.out
      have x0 : WX.cell? ⟨wr.heap.size, 0, none⟩ = some (.int .u8 d.k) := cell_of HNX.out 0
      clear HRR HBR HMEM HWX HNX
      cases h1 : (d.k == 1) with
      | true =>
        have HE : Hid (S = (n + 1) + actsN (rs.drop (i + 1))) := by have h := HD.out; unfold actI at h; simp only [h1, reduceIte, Bool.false_eq_true, if_false, if_true] at h; show _ = _; omega
        clear HD
        go_wp2_with fail
        exact ⟨⟨i + 1, n + 1, hlt, rfl, by first | rfl | simp, by omega, HBX, HE⟩, by simp only [intOf]; omega⟩
      | false =>
        cases h2 : (d.k == 2) with
        | true =>
          have HE : Hid (S = (n + 1) + actsN (rs.drop (i + 1))) := by have h := HD.out; unfold actI at h; simp only [h1, h2, reduceIte, Bool.false_eq_true, if_false, if_true] at h; show _ = _; omega
          clear HD
          go_wp2_with fail
          exact ⟨⟨i + 1, n + 1, hlt, rfl, by first | rfl | simp, by omega, HBX, HE⟩, by simp only [intOf]; omega⟩
        | false =>
          cases h3 : (d.k == 3) with
          | true =>
            have HE : Hid (S = (n + 1) + actsN (rs.drop (i + 1))) := by have h := HD.out; unfold actI at h; simp only [h1, h2, h3, reduceIte, Bool.false_eq_true, if_false, if_true] at h; show _ = _; omega
            clear HD
            go_wp2_with fail
            exact ⟨⟨i + 1, n + 1, hlt, rfl, by first | rfl | simp, by omega, HBX, HE⟩, by simp only [intOf]; omega⟩
          | false =>
            have HE : Hid (S = (n + 0) + actsN (rs.drop (i + 1))) := by have h := HD.out; unfold actI at h; simp only [h1, h2, h3, reduceIte, Bool.false_eq_true, if_false, if_true] at h; show _ = _; omega
            clear HD
            go_wp2_with fail
            exact ⟨⟨i + 1, n + 0, hlt, rfl, by first | rfl | simp, by omega, HBX, HE⟩, by simp only [intOf]; omega⟩
    · obtain rfl : i = rs.length := by omega
      have hnot : ¬ (rs.length : Int) < (rs.length : Int) := by omega
      have HE3 : Hid (S = n) := by show _ = _; rw [HRR.out, List.drop_length]; simp [actsN]
      go_wp2_with fail
      go_ret
      exact ⟨by rw [HE3.out]; rfl, HBR.out⟩
end Go.Proofs.YteedmmljahgpjabDoor
