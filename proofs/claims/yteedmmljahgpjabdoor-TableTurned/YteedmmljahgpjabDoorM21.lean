import Derived.Test.YteedmmljahgpjabDoorM20
import Derived.Defers
import Derived.Recover
import Derived.Laws.Pointers
/-
  The reader: the whole content.
-/
namespace Go.Proofs.YteedmmljahgpjabDoor
open Go.RowKit
set_option linter.unusedVariables false
set_option linter.unusedSimpArgs false
def Is (T : TbP) (t : TbM) : Prop := t.x = T.x ∧ t.rs = T.rs ∧ t.sl = T.sl ∧ t.cs = T.cs ∧ t.ds = T.ds ∧ t.ts.map (fun s => s.gs.map plG) = T.ts
/-- What reading a whole content comes to. -/
def OutT (w0 : World) (mz R : Nat) (bs : List Bx) (s : ByteArray) (r : Option (TbP × Int)) (e : Ending) (w' : World) : Prop :=
  match r with
  | some (T, p) => ∃ t q nb, e = .returned (.tuple #[]) ∧ Is T t ∧ IsT q t ∧ Keep nb (fun V => TbL V t) ∧ (∀ b ∈ nb, mz ≤ b.1) ∧ Rd w0 mz w' R (nb ++ bs) q s p
  | none => e = pan pf ∧ Below w0.heap.size w0 w'
theorem statesR_6 {ds : List InM} {l : List UInt8} : ∀ (n : Nat) {q q2 : RS} {p p2 : Int} {al : List (List GdP)}, listR (stateR ds l) n q p = some (al, q2, p2) → Same6 q q2
  | 0, q, q2, p, p2, al, h => by
    unfold listR at h
    injection h with h
    injection h with a b
    injection b with b c
    subst b
    exact Same6.refl _
  | n + 1, q, q2, p, p2, al, h => by
    unfold listR at h
    obtain ⟨⟨d, q1, p1⟩, h1, h2⟩ := Option.bind_eq_some_iff.1 h
    obtain ⟨⟨y, q3, p3⟩, h3, h4⟩ := Option.map_eq_some_iff.1 h2
    have hq : q3 = q2 := by injection h4 with a b; injection b
    subst hq
    exact (stateR_6 h1).1.trans (statesR_6 n h3)
theorem txtR_X {s : ByteArray} {p p2 : Int} {x : ByteArray} (hs : s.size ≤ 1099511627776) (h : txtR s.data.toList p = some (x, p2)) : SzX x := by
  unfold txtR at h
  split at h
  · rename_i hE
    have hx : W.bytes (W.textS s.data.toList p) = x := by injection h with h; injection h
    subst hx
    obtain ⟨_, h2, _⟩ := W.textE_parts hE
    unfold SzX
    rw [← W.len_of, W.textS_ok hE]
    simp [W.bytes]
    omega
  · cases h
set_option maxRecDepth 100000 in
set_option maxHeartbeats 4000000 in
theorem read_any (R : Nat) (bs : List Bx) (s : ByteArray) (p : Int) (w : World) {mz : Nat} (w0 : World) (h : Rd w0 mz w R bs q00 s p) (hs : s.size ≤ 1099511627776) : Calls Tryd.prog 30 #[.pointer (some ⟨R, 0, none⟩)] w fun e w' => OutT w0 mz R bs s (readR s.data.toList p) e w' := by
  have hmf : ∀ (fn : Fn) (first cap : Array Value) (w : World), (Instr.makeFunc fn first cap).run Tryd.prog w = .ok (.func fn first cap) w := fun _ _ _ _ => rfl
  obtain ⟨RR, eRR⟩ : ∃ r, readR s.data.toList p = r := ⟨_, rfl⟩
  rw [eRR]
  have H0 : Hid (RR = readR s.data.toList p) := eRR.symm
  have cT := rtext_any R bs q00 s p w w0 h hs
  clear eRR h
  go_enter Tryd.func30, Tryd.ntmps30
  go_wp2_with fail
  refine cT.mono ?_
  intro e w1 ho
  clear cT
  cases hx : txtR s.data.toList p with
  | none =>
    rw [hx] at ho
    have HN : Hid (RR = none) := by show _ = _; rw [H0.out]; unfold readR; rw [hx]; rfl
    obtain ⟨rfl, hb⟩ := ho
    exact ⟨rfl, by rw [HN.out]; exact ⟨rfl, hb⟩⟩
  | some xp =>
  obtain ⟨x, p1⟩ := xp
  rw [hx] at ho
  obtain ⟨rfl, hr⟩ := ho
  have HX : Hid (SzX x) := txtR_X hs hx
  have H1 : Hid (RR = (uptoR 12 s.data.toList p1).bind fun n1 => (intsR s.data.toList n1.1.toNat n1.2).bind fun rs => (uptoR 4 s.data.toList rs.2).bind fun sl => (uptoR 1024 s.data.toList sl.2).bind fun n2 => (intsR s.data.toList n2.1.toNat n2.2).bind fun cs => (uptoR 4096 s.data.toList cs.2).bind fun n3 => (insR s.data.toList n3.1.toNat n3.2).bind fun ds => (uptoR 12 s.data.toList ds.2).bind fun n4 => (listR (stateR ds.1 s.data.toList) n4.1.toNat q00 n4.2).map fun r => (⟨x, rs.1, sl.1, cs.1, ds.1, r.1⟩, r.2.2)) := by show _ = _; rw [H0.out]; unfold readR; rw [hx]; rfl
  have m0 : w1.cell? ⟨R, 0, none⟩ = some (.string ⟨#[]⟩) := cell_of hr.H 0
  have f0 : w1.frozen? ⟨R, 0, none⟩ = false := frozen_of hr.H 0
  have HR1 : Hid (Rd w0 mz (w1.setCell ⟨R, 0, none⟩ (.string x)) R bs { q00 with x0 := .string x } s p1) := hr.set 0 _ rfl
  clear H0 hr hx
  go_upto_region 1 with fail
  generalize w1.setCell ⟨R, 0, none⟩ (.string x) = V1 at HR1 ⊢
  clear m0 f0
  have cU1 := rupto_any R bs { q00 with x0 := .string x } s p1 12 V1 w0 HR1.out hs (by omega)
  go_wp2_with fail
  refine cU1.mono ?_
  intro e w2 ho
  clear cU1
  cases hu1 : uptoR 12 s.data.toList p1 with
  | none =>
    rw [hu1] at ho
    have HN : Hid (RR = none) := by show _ = _; rw [H1.out, hu1]; rfl
    obtain ⟨rfl, hb⟩ := ho
    exact ⟨rfl, by rw [HN.out]; exact ⟨rfl, hb⟩⟩
  | some np1 =>
  obtain ⟨n1, p2⟩ := np1
  rw [hu1] at ho
  obtain ⟨rfl, hr⟩ := ho
  obtain ⟨hn10, hn11⟩ := uptoR_bd hu1
  obtain ⟨k1, rfl⟩ := Int.eq_ofNat_of_zero_le hn10
  have hk1 : k1 ≤ 12 := by omega
  have cL1 := ints_any (n := k1) hr hs (by omega)
  rw [ints_eq] at cL1
  have HMZ1 : Hid (mz ≤ w2.heap.size) := hr.M
  clear hr HR1
  go_wp2_with fail
  refine cL1.mono ?_
  intro e w3 ho
  clear cL1
  cases hl1 : intsR s.data.toList k1 p2 with
  | none =>
    rw [hl1] at ho
    have HN : Hid (RR = none) := by show _ = _; rw [H1.out, hu1]; show Option.bind (intsR s.data.toList k1 p2) _ = _; rw [hl1]; rfl
    obtain ⟨rfl, hb⟩ := ho
    exact ⟨rfl, by rw [HN.out]; exact ⟨rfl, hb⟩⟩
  | some rp =>
  obtain ⟨rs, p3⟩ := rp
  rw [hl1] at ho
  obtain ⟨a1, xs1, nb1, nbs1, rfl, hrel1, hxl1, hkp1, hr, hff1, _⟩ := ho
  obtain ⟨rfl, rfl⟩ := rels_I hrel1
  have HF1 : Hid (∀ b ∈ nb1, mz ≤ b.1) := fun b hb => Nat.le_trans HMZ1.out (hff1 b (by simp [hb]))
  clear hff1
  clear hrel1 hxl1
  rw [List.nil_append] at hr
  have H2 : Hid (RR = (uptoR 4 s.data.toList p3).bind fun sl => (uptoR 1024 s.data.toList sl.2).bind fun n2 => (intsR s.data.toList n2.1.toNat n2.2).bind fun cs => (uptoR 4096 s.data.toList cs.2).bind fun n3 => (insR s.data.toList n3.1.toNat n3.2).bind fun ds => (uptoR 12 s.data.toList ds.2).bind fun n4 => (listR (stateR ds.1 s.data.toList) n4.1.toNat q00 n4.2).map fun r => (⟨x, rs, sl.1, cs.1, ds.1, r.1⟩, r.2.2)) := by show _ = _; rw [H1.out, hu1]; show Option.bind (intsR s.data.toList k1 p2) _ = _; rw [hl1]; rfl
  have m2 : w3.cell? ⟨R, 1, none⟩ = some (.slice none 0 0) := cell_of hr.H 1
  have f2 : w3.frozen? ⟨R, 1, none⟩ = false := frozen_of hr.H 1
  have HR2 : Hid (Rd w0 mz (w3.setCell ⟨R, 1, none⟩ (.slice a1 k1 k1)) R (nb1 ++ bs) ⟨.string x, .slice a1 k1 k1, .int .i64 0, .slice none 0 0, .slice none 0 0, .slice none 0 0, 0⟩ s p3) := hr.set 1 _ rfl
  clear hr H1
  go_upto_region 2 with fail
  generalize w3.setCell ⟨R, 1, none⟩ (.slice a1 k1 k1) = V3 at HR2 ⊢
  clear m2 f2
  have cU2 := rupto_any R (nb1 ++ bs) ⟨.string x, .slice a1 k1 k1, .int .i64 0, .slice none 0 0, .slice none 0 0, .slice none 0 0, 0⟩ s p3 4 V3 w0 HR2.out hs (by omega)
  go_wp2_with fail
  refine cU2.mono ?_
  intro e w4 ho
  clear cU2
  cases hu2 : uptoR 4 s.data.toList p3 with
  | none =>
    rw [hu2] at ho
    have HN : Hid (RR = none) := by show _ = _; rw [H2.out, hu2]; rfl
    obtain ⟨rfl, hb⟩ := ho
    exact ⟨rfl, by rw [HN.out]; exact ⟨rfl, hb⟩⟩
  | some np2 =>
  obtain ⟨sl, p4⟩ := np2
  rw [hu2] at ho
  obtain ⟨rfl, hr⟩ := ho
  obtain ⟨hsl0, hsl1⟩ := uptoR_bd hu2
  have H3 : Hid (RR = (uptoR 1024 s.data.toList p4).bind fun n2 => (intsR s.data.toList n2.1.toNat n2.2).bind fun cs => (uptoR 4096 s.data.toList cs.2).bind fun n3 => (insR s.data.toList n3.1.toNat n3.2).bind fun ds => (uptoR 12 s.data.toList ds.2).bind fun n4 => (listR (stateR ds.1 s.data.toList) n4.1.toNat q00 n4.2).map fun r => (⟨x, rs, sl, cs.1, ds.1, r.1⟩, r.2.2)) := by show _ = _; rw [H2.out, hu2]; rfl
  have m3 : w4.cell? ⟨R, 2, none⟩ = some (.int .i64 0) := cell_of hr.H 2
  have f3 : w4.frozen? ⟨R, 2, none⟩ = false := frozen_of hr.H 2
  have HR3 : Hid (Rd w0 mz (w4.setCell ⟨R, 2, none⟩ (.int .i64 sl)) R (nb1 ++ bs) ⟨.string x, .slice a1 k1 k1, .int .i64 sl, .slice none 0 0, .slice none 0 0, .slice none 0 0, 0⟩ s p4) := hr.set 2 _ rfl
  clear hr H2 HR2
  go_upto_region 3 with fail
  generalize w4.setCell ⟨R, 2, none⟩ (.int .i64 sl) = V4 at HR3 ⊢
  clear m3 f3
  have cU3 := rupto_any R (nb1 ++ bs) ⟨.string x, .slice a1 k1 k1, .int .i64 sl, .slice none 0 0, .slice none 0 0, .slice none 0 0, 0⟩ s p4 1024 V4 w0 HR3.out hs (by omega)
  go_wp2_with fail
  refine cU3.mono ?_
  intro e w5 ho
  clear cU3
  cases hu3 : uptoR 1024 s.data.toList p4 with
  | none =>
    rw [hu3] at ho
    have HN : Hid (RR = none) := by show _ = _; rw [H3.out, hu3]; rfl
    obtain ⟨rfl, hb⟩ := ho
    exact ⟨rfl, by rw [HN.out]; exact ⟨rfl, hb⟩⟩
  | some np3 =>
  obtain ⟨n2, p5⟩ := np3
  rw [hu3] at ho
  obtain ⟨rfl, hr⟩ := ho
  obtain ⟨hn30, hn31⟩ := uptoR_bd hu3
  obtain ⟨k2, rfl⟩ := Int.eq_ofNat_of_zero_le hn30
  have hk2 : k2 ≤ 1024 := by omega
  have cL3 := ints_any (n := k2) hr hs (by omega)
  rw [ints_eq] at cL3
  have HMZ3 : Hid (mz ≤ w5.heap.size) := hr.M
  clear hr HR3
  go_wp2_with fail
  refine cL3.mono ?_
  intro e w6 ho
  clear cL3
  cases hl3 : intsR s.data.toList k2 p5 with
  | none =>
    rw [hl3] at ho
    have HN : Hid (RR = none) := by show _ = _; rw [H3.out, hu3]; show Option.bind (intsR s.data.toList k2 p5) _ = _; rw [hl3]; rfl
    obtain ⟨rfl, hb⟩ := ho
    exact ⟨rfl, by rw [HN.out]; exact ⟨rfl, hb⟩⟩
  | some rp3 =>
  obtain ⟨cs, p6⟩ := rp3
  rw [hl3] at ho
  obtain ⟨a2, xs3, nb2, nbs3, rfl, hrel3, hxl3, hkp3, hr, hff3, _⟩ := ho
  obtain ⟨rfl, rfl⟩ := rels_I hrel3
  have HF3 : Hid (∀ b ∈ nb2, mz ≤ b.1) := fun b hb => Nat.le_trans HMZ3.out (hff3 b (by simp [hb]))
  clear hff3
  rw [List.nil_append] at hr
  clear hrel3 hxl3
  have H4 : Hid (RR = (uptoR 4096 s.data.toList p6).bind fun n3 => (insR s.data.toList n3.1.toNat n3.2).bind fun ds => (uptoR 12 s.data.toList ds.2).bind fun n4 => (listR (stateR ds.1 s.data.toList) n4.1.toNat q00 n4.2).map fun r => (⟨x, rs, sl, cs, ds.1, r.1⟩, r.2.2)) := by show _ = _; rw [H3.out, hu3]; show Option.bind (intsR s.data.toList k2 p5) _ = _; rw [hl3]; rfl
  have m4 : w6.cell? ⟨R, 3, none⟩ = some (.slice none 0 0) := cell_of hr.H 3
  have f4 : w6.frozen? ⟨R, 3, none⟩ = false := frozen_of hr.H 3
  have HR4 : Hid (Rd w0 mz (w6.setCell ⟨R, 3, none⟩ (.slice a2 k2 k2)) R (nb2 ++ (nb1 ++ bs)) ⟨.string x, .slice a1 k1 k1, .int .i64 sl, .slice a2 k2 k2, .slice none 0 0, .slice none 0 0, 0⟩ s p6) := hr.set 3 _ rfl
  clear hr H3
  go_upto_region 4 with fail
  generalize w6.setCell ⟨R, 3, none⟩ (.slice a2 k2 k2) = V6 at HR4 ⊢
  clear m4 f4
  have cU4 := rupto_any R (nb2 ++ (nb1 ++ bs)) ⟨.string x, .slice a1 k1 k1, .int .i64 sl, .slice a2 k2 k2, .slice none 0 0, .slice none 0 0, 0⟩ s p6 4096 V6 w0 HR4.out hs (by omega)
  go_wp2_with fail
  refine cU4.mono ?_
  intro e w7 ho
  clear cU4
  cases hu4 : uptoR 4096 s.data.toList p6 with
  | none =>
    rw [hu4] at ho
    have HN : Hid (RR = none) := by show _ = _; rw [H4.out, hu4]; rfl
    obtain ⟨rfl, hb⟩ := ho
    exact ⟨rfl, by rw [HN.out]; exact ⟨rfl, hb⟩⟩
  | some np4 =>
  obtain ⟨n3, p7⟩ := np4
  rw [hu4] at ho
  obtain ⟨rfl, hr⟩ := ho
  obtain ⟨hn40, hn41⟩ := uptoR_bd hu4
  obtain ⟨k3, rfl⟩ := Int.eq_ofNat_of_zero_le hn40
  have hk3 : k3 ≤ 4096 := by omega
  have cL4 := instrs_any (n := k3) hr hs (by omega)
  rw [ins_eq] at cL4
  have HMZ4 : Hid (mz ≤ w7.heap.size) := hr.M
  clear hr HR4
  go_wp2_with fail
  refine cL4.mono ?_
  intro e w8 ho
  clear cL4
  cases hl4 : insR s.data.toList k3 p7 with
  | none =>
    rw [hl4] at ho
    have HN : Hid (RR = none) := by show _ = _; rw [H4.out, hu4]; show Option.bind (insR s.data.toList k3 p7) _ = _; rw [hl4]; rfl
    obtain ⟨rfl, hb⟩ := ho
    exact ⟨rfl, by rw [HN.out]; exact ⟨rfl, hb⟩⟩
  | some rp4 =>
  obtain ⟨ds, p8⟩ := rp4
  rw [hl4] at ho
  obtain ⟨a3, xs4, nb3, nbs4, rfl, hrel4, hxl4, hkp4, hr, hff4, _⟩ := ho
  obtain ⟨rfl, rfl⟩ := rels_D hrel4
  have HF4 : Hid (∀ b ∈ nb3, mz ≤ b.1) := fun b hb => Nat.le_trans HMZ4.out (hff4 b (by simp [hb]))
  clear hff4
  rw [List.nil_append] at hr
  clear hrel4 hxl4
  have H5 : Hid (RR = (uptoR 12 s.data.toList p8).bind fun n4 => (listR (stateR ds s.data.toList) n4.1.toNat q00 n4.2).map fun r => (⟨x, rs, sl, cs, ds, r.1⟩, r.2.2)) := by show _ = _; rw [H4.out, hu4]; show Option.bind (insR s.data.toList k3 p7) _ = _; rw [hl4]; rfl
  have m5 : w8.cell? ⟨R, 4, none⟩ = some (.slice none 0 0) := cell_of hr.H 4
  have f5 : w8.frozen? ⟨R, 4, none⟩ = false := frozen_of hr.H 4
  have HR5 : Hid (Rd w0 mz (w8.setCell ⟨R, 4, none⟩ (.slice a3 k3 k3)) R (nb3 ++ (nb2 ++ (nb1 ++ bs))) ⟨.string x, .slice a1 k1 k1, .int .i64 sl, .slice a2 k2 k2, .slice a3 k3 k3, .slice none 0 0, 0⟩ s p8) := hr.set 4 _ rfl
  clear hr H4
  go_upto_region 5 with fail
  generalize w8.setCell ⟨R, 4, none⟩ (.slice a3 k3 k3) = V8 at HR5 ⊢
  clear m5 f5
  have cU5 := rupto_any R (nb3 ++ (nb2 ++ (nb1 ++ bs))) ⟨.string x, .slice a1 k1 k1, .int .i64 sl, .slice a2 k2 k2, .slice a3 k3 k3, .slice none 0 0, 0⟩ s p8 12 V8 w0 HR5.out hs (by omega)
  go_wp2_with fail
  refine cU5.mono ?_
  intro e w9 ho
  clear cU5
  cases hu5 : uptoR 12 s.data.toList p8 with
  | none =>
    rw [hu5] at ho
    have HN : Hid (RR = none) := by show _ = _; rw [H5.out, hu5]; rfl
    obtain ⟨rfl, hb⟩ := ho
    exact ⟨rfl, by rw [HN.out]; exact ⟨rfl, hb⟩⟩
  | some np5 =>
  obtain ⟨n4, p9⟩ := np5
  rw [hu5] at ho
  obtain ⟨rfl, hr⟩ := ho
  obtain ⟨hn40, hn41⟩ := uptoR_bd hu5
  obtain ⟨k4, rfl⟩ := Int.eq_ofNat_of_zero_le hn40
  have hk4 : k4 ≤ 12 := by omega
  obtain ⟨hri, hrl⟩ := intsR_I k1 hl1
  obtain ⟨hci, hcl⟩ := intsR_I k2 hl3
  obtain ⟨hdi, hdl⟩ := insR_I k3 hl4
  have HKA : Hid (∀ (ta : Option Addr) (tc : Nat) (ts : List StM) (nb4 : List Bx), Keep nb4 (fun V => SlAt V 1 ta tc (ts.map StM.vals) ∧ ∀ s ∈ ts, StL V s) → Keep (nb4 ++ (nb3 ++ (nb2 ++ nb1))) (fun V => TbL V ⟨x, a1, k1, rs, sl, a2, k2, cs, a3, k3, ds, ta, tc, ts⟩)) := fun ta tc ts nb4 h4 V hV => by
    obtain ⟨⟨t1, t2⟩, d1, c1, r1⟩ := (h4.app (hkp4.app (hkp3.app hkp1))) V hV
    exact ⟨r1, hri, ⟨by show _ ≤ sl; omega, by show sl ≤ _; omega⟩, c1, hci, d1, hdi, t1, t2, HX.out⟩
  have HK5 : Hid (Keep (nb3 ++ (nb2 ++ nb1)) (fun V => TbL V ⟨x, a1, k1, rs, sl, a2, k2, cs, a3, k3, ds, none, 0, []⟩)) := HKA.out none 0 [] [] (fun V _ => ⟨⟨by simp, by simp, fun i hi => by simp at hi⟩, by simp⟩)
  have hIT : IsT ⟨.string x, .slice a1 k1 k1, .int .i64 sl, .slice a2 k2 k2, .slice a3 k3 k3, .slice none 0 0, 0⟩ ⟨x, a1, k1, rs, sl, a2, k2, cs, a3, k3, ds, none, 0, []⟩ := ⟨rfl, by show _ = Value.slice a1 rs.length k1; rw [hrl], rfl, by show _ = Value.slice a2 cs.length k2; rw [hcl], by show _ = Value.slice a3 ds.length k3; rw [hdl], rfl⟩
  have cL5 := states_any (n := k4) (t := ⟨x, a1, k1, rs, sl, a2, k2, cs, a3, k3, ds, none, 0, []⟩) hr hs hk4 ⟨by show (0 : Int) ≤ 0; omega, by show (0 : Int) ≤ _; omega⟩ hIT (nb3 ++ (nb2 ++ nb1)) (fun b hb => by simp only [List.mem_append] at hb ⊢; rcases hb with hb | hb | hb <;> simp [hb]) HK5.out
  have hsim := statesR_sim ds s.data.toList k4 (q := ⟨.string x, .slice a1 k1 k1, .int .i64 sl, .slice a2 k2 k2, .slice a3 k3 k3, .slice none 0 0, 0⟩) (q' := q00) rfl p9
  have HMZ5 : Hid (mz ≤ w9.heap.size) := hr.M
  clear hr HR5 hIT HK5
  go_wp2_with fail
  refine cL5.mono ?_
  intro e w10 ho
  clear cL5
  rcases hsim.cases with ⟨e1, e2⟩ | ⟨gs, q6, q7, p10, e1, e2, _⟩
  · replace ho : OutL w0 mz R (nb3 ++ (nb2 ++ (nb1 ++ bs))) s RelS 1 k4 w9.heap.size (listR (stateR ds s.data.toList) k4 ⟨.string x, .slice a1 k1 k1, .int .i64 sl, .slice a2 k2 k2, .slice a3 k3 k3, .slice none 0 0, 0⟩ p9) e w10 := ho
    rw [e1] at ho
    have HN : Hid (RR = none) := by show _ = _; rw [H5.out, hu5]; show Option.map _ (listR (stateR ds s.data.toList) k4 q00 p9) = _; rw [e2]; rfl
    obtain ⟨rfl, hb⟩ := ho
    exact ⟨rfl, by rw [HN.out]; exact ⟨rfl, hb⟩⟩
  · replace ho : OutL w0 mz R (nb3 ++ (nb2 ++ (nb1 ++ bs))) s RelS 1 k4 w9.heap.size (listR (stateR ds s.data.toList) k4 ⟨.string x, .slice a1 k1 k1, .int .i64 sl, .slice a2 k2 k2, .slice a3 k3 k3, .slice none 0 0, 0⟩ p9) e w10 := ho
    rw [e1] at ho
    have H6 : Hid (RR = some (⟨x, rs, sl, cs, ds, gs⟩, p10)) := by show _ = _; rw [H5.out, hu5]; show Option.map _ (listR (stateR ds s.data.toList) k4 q00 p9) = _; rw [e2]; rfl
    obtain ⟨hgi, hgl⟩ := statesR_I k4 e1 ⟨by show (0 : Int) ≤ 0; omega, by show (0 : Int) ≤ _; omega⟩
    obtain ⟨a5, xs5, nb5, nbs5, rfl, hrel5, hxl5, hkp5, hr, hff5, _⟩ := ho
    have HF5 : Hid (∀ b ∈ nb5 ++ nbs5, mz ≤ b.1) := fun b hb => Nat.le_trans HMZ5.out (hff5 b hb)
    clear hff5
    obtain ⟨ts, rfl, hts, hkts⟩ := rels_S hrel5 hgi
    have hS6 : Same6 ⟨.string x, .slice a1 k1 k1, .int .i64 sl, .slice a2 k2 k2, .slice a3 k3 k3, .slice none 0 0, 0⟩ q6 := statesR_6 k4 e1
    obtain ⟨y0, y1, y2, y3, y4, y5, ysp⟩ := q6
    obtain ⟨s0, s1, s2, s3, s4, s5⟩ := hS6
    simp only at s0 s1 s2 s3 s4 s5
    subst s0 s1 s2 s3 s4 s5
    have m6 : w10.cell? ⟨R, 5, none⟩ = some (.slice none 0 0) := cell_of hr.H 5
    have f6 : w10.frozen? ⟨R, 5, none⟩ = false := frozen_of hr.H 5
    have HR6 : Hid (Rd w0 mz (w10.setCell ⟨R, 5, none⟩ (.slice a5 k4 k4)) R (nb5 ++ (nbs5 ++ (nb3 ++ (nb2 ++ (nb1 ++ bs))))) ⟨.string x, .slice a1 k1 k1, .int .i64 sl, .slice a2 k2 k2, .slice a3 k3 k3, .slice a5 k4 k4, ysp⟩ s p10) := hr.set 5 _ rfl
    rw [List.length_map] at hxl5
    have HKF : Hid (Keep ((nb5 ++ nbs5) ++ (nb3 ++ (nb2 ++ nb1))) (fun V => TbL V ⟨x, a1, k1, rs, sl, a2, k2, cs, a3, k3, ds, a5, k4, ts⟩)) := HKA.out a5 k4 ts (nb5 ++ nbs5) (hkp5.app hkts)
    have HLN : Hid (rs.length = k1 ∧ cs.length = k2 ∧ ds.length = k3 ∧ ts.length = k4) := ⟨hrl, hcl, hdl, hxl5⟩
    have HTS : Hid (ts.map (fun s => s.gs.map plG) = gs) := hts
    clear hr hrel5 hkp5 hkts hgi e1 e2 hts
    go_wp2_with fail
    go_end0
    rw [H6.out]
    refine ⟨⟨x, a1, k1, rs, sl, a2, k2, cs, a3, k3, ds, a5, k4, ts⟩, ⟨.string x, .slice a1 k1 k1, .int .i64 sl, .slice a2 k2 k2, .slice a3 k3 k3, .slice a5 k4 k4, ysp⟩, (nb5 ++ nbs5) ++ (nb3 ++ (nb2 ++ nb1)), rfl, ⟨rfl, rfl, rfl, rfl, rfl, HTS.out⟩, ⟨rfl, ?_, rfl, ?_, ?_, ?_⟩, HKF.out, ?_, ?_⟩
    rotate_left 4
    · intro b hb
      rcases List.mem_append.1 hb with hb | hb
      · exact HF5.out b hb
      · rcases List.mem_append.1 hb with hb | hb
        · exact HF4.out b hb
        · rcases List.mem_append.1 hb with hb | hb
          · exact HF3.out b hb
          · exact HF1.out b hb
    · have := HR6.out
      simp only [List.append_assoc] at this ⊢
      exact this
    · show Value.slice a1 k1 k1 = .slice a1 rs.length k1; rw [HLN.out.1]
    · show Value.slice a2 k2 k2 = .slice a2 cs.length k2; rw [HLN.out.2.1]
    · show Value.slice a3 k3 k3 = .slice a3 ds.length k3; rw [HLN.out.2.2.1]
    · show Value.slice a5 k4 k4 = .slice a5 ts.length k4; rw [HLN.out.2.2.2]
end Go.Proofs.YteedmmljahgpjabDoor

/-
  The table that stands in a frame.
-/
namespace Go.Proofs.YteedmmljahgpjabDoor
open Go.RowKit
set_option linter.unusedVariables false
set_option linter.unusedSimpArgs false
def unR (b : ByteArray) : Option TbP :=
  if W.unE b.data.toList 0 = 0 then (if W.unP b.data.toList 0 == (b.size : Int) then (readR (W.unS b.data.toList 0) 0).bind fun r => if r.2 == ((W.unS b.data.toList 0).length : Int) then some r.1 else none else none) else none
/-- The boxes that a table stands on, all of them new. -/
def Bxs (w w' : World) (t : TbM) (nb : List Bx) : Prop := Keep nb (fun V => TbL V t) ∧ ∀ b ∈ nb, w'.heap[b.1]? = some (.cells b.2.2 b.2.1 (0, 0)) ∧ w.heap.size ≤ b.1
/-- What comes out: a table, or nothing. -/
def OutB (w : World) (r : Option TbP) (e : Ending) (w' : World) : Prop :=
  match r with
  | some T => ∃ t nb, e = .returned (.agg t.vals) ∧ Is T t ∧ Bxs w w' t nb ∧ Below w.heap.size w w'
  | none => e = pan pf ∧ Below w.heap.size w w'
theorem unS_le (b : ByteArray) : (W.unS b.data.toList 0).length ≤ b.size := by
  unfold W.unS W.textS
  rw [← W.len_of]
  repeat' split
  all_goals simp
  all_goals omega
set_option maxRecDepth 100000 in
set_option maxHeartbeats 4000000 in
theorem unframed_any (b : ByteArray) (w : World) (hs : b.size ≤ 1099511627776) : Calls Tryd.prog 17 #[.string b] w fun e w' => OutB w (unR b) e w' := by
  have cN := need_no
  have cO := need_ok
  have hb0 := below_new w (.cells #[.string ⟨#[]⟩, .slice none 0 0, .int .i64 0, .slice none 0 0, .slice none 0 0, .slice none 0 0] 26)
  have hn0 := heap_new w (.cells #[.string ⟨#[]⟩, .slice none 0 0, .int .i64 0, .slice none 0 0, .slice none 0 0, .slice none 0 0] 26)
  obtain ⟨W1, e1⟩ : ∃ W, w.alloc (.cells #[.string ⟨#[]⟩, .slice none 0 0, .int .i64 0, .slice none 0 0, .slice none 0 0, .slice none 0 0] 26) = W := ⟨_, rfl⟩
  have E1 : Hid (w.alloc (.cells #[.string ⟨#[]⟩, .slice none 0 0, .int .i64 0, .slice none 0 0, .slice none 0 0, .slice none 0 0] 26) = W1) := e1
  rw [e1] at hb0 hn0
  have HB1 : Hid (Below w.heap.size w W1) := hb0
  have HN1 : Hid (W1.heap[w.heap.size]? = some (.cells #[.string ⟨#[]⟩, .slice none 0 0, .int .i64 0, .slice none 0 0, .slice none 0 0, .slice none 0 0] 26 (0, 0))) := hn0
  obtain ⟨RR, eRR⟩ : ∃ r, unR b = r := ⟨_, rfl⟩
  have H0 : Hid (RR = unR b) := eRR.symm
  rw [eRR]
  have cU := W.unframe_any b 0 hs W1
  have hbl : (b.size : Int) ≤ 1099511627776 := by omega
  clear eRR hb0 hn0 e1
  go_enter Tryd.func17, Tryd.ntmps17
  go_upto_region 1 with fail
  rw [E1.out]
  clear E1
  go_wp2_with fail
  refine cU.mono ?_
  rintro e w2 ⟨rfl, hb2⟩
  have HB2 : Hid (Below w.heap.size w w2) := below2 HB1.out hb2
  have HN2 : Hid (w2.heap[w.heap.size]? = some (.cells #[.string ⟨#[]⟩, .slice none 0 0, .int .i64 0, .slice none 0 0, .slice none 0 0, .slice none 0 0] 26 (0, 0))) := (hb2.block _ (Array.getElem?_eq_some_iff.1 HN1.out).1).trans HN1.out
  clear cU hb2 HB1 HN1
  obtain ⟨L, eL⟩ : ∃ L, W.unS b.data.toList 0 = L := ⟨_, rfl⟩
  obtain ⟨P, eP⟩ : ∃ P, W.unP b.data.toList 0 = P := ⟨_, rfl⟩
  obtain ⟨E, eE⟩ : ∃ E : Int, ((W.unE b.data.toList 0 : Nat) : Int) = E := ⟨_, rfl⟩
  have HLs : Hid (L.length ≤ 1099511627776) := by show _ ≤ _; rw [← eL]; exact Nat.le_trans (unS_le b) hs
  have H1 : Hid (RR = if E == 0 then (if P == (b.size : Int) then (readR L 0).bind fun r => if r.2 == (L.length : Int) then some r.1 else none else none) else none) := by
    show _ = _
    rw [H0.out]
    unfold unR
    rw [eL, eP, ← eE]
    by_cases h : W.unE b.data.toList 0 = 0
    · have h' : ((W.unE b.data.toList 0 : Nat) : Int) = 0 := by omega
      rw [if_pos h, h']; rfl
    · rw [if_neg h, if_neg (by simp; omega)]
  rw [eL, eP, eE]
  clear eL eP eE H0
  cases hE : (E == 0) with
  | false =>
    have HN : Hid (RR = none) := by show _ = _; rw [H1.out, if_neg (by simp [hE])]
    go_wp2_with fail
    refine (cN _).mono ?_
    rintro e w3 ⟨rfl, rfl⟩
    exact ⟨rfl, by rw [HN.out]; exact ⟨rfl, HB2.out⟩⟩
  | true =>
    cases hP : (P == (b.size : Int)) with
    | false =>
      have HN : Hid (RR = none) := by show _ = _; rw [H1.out, if_pos hE, if_neg (by simp [hP])]
      go_wp2_with fail
      refine (cN _).mono ?_
      rintro e w3 ⟨rfl, rfl⟩
      exact ⟨rfl, by rw [HN.out]; exact ⟨rfl, HB2.out⟩⟩
    | true =>
      have H2 : Hid (RR = (readR L 0).bind fun r => if r.2 == (L.length : Int) then some r.1 else none) := by show _ = _; rw [H1.out, if_pos hE, if_pos hP]
      clear H1
      go_wp2_with fail
      refine (cO _).mono ?_
      rintro e w3 ⟨rfl, rfl⟩
      have HB3 := below_new w3 (.cells (rdA q00 (W.bytes L) 0) 90)
      have HRD : Hid (Rd w w3.heap.size (w3.alloc (.cells (rdA q00 (W.bytes L) 0) 90)) w3.heap.size [(w.heap.size, 26, #[.string ⟨#[]⟩, .slice none 0 0, .int .i64 0, .slice none 0 0, .slice none 0 0, .slice none 0 0])] q00 (W.bytes L) 0) := ⟨heap_new _ _, below2 HB2.out HB3, HB2.out.size, fun b hb => by
        rw [List.mem_singleton.1 hb]
        have := (Array.getElem?_eq_some_iff.1 HN2.out).1
        exact ⟨(HB3.block _ this).trans HN2.out, Nat.ne_of_lt this⟩, fun b hb => by rw [List.mem_singleton.1 hb]; exact Nat.le_refl _, by rw [size_alloc]; omega⟩
      have hLL : (W.bytes L).data.toList = L := by simp [W.bytes]
      have hLZ : (W.bytes L).size = L.length := by rw [← W.len_of, hLL]
      have cR := read_any w3.heap.size [(w.heap.size, 26, #[.string ⟨#[]⟩, .slice none 0 0, .int .i64 0, .slice none 0 0, .slice none 0 0, .slice none 0 0])] (W.bytes L) 0 (w3.alloc (.cells (rdA q00 (W.bytes L) 0) 90)) w HRD.out (by rw [hLZ]; exact HLs.out)
      rw [hLL] at cR
      clear HB3 HRD hLL
      go_wp2_with fail
      refine cR.mono ?_
      intro e w4 ho
      clear cR
      cases hr : readR L 0 with
      | none =>
        rw [hr] at ho
        have HN : Hid (RR = none) := by show _ = _; rw [H2.out, hr]; rfl
        obtain ⟨rfl, hb⟩ := ho
        exact ⟨rfl, by rw [HN.out]; exact ⟨rfl, hb⟩⟩
      | some Tp =>
        obtain ⟨T, p4⟩ := Tp
        rw [hr] at ho
        obtain ⟨t, q, nb, rfl, hIs, hIT, hKp, hF4, hR4⟩ := ho
        have HF4 : Hid (∀ b ∈ nb, w3.heap.size ≤ b.1) := hF4
        have x8 : w4.cell? ⟨w3.heap.size, 8, none⟩ = some (.int .i64 p4) := cell_of hR4.H 8
        have HIT : Hid (IsT q t ∧ Is T t ∧ Keep nb (fun V => TbL V t)) := ⟨hIT, hIs, hKp⟩
        have HR4 : Hid (Rd w w3.heap.size w4 w3.heap.size (nb ++ [(w.heap.size, 26, #[.string ⟨#[]⟩, .slice none 0 0, .int .i64 0, .slice none 0 0, .slice none 0 0, .slice none 0 0])]) q (W.bytes L) p4) := hR4
        clear hIs hIT hKp hR4 hF4
        cases hp : (p4 == (L.length : Int)) with
        | false =>
          have HN : Hid (RR = none) := by show _ = _; rw [H2.out, hr]; show (if p4 == (L.length : Int) then _ else _) = _; rw [if_neg (by simp [hp])]
          have HB4 : Hid (Below w.heap.size w w4) := HR4.out.B
          go_wp2_with fail
          refine (cN _).mono ?_
          rintro e w5 ⟨rfl, rfl⟩
          exact ⟨rfl, by rw [HN.out]; exact ⟨rfl, HB4.out⟩⟩
        | true =>
          have HN : Hid (RR = some T) := by show _ = _; rw [H2.out, hr]; show (if p4 == (L.length : Int) then _ else _) = _; rw [if_pos hp]
          obtain ⟨y0, y1, y2, y3, y4, y5⟩ := HIT.out.1
          have z0 : w4.cell? ⟨w3.heap.size, 0, none⟩ = some (.string t.x) := (cell_of HR4.out.H 0).trans (congrArg some y0)
          have z1 : w4.cell? ⟨w3.heap.size, 1, none⟩ = some (.slice t.ra t.rs.length t.rc) := (cell_of HR4.out.H 1).trans (congrArg some y1)
          have z2 : w4.cell? ⟨w3.heap.size, 2, none⟩ = some (.int .i64 t.sl) := (cell_of HR4.out.H 2).trans (congrArg some y2)
          have z3 : w4.cell? ⟨w3.heap.size, 3, none⟩ = some (.slice t.ca t.cs.length t.cc) := (cell_of HR4.out.H 3).trans (congrArg some y3)
          have z4 : w4.cell? ⟨w3.heap.size, 4, none⟩ = some (.slice t.da t.ds.length t.dc) := (cell_of HR4.out.H 4).trans (congrArg some y4)
          have z5 : w4.cell? ⟨w3.heap.size, 5, none⟩ = some (.slice t.ta t.ts.length t.tc) := (cell_of HR4.out.H 5).trans (congrArg some y5)
          have HN4 : Hid (w4.heap[w.heap.size]? = some (.cells #[.string ⟨#[]⟩, .slice none 0 0, .int .i64 0, .slice none 0 0, .slice none 0 0, .slice none 0 0] 26 (0, 0))) := (HR4.out.K (w.heap.size, 26, #[.string ⟨#[]⟩, .slice none 0 0, .int .i64 0, .slice none 0 0, .slice none 0 0, .slice none 0 0]) (by simp)).1
          have HTL : Hid (Bxs w (w4.setRow w.heap.size t.vals) t nb) := ⟨HIT.out.2.2, fun bx hbx => by
            have h1 := HF4.out bx hbx
            have h2 := (Array.getElem?_eq_some_iff.1 HN2.out).1
            exact ⟨(setRow_other _ _ _ _ (by omega)).trans (HR4.out.K bx (by simp [hbx])).1, by omega⟩⟩
          have HBS : Hid (Below w.heap.size w (w4.setRow w.heap.size t.vals)) := below_row HR4.out.B (Nat.le_refl _) _
          have HNS : Hid ((w4.setRow w.heap.size t.vals).heap[w.heap.size]? = some (.cells t.vals 26 (0, 0))) := setRow_heap _ _ _ _ _ _ HN4.out
          clear y0 y1 y2 y3 y4 y5
          go_wp2_with fail
          refine (cO _).mono ?_
          rintro e w5 ⟨rfl, rfl⟩
          go_wp2_with (refine wpList_store_row rfl 26 (.tmp 2) (.tmp 39) rfl w.heap.size t.vals rfl rfl 26 #[.string ⟨#[]⟩, .slice none 0 0, .int .i64 0, .slice none 0 0, .slice none 0 0, .slice none 0 0] HN4.out size26' rfl (allTb _) ?_)
          refine bodyPost_ret (results_cell_row rfl _ _ w.heap.size 26 t.vals (0, 0) _ rfl HNS.out Tryd.underlying26 rfl size26') rfl ?_
          rw [HN.out]
          exact ⟨t, nb, rfl, HIT.out.2.1, HTL.out, HBS.out⟩
end Go.Proofs.YteedmmljahgpjabDoor

/-
  Decode: what gives up is caught.
-/
namespace Go.Proofs.YteedmmljahgpjabDoor
open Go.RowKit
set_option linter.unusedVariables false
set_option linter.unusedSimpArgs false
def tb0 : Array Value := #[.string ⟨#[]⟩, .slice none 0 0, .int .i64 0, .slice none 0 0, .slice none 0 0, .slice none 0 0]
theorem tb0_all : tb0.all (·.oneCell') = true := by simp [tb0, Value.oneCell']
theorem assert_hit (v : Value) (w : World) : (Instr.typeAssert (.iface 60 v) 20 60 true).run Tryd.prog w = .ok (.tuple #[v, .bool true]) w := by
  simp [Instr.typeAssert, run_underlying Tryd.underlying60, go_sem, Result.andThen]
theorem assert_nil (w : World) : (Instr.typeAssert .nilIface 20 60 true).run Tryd.prog w = .ok (.tuple #[.agg #[], .bool false]) w := by
  simp [Instr.typeAssert, run_underlying Tryd.underlying60, go_sem, Result.andThen]
set_option maxRecDepth 100000 in
theorem catch40_i (p q : Addr) (w : World) :
    CallsD Tryd.prog 16 #[.pointer (some p), .pointer (some q)] .returning w fun e u' w' => e = .returned (.tuple #[]) ∧ u' = .returning ∧ w' = w.alloc (.cells #[] 60) := by
  refine callsD_of_wpS Tryd.func16 rfl fun c₀ cs hu => ?_
  apply wpS_seq
  apply wpS_region
  simp [wpOpsS, go_sem, recoverD, hu, Tryd.ntmps16, assert_nil, Result.andThen, Exit.thenS]
  simp only [Array.replicate_succ, Array.replicate_zero, List.push_toArray, List.append_toArray, List.nil_append, List.cons_append, List.setIfInBounds_toArray, List.set_cons_zero, List.set_cons_succ]
  refine wpS_of_wp ?_
  go_wp2_with fail
  cases c₀
  simp_all [bodyPostS, results, Tryd.results16]
set_option maxRecDepth 100000 in
theorem catch40_p (g1 g2 : Nat) (cs1 : Array Value) (y : Value) (older : List PanicEntry) (w : World) (hp : w.heap[g1]? = some (.cells cs1 26 (0, 0))) (hc : cs1.size = 6) (hq : w.heap[g2]? = some (.cells #[y] 29 (0, 0))) (hne : g1 ≠ g2) :
    CallsD Tryd.prog 16 #[.pointer (some ⟨g1, 0, none⟩), .pointer (some ⟨g2, 0, none⟩)] (.panicking ({ v := pf, recovered := false } :: older)) w fun e u' w' =>
      e = .returned (.tuple #[]) ∧ u' = .panicking ({ v := pf, recovered := true } :: older) ∧ w' = ((w.alloc (.cells #[] 60)).setRow g1 tb0).setCell ⟨g2, 0, none⟩ (.int .i64 194) := by
  have lp := (Array.getElem?_eq_some_iff.1 hp).1
  have lq := (Array.getElem?_eq_some_iff.1 hq).1
  have b1 := below_new w (.cells #[] 60)
  have HP1 : Hid ((w.alloc (.cells #[] 60)).heap[g1]? = some (.cells cs1 26 (0, 0))) := (b1.block _ lp).trans hp
  have hq1 : ((w.alloc (.cells #[] 60)).setRow g1 tb0).heap[g2]? = some (.cells #[y] 29 (0, 0)) := (setRow_other _ _ _ _ (Ne.symm hne)).trans ((b1.block _ lq).trans hq)
  have c1 : ((w.alloc (.cells #[] 60)).setRow g1 tb0).cell? ⟨g2, 0, none⟩ = some y := cell_of hq1 0
  have f1 : ((w.alloc (.cells #[] 60)).setRow g1 tb0).frozen? ⟨g2, 0, none⟩ = false := frozen_of hq1 0
  clear hq1 b1 lp lq hp hq
  refine callsD_of_wpS Tryd.func16 rfl fun c₀ cs hu => ?_
  apply wpS_seq
  apply wpS_region
  unfold pf at hu ⊢
  simp [wpOpsS, go_sem, recoverD, hu, Tryd.ntmps16, assert_hit, Result.andThen, Exit.thenS]
  simp only [Array.replicate_succ, Array.replicate_zero, List.push_toArray, List.append_toArray, List.nil_append, List.cons_append, List.setIfInBounds_toArray, List.set_cons_zero, List.set_cons_succ]
  refine wpS_of_wp ?_
  go_wp2_with (refine wpList_store_row rfl 26 (.tmp 0) (.tmp 10) rfl g1 tb0 rfl rfl 26 cs1 HP1.out size26' (by rw [hc]; rfl) tb0_all ?_)
  cases c₀
  simp_all [bodyPostS, results, Tryd.results16]
end Go.Proofs.YteedmmljahgpjabDoor
