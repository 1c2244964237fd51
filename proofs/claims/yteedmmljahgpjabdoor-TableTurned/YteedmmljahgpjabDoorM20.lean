import Derived.Test.YteedmmljahgpjabDoorM19
/-
  The reader: a state; lists of numbers, instructions, states.
-/
namespace Go.Proofs.YteedmmljahgpjabDoor
open Go.RowKit
set_option linter.unusedVariables false
set_option linter.unusedSimpArgs false
theorem rules_any {mz R n : Nat} {bs : List Bx} {q : RS} {s : ByteArray} {p : Int} {t : TbM} {w w0 : World} (h : Rd w0 mz w R bs q s p) (hs : s.size ≤ 1099511627776) (hn : n ≤ 12) (hq : 0 ≤ q.sp ∧ q.sp ≤ 200000000000) (hqt : IsT q t) (bs0 : List Bx) (hsub : ∀ b ∈ bs0, b ∈ bs) (hK : Keep bs0 (fun V => TbL V t)) : Calls Tryd.prog 61 #[.int .i64 n, .func (.func 62) #[.pointer (some ⟨R, 0, none⟩)] #[]] w (OutL w0 mz R bs s RelG 5 n w.heap.size (listR (ruleR t.ds s.data.toList) n q p)) :=
  list135_any (ruleR t.ds s.data.toList) RelG Value.agg (fun i q' => (0 ≤ q'.sp ∧ q'.sp ≤ q.sp + 200000 * i) ∧ Same6 q q') R n bs q s p w w0 h (by omega) ⟨⟨hq.1, by simp⟩, Same6.refl _⟩ (fun a x nb _ => rfl) (fun a x nb hx => by obtain ⟨y, rfl, _⟩ := hx; exact ⟨rfl, allGd _⟩)
    (fun i q1 p1 a q' p' hi hq1 hst => by
      obtain ⟨a1, a2, a3⟩ := ruleR_6 hst
      exact ⟨by omega, hq1.2.trans a1⟩)
    (fun i V bs1 q1 p1 hi hq1 hsb hV => rrule_any R bs1 q1 s p1 t V w0 hV rfl hs ⟨hq1.1.1, by omega⟩ (hqt.on hq1.2) bs0 (fun b hb => hsb b (hsub b hb)) hK)
def stateR (ds : List InM) (l : List UInt8) (q : RS) (p : Int) : Option (List GdP × RS × Int) := (uptoR 12 l p).bind fun n => listR (ruleR ds l) n.1.toNat q n.2
theorem rulesR_6 {ds : List InM} {l : List UInt8} : ∀ (n : Nat) {q q2 : RS} {p p2 : Int} {al : List GdP}, listR (ruleR ds l) n q p = some (al, q2, p2) → Same6 q q2 ∧ q.sp ≤ q2.sp ∧ q2.sp ≤ q.sp + 200000 * n ∧ al.length = n
  | 0, q, q2, p, p2, al, h => by
    unfold listR at h
    injection h with h
    injection h with a b
    injection b with b c
    subst a b
    exact ⟨Same6.refl _, Int.le_refl _, by simp, rfl⟩
  | n + 1, q, q2, p, p2, al, h => by
    unfold listR at h
    obtain ⟨⟨d, q1, p1⟩, h1, h2⟩ := Option.bind_eq_some_iff.1 h
    obtain ⟨⟨y, q3, p3⟩, h3, h4⟩ := Option.map_eq_some_iff.1 h2
    have hq : q3 = q2 := by injection h4 with a b; injection b
    have hal : d :: y = al := by injection h4
    subst hq hal
    obtain ⟨a1, a2, a3⟩ := ruleR_6 h1
    obtain ⟨b1, b2, b3, b4⟩ := rulesR_6 n h3
    simp only at b1 b2 b3
    exact ⟨a1.trans b1, by omega, by omega, by rw [List.length_cons, b4]⟩
theorem stateR_6 {ds : List InM} {l : List UInt8} {q q2 : RS} {p p2 : Int} {al : List GdP} (h : stateR ds l q p = some (al, q2, p2)) : Same6 q q2 ∧ q.sp ≤ q2.sp ∧ q2.sp ≤ q.sp + 2400000 := by
  unfold stateR at h
  obtain ⟨⟨n, pn⟩, hn, h2⟩ := Option.bind_eq_some_iff.1 h
  have := uptoR_bd hn
  obtain ⟨a, b, c, _⟩ := rulesR_6 _ h2
  simp only at c
  exact ⟨a, b, by omega⟩
def RelS (gs : List GdP) (x : Array Value) (nb : List Bx) : Prop := ∃ a xs nb1 nbs, x = #[.slice a gs.length gs.length] ∧ nb = nb1 ++ nbs ∧ Rels RelG gs xs nbs ∧ xs.length = gs.length ∧ Keep nb1 (fun V => SlAt V 5 a gs.length xs)
set_option maxRecDepth 100000 in
set_option maxHeartbeats 4000000 in
theorem rstate_any (R : Nat) (bs : List Bx) (q : RS) (s : ByteArray) (p : Int) (t : TbM) (w : World) {mz : Nat} (w0 : World) (h : Rd w0 mz w R bs q s p) (hmz : mz = w.heap.size) (hs : s.size ≤ 1099511627776) (hq : 0 ≤ q.sp ∧ q.sp ≤ 200000000000) (hqt : IsT q t) (bs0 : List Bx) (hsub : ∀ b ∈ bs0, b ∈ bs) (hK : Keep bs0 (fun V => TbL V t)) : Calls Tryd.prog 50 #[.pointer (some ⟨R, 0, none⟩)] w fun e w' => OutS w0 mz R bs s RelS mkS w.heap.size (stateR t.ds s.data.toList q p) e w' := by
  have hmf : ∀ (fn : Fn) (first cap : Array Value) (w : World), (Instr.makeFunc fn first cap).run Tryd.prog w = .ok (.func fn first cap) w := fun _ _ _ _ => rfl
  have HMZ : Hid (mz = w.heap.size) := hmz
  unfold stateR
  cases hn : uptoR 12 s.data.toList p with
  | none =>
    have cU := upto_no h hs (by omega) hn
    show Calls Tryd.prog 50 #[.pointer (some ⟨R, 0, none⟩)] w (fun e w' => e = pan pf ∧ Below w0.heap.size w0 w')
    clear h
    go_enter Tryd.func50, Tryd.ntmps50
    go_wp2_with fail
    refine cU.mono ?_
    rintro e w2 ⟨rfl, hb⟩
    exact ⟨rfl, rfl, hb⟩
  | some np =>
    obtain ⟨n, p2⟩ := np
    obtain ⟨hn0, hn12⟩ := uptoR_bd hn
    obtain ⟨k, rfl⟩ := Int.eq_ofNat_of_zero_le hn0
    have hk12 : k ≤ 12 := by omega
    have cU := upto_ok h hs (by omega) hn
    show Calls Tryd.prog 50 #[.pointer (some ⟨R, 0, none⟩)] w (OutS w0 mz R bs s RelS mkS w.heap.size (listR (ruleR t.ds s.data.toList) k q p2))
    cases hrs : listR (ruleR t.ds s.data.toList) k q p2 with
    | none =>
      show Calls Tryd.prog 50 #[.pointer (some ⟨R, 0, none⟩)] w (fun e w' => e = pan pf ∧ Below w0.heap.size w0 w')
      clear h
      go_enter Tryd.func50, Tryd.ntmps50
      go_wp2_with fail
      refine cU.mono ?_
      rintro e w2 ⟨rfl, hr2⟩
      have cR := rules_any (n := k) hr2 hs hk12 hq hqt bs0 hsub hK
      rw [hrs] at cR
      replace cR : Calls Tryd.prog 61 #[.int .i64 k, .func (.func 62) #[.pointer (some ⟨R, 0, none⟩)] #[]] w2 (fun e w' => e = pan pf ∧ Below w0.heap.size w0 w') := cR
      clear cU hr2 hK hsub hqt
      go_wp2_with fail
      refine cR.mono ?_
      rintro e w3 ⟨rfl, hb⟩
      exact ⟨rfl, rfl, hb⟩
    | some rq =>
      obtain ⟨gs, q3, p3⟩ := rq
      obtain ⟨_, _, _, hlen⟩ := rulesR_6 k hrs
      show Calls Tryd.prog 50 #[.pointer (some ⟨R, 0, none⟩)] w (fun e w' => ∃ x nb, e = .returned (mkS x) ∧ RelS gs x nb ∧ Rd w0 mz w' R (nb ++ bs) q3 s p3 ∧ (∀ b ∈ nb, w.heap.size ≤ b.1) ∧ w.heap.size ≤ w'.heap.size)
      clear h
      go_enter Tryd.func50, Tryd.ntmps50
      go_wp2_with fail
      refine cU.mono ?_
      rintro e w2 ⟨rfl, hr2⟩
      have cR := rules_any (n := k) hr2 hs hk12 hq hqt bs0 hsub hK
      rw [hrs] at cR
      have HM2 : Hid (w.heap.size ≤ w2.heap.size) := by have := hr2.M; rw [HMZ.out] at this; exact this
      clear cU hr2 hK hsub hqt
      go_wp2_with fail
      refine cR.mono ?_
      rintro e w5 ⟨ra, xs, nb, nbs, rfl, hrel, hxl, hkp, hr5, hf5, hs5⟩
      have HR5 : Hid (Rd w0 mz w5 R ((nb ++ nbs) ++ bs) q3 s p3) := by rw [List.append_assoc]; exact hr5
      have HRL : Hid (Rels RelG gs xs nbs ∧ xs.length = k ∧ Keep nb (fun V => SlAt V 5 ra k xs) ∧ (∀ b ∈ nb ++ nbs, w.heap.size ≤ b.1) ∧ w.heap.size ≤ w5.heap.size) := ⟨hrel, hxl, hkp, fun b hb => Nat.le_trans HM2.out (hf5 b hb), Nat.le_trans HM2.out hs5⟩
      clear cR hr5 hrel hxl hkp hf5 hs5
      go_wp2_with fail
      go_ret
      subst hlen
      exact ⟨#[.slice ra gs.length gs.length], nb ++ nbs, rfl, ⟨ra, xs, nb, nbs, rfl, rfl, HRL.out.1, HRL.out.2.1, HRL.out.2.2.1⟩, HR5.out, HRL.out.2.2.2.1, HRL.out.2.2.2.2⟩
theorem states_any {mz R n : Nat} {bs : List Bx} {q : RS} {s : ByteArray} {p : Int} {t : TbM} {w w0 : World} (h : Rd w0 mz w R bs q s p) (hs : s.size ≤ 1099511627776) (hn : n ≤ 12) (hq : 0 ≤ q.sp ∧ q.sp ≤ 100000000000) (hqt : IsT q t) (bs0 : List Bx) (hsub : ∀ b ∈ bs0, b ∈ bs) (hK : Keep bs0 (fun V => TbL V t)) : Calls Tryd.prog 49 #[.int .i64 n, .func (.func 50) #[.pointer (some ⟨R, 0, none⟩)] #[]] w (OutL w0 mz R bs s RelS 1 n w.heap.size (listR (stateR t.ds s.data.toList) n q p)) :=
  list115_any (stateR t.ds s.data.toList) RelS mkS (fun i q' => (0 ≤ q'.sp ∧ q'.sp ≤ q.sp + 2400000 * i) ∧ Same6 q q') R n bs q s p w w0 h (by omega) ⟨⟨hq.1, by simp⟩, Same6.refl _⟩ (fun a x nb hx => by obtain ⟨_, _, _, _, rfl, _⟩ := hx; rfl) (fun a x nb hx => by obtain ⟨_, _, _, _, rfl, _⟩ := hx; exact ⟨rfl, by simp [Value.oneCell']⟩)
    (fun i q1 p1 a q' p' hi hq1 hst => by
      obtain ⟨a1, a2, a3⟩ := stateR_6 hst
      exact ⟨by omega, hq1.2.trans a1⟩)
    (fun i V bs1 q1 p1 hi hq1 hsb hV => rstate_any R bs1 q1 s p1 t V w0 hV rfl hs ⟨hq1.1.1, by omega⟩ (hqt.on hq1.2) bs0 (fun b hb => hsb b (hsub b hb)) hK)
theorem ints_any {mz R n : Nat} {bs : List Bx} {q : RS} {s : ByteArray} {p : Int} {w w0 : World} (h : Rd w0 mz w R bs q s p) (hs : s.size ≤ 1099511627776) (hn : n ≤ 100000) : Calls Tryd.prog 44 #[.int .i64 n, .func (.func 46) #[.pointer (some ⟨R, 0, none⟩)] #[]] w (OutL w0 mz R bs s RelI 1 n w.heap.size (listR (stI s.data.toList) n q p)) :=
  list110_any (stI s.data.toList) RelI mkS (fun _ _ => True) R n bs q s p w w0 h hn trivial (fun a x nb hx => by obtain ⟨rfl, _⟩ := hx; rfl) (fun a x nb hx => by obtain ⟨rfl, _⟩ := hx; exact ⟨rfl, by simp [nvals, Value.oneCell']⟩)
    (fun _ _ _ _ _ _ _ _ _ => trivial) (fun i V bs1 q1 p1 hi _ _ hV => stepI hV hs)
theorem instrs_any {mz R n : Nat} {bs : List Bx} {q : RS} {s : ByteArray} {p : Int} {w w0 : World} (h : Rd w0 mz w R bs q s p) (hs : s.size ≤ 1099511627776) (hn : n ≤ 100000) : Calls Tryd.prog 47 #[.int .i64 n, .func (.func 48) #[.pointer (some ⟨R, 0, none⟩)] #[]] w (OutL w0 mz R bs s RelD 2 n w.heap.size (listR (stD s.data.toList) n q p)) :=
  list113_any (stD s.data.toList) RelD Value.agg (fun _ _ => True) R n bs q s p w w0 h hn trivial (fun a x nb _ => rfl) (fun a x nb hx => by obtain ⟨rfl, _⟩ := hx; exact ⟨rfl, allIn _⟩)
    (fun _ _ _ _ _ _ _ _ _ => trivial) (fun i V bs1 q1 p1 hi _ _ hV => stepD hV hs)
end Go.Proofs.YteedmmljahgpjabDoor

/-
  Plain: what is read hangs on what was read before by how far alone.
-/
namespace Go.Proofs.YteedmmljahgpjabDoor
open Go.RowKit
set_option linter.unusedVariables false
set_option linter.unusedSimpArgs false
def Sim {α : Type} (r r' : Option (α × RS × Int)) : Prop := r.map (fun d => (d.1, d.2.1.sp, d.2.2)) = r'.map (fun d => (d.1, d.2.1.sp, d.2.2))
theorem Sim.cases {α : Type} {r r' : Option (α × RS × Int)} (h : Sim r r') : (r = none ∧ r' = none) ∨ ∃ a q q' p, r = some (a, q, p) ∧ r' = some (a, q', p) ∧ q.sp = q'.sp := by
  unfold Sim at h
  cases r with
  | none =>
    cases r' with
    | none => exact .inl ⟨rfl, rfl⟩
    | some b => cases h
  | some a =>
    cases r' with
    | none => cases h
    | some b =>
      obtain ⟨a1, a2, a3⟩ := a
      obtain ⟨b1, b2, b3⟩ := b
      simp only [Option.map_some, Option.some.injEq, Prod.mk.injEq] at h
      obtain ⟨h1, h2, h3⟩ := h
      subst h1 h3
      exact .inr ⟨_, _, _, _, rfl, rfl, h2⟩
theorem Sim.refl {α : Type} (r : Option (α × RS × Int)) : Sim r r := rfl
theorem Sim.bind {α β : Type} {r r' : Option (α × RS × Int)} (h : Sim r r') {f f' : α × RS × Int → Option (β × RS × Int)} (k : ∀ a q q' p, q.sp = q'.sp → Sim (f (a, q, p)) (f' (a, q', p))) : Sim (r.bind f) (r'.bind f') := by
  rcases h.cases with ⟨rfl, rfl⟩ | ⟨a, q, q', p, rfl, rfl, e⟩
  · rfl
  · exact k a q q' p e
theorem Sim.map {α β : Type} {r r' : Option (α × RS × Int)} (h : Sim r r') (g : α → β) : Sim (r.map fun d => (g d.1, d.2)) (r'.map fun d => (g d.1, d.2)) := by
  rcases h.cases with ⟨rfl, rfl⟩ | ⟨a, q, q', p, rfl, rfl, e⟩
  · rfl
  · unfold Sim
    simp [e]
theorem lenR_sim (l : List UInt8) {q q' : RS} (h : q.sp = q'.sp) (p : Int) : Sim (lenR q l p) (lenR q' l p) := by
  unfold lenR
  cases uptoR 4096 l p with
  | none => rfl
  | some n => unfold Sim spR; simp [h]
theorem spsR_sim (l : List UInt8) : ∀ (b : List Bool) {q q' : RS} (h : q.sp = q'.sp) (p : Int), Sim (spsR b q l p) (spsR b q' l p)
  | [], q, q', h, p => by unfold spsR Sim; simp [h]
  | c :: b, q, q', h, p => by
    unfold spsR
    split
    · exact (lenR_sim l h p).bind fun a q1 q2 p1 e => (spsR_sim l b e p1).map (fun x => a :: x)
    · exact (spsR_sim l b h p).map (fun x => sp0 :: x)
theorem rowR_sim (l : List UInt8) {q q' : RS} (h : q.sp = q'.sp) (p : Int) : Sim (rowR q l p) (rowR q' l p) := by
  unfold rowR
  cases uptoR 6 l p with
  | none => rfl
  | some k =>
    simp only [Option.bind_some]
    cases uptoR 5 l k.2 with
    | none => rfl
    | some o =>
      simp only [Option.bind_some]
      cases uptoR 12 l o.2 with
      | none => rfl
      | some i => exact (spsR_sim l _ h i.2).map (fun x => mkRow k.1 o.1 i.1 x)
theorem listR_sim {α : Type} {st : RS → Int → Option (α × RS × Int)} (hst : ∀ q q' p, q.sp = q'.sp → Sim (st q p) (st q' p)) : ∀ (n : Nat) {q q' : RS} (h : q.sp = q'.sp) (p : Int), Sim (listR st n q p) (listR st n q' p)
  | 0, q, q', h, p => by unfold listR Sim; simp [h]
  | n + 1, q, q', h, p => by
    unfold listR
    exact (hst q q' p h).bind fun a q1 q2 p1 e => (listR_sim hst n e p1).map (fun x => a :: x)
theorem ruleR_sim (ds : List InM) (l : List UInt8) {q q' : RS} (h : q.sp = q'.sp) (p : Int) : Sim (ruleR ds l q p) (ruleR ds l q' p) := by
  unfold ruleR
  refine (lenR_sim l h p).bind fun d q1 q2 p1 e => ?_
  simp only
  cases uptoR 8 l p1 with
  | none => rfl
  | some n => exact (listR_sim (fun a b c k => rowR_sim l k c) _ e n.2).map (fun x => (⟨d, (readsN ds d).1, (readsN ds d).2, x⟩ : GdP))
theorem stateR_sim (ds : List InM) (l : List UInt8) {q q' : RS} (h : q.sp = q'.sp) (p : Int) : Sim (stateR ds l q p) (stateR ds l q' p) := by
  unfold stateR
  cases uptoR 12 l p with
  | none => rfl
  | some n => exact listR_sim (fun a b c k => ruleR_sim ds l k c) _ h n.2
theorem statesR_sim (ds : List InM) (l : List UInt8) (n : Nat) {q q' : RS} (h : q.sp = q'.sp) (p : Int) : Sim (listR (stateR ds l) n q p) (listR (stateR ds l) n q' p) := listR_sim (fun a b c k => stateR_sim ds l k c) n h p
def intsR (l : List UInt8) : Nat → Int → Option (List Int × Int)
  | 0, p => some ([], p)
  | n + 1, p => (signR l p).bind fun d => (intsR l n d.2).map fun r => (d.1 :: r.1, r.2)
def insR (l : List UInt8) : Nat → Int → Option (List InM × Int)
  | 0, p => some ([], p)
  | n + 1, p => (instrR l p).bind fun d => (insR l n d.2).map fun r => (d.1 :: r.1, r.2)
theorem ints_eq (l : List UInt8) : ∀ (n : Nat) (q : RS) (p : Int), listR (stI l) n q p = (intsR l n p).map fun r => (r.1, q, r.2)
  | 0, q, p => rfl
  | n + 1, q, p => by
    unfold listR intsR stI
    cases signR l p with
    | none => rfl
    | some d =>
      simp only [Option.map_some, Option.bind_some]
      rw [show listR (fun q p => Option.map (fun n => (n.1, q, n.2)) (signR l p)) n q d.2 = listR (stI l) n q d.2 from rfl, ints_eq l n q d.2]
      cases intsR l n d.2 with
      | none => rfl
      | some r => rfl
theorem ins_eq (l : List UInt8) : ∀ (n : Nat) (q : RS) (p : Int), listR (stD l) n q p = (insR l n p).map fun r => (r.1, q, r.2)
  | 0, q, p => rfl
  | n + 1, q, p => by
    unfold listR insR stD
    cases instrR l p with
    | none => rfl
    | some d =>
      simp only [Option.map_some, Option.bind_some]
      rw [show listR (fun q p => Option.map (fun n => (n.1, q, n.2)) (instrR l p)) n q d.2 = listR (stD l) n q d.2 from rfl, ins_eq l n q d.2]
      cases insR l n d.2 with
      | none => rfl
      | some r => rfl
/-- A table that was read, plain. -/
structure TbP where
  x : ByteArray
  rs : List Int
  sl : Int
  cs : List Int
  ds : List InM
  ts : List (List GdP)
def q00 : RS := ⟨.string ⟨#[]⟩, .slice none 0 0, .int .i64 0, .slice none 0 0, .slice none 0 0, .slice none 0 0, 0⟩
def readR (l : List UInt8) (p : Int) : Option (TbP × Int) :=
  (txtR l p).bind fun x => (uptoR 12 l x.2).bind fun n1 => (intsR l n1.1.toNat n1.2).bind fun rs => (uptoR 4 l rs.2).bind fun sl => (uptoR 1024 l sl.2).bind fun n2 => (intsR l n2.1.toNat n2.2).bind fun cs => (uptoR 4096 l cs.2).bind fun n3 => (insR l n3.1.toNat n3.2).bind fun ds => (uptoR 12 l ds.2).bind fun n4 => (listR (stateR ds.1 l) n4.1.toNat q00 n4.2).map fun r => (⟨x.1, rs.1, sl.1, cs.1, ds.1, r.1⟩, r.2.2)
end Go.Proofs.YteedmmljahgpjabDoor

/-
  Plain: the bounds of what is read; lists as they lie.
-/
namespace Go.Proofs.YteedmmljahgpjabDoor
open Go.RowKit
set_option linter.unusedVariables false
set_option linter.unusedSimpArgs false
theorem orM_16 (m a : Int) : U16 (orM m a) := by
  unfold orM
  exact ⟨bits_lo_u16 _ _ _, bits_hi_u16 _ _ _⟩
theorem rd1_16 (d : InM) {q : Int × Int} (h : U16 q.1 ∧ U16 q.2) : U16 (rd1 d q).1 ∧ U16 (rd1 d q).2 := by
  unfold rd1
  repeat' split
  all_goals first | exact h | exact ⟨orM_16 _ _, h.2⟩ | exact ⟨h.1, orM_16 _ _⟩
theorem rdL_16 (ds : List InM) : ∀ (n a : Nat) {q : Int × Int}, U16 q.1 ∧ U16 q.2 → U16 (rdL ds n a q).1 ∧ U16 (rdL ds n a q).2
  | 0, a, q, h => h
  | n + 1, a, q, h => rdL_16 ds n (a + 1) (rd1_16 _ h)
theorem readsN_16 (ds : List InM) (x : Sp) : U16 (readsN ds x).1 ∧ U16 (readsN ds x).2 := rdL_16 ds _ _ ⟨⟨by decide, by decide⟩, by decide, by decide⟩
theorem lenR_I {q q2 : RS} {l : List UInt8} {p p2 : Int} {d : Sp} (h : lenR q l p = some (d, q2, p2)) (hq : 0 ≤ q.sp ∧ q.sp ≤ 1000000000000) : SpI d := by
  unfold lenR at h
  obtain ⟨⟨n, m⟩, h1, h2⟩ := Option.map_eq_some_iff.1 h
  obtain ⟨h3, h4⟩ := uptoR_bd h1
  have h5 : (⟨q.sp, q.sp + n⟩ : Sp) = d := by injection h2
  subst h5
  unfold SpI I64
  simp only
  omega
theorem sp0_I : SpI sp0 := ⟨⟨by decide, by decide⟩, by decide, by decide⟩
theorem spsR_I {l : List UInt8} : ∀ (b : List Bool) {q q2 : RS} {p p2 : Int} {x : List Sp}, spsR b q l p = some (x, q2, p2) → 0 ≤ q.sp ∧ q.sp ≤ 1000000000000 - 4096 * b.length → ∀ y ∈ x, SpI y
  | [], q, q2, p, p2, x, h, _ => by
    have h1 : [] = x := by unfold spsR at h; injection h with h; injection h
    subst h1
    simp
  | c :: b, q, q2, p, p2, x, h, hq => by
    rw [List.length_cons] at hq
    unfold spsR at h
    split at h
    · obtain ⟨⟨d, q1, p1⟩, h1, h2⟩ := Option.bind_eq_some_iff.1 h
      obtain ⟨⟨y, q3, p3⟩, h3, h4⟩ := Option.map_eq_some_iff.1 h2
      have hx : d :: y = x := by injection h4
      subst hx
      obtain ⟨a1, a2, a3⟩ := lenR_6 h1
      intro z hz
      rcases List.mem_cons.1 hz with rfl | hz
      · exact lenR_I h1 (by omega)
      · exact spsR_I b h3 (by simp only; omega) z hz
    · obtain ⟨⟨y, q3, p3⟩, h3, h4⟩ := Option.map_eq_some_iff.1 h
      have hx : sp0 :: y = x := by injection h4
      subst hx
      intro z hz
      rcases List.mem_cons.1 hz with rfl | hz
      · exact sp0_I
      · exact spsR_I b h3 (by omega) z hz
theorem getD_I {x : List Sp} (h : ∀ y ∈ x, SpI y) (i : Nat) : SpI (x.getD i sp0) := by
  rw [List.getD_eq_getElem?_getD]
  rcases Nat.lt_or_ge i x.length with hi | hi
  · rw [List.getElem?_eq_getElem hi]; exact h _ (List.getElem_mem hi)
  · rw [List.getElem?_eq_none hi]; exact sp0_I
theorem rowR_I {q q2 : RS} {l : List UInt8} {p p2 : Int} {r : RowM} (h : rowR q l p = some (r, q2, p2)) (hq : 0 ≤ q.sp ∧ q.sp ≤ 500000000000) : RowI r := by
  unfold rowR at h
  obtain ⟨k, hk, h⟩ := Option.bind_eq_some_iff.1 h
  obtain ⟨o, ho, h⟩ := Option.bind_eq_some_iff.1 h
  obtain ⟨i, hi, h⟩ := Option.bind_eq_some_iff.1 h
  obtain ⟨⟨y, q3, p3⟩, h3, h4⟩ := Option.map_eq_some_iff.1 h
  have hx : mkRow k.1 o.1 i.1 y = r := by injection h4
  subst hx
  have k1 := uptoR_bd hk
  have o1 := uptoR_bd ho
  have i1 := uptoR_bd hi
  have hy := spsR_I _ h3 (by simp only [prts, List.length_cons, List.length_nil]; omega)
  exact ⟨⟨k1.1, by show k.1 ≤ 255; omega⟩, ⟨o1.1, by show o.1 ≤ 255; omega⟩, ⟨by show _ ≤ i.1; omega, by show i.1 ≤ _; omega⟩, getD_I hy 0, getD_I hy 1, getD_I hy 2, getD_I hy 3⟩
theorem rowsR_I {l : List UInt8} : ∀ (n : Nat) {q q2 : RS} {p p2 : Int} {al : List RowM}, listR (stR l) n q p = some (al, q2, p2) → 0 ≤ q.sp ∧ q.sp ≤ 500000000000 - 16384 * n → ∀ r ∈ al, RowI r
  | 0, q, q2, p, p2, al, h, _ => by
    have h1 : [] = al := by unfold listR at h; injection h with h; injection h
    subst h1
    simp
  | n + 1, q, q2, p, p2, al, h, hq => by
    unfold listR at h
    obtain ⟨⟨d, q1, p1⟩, h1, h2⟩ := Option.bind_eq_some_iff.1 h
    obtain ⟨⟨y, q3, p3⟩, h3, h4⟩ := Option.map_eq_some_iff.1 h2
    have hal : d :: y = al := by injection h4
    subst hal
    obtain ⟨a1, a2, a3⟩ := rowR_6 h1
    intro z hz
    rcases List.mem_cons.1 hz with rfl | hz
    · exact rowR_I h1 (by omega)
    · exact rowsR_I n h3 (by simp only; omega) z hz
def GdI (g : GdP) : Prop := SpI g.wh ∧ U16 g.fd ∧ U16 g.rg ∧ ∀ r ∈ g.rs, RowI r
theorem ruleR_I {ds : List InM} {l : List UInt8} {q q2 : RS} {p p2 : Int} {g : GdP} (h : ruleR ds l q p = some (g, q2, p2)) (hq : 0 ≤ q.sp ∧ q.sp ≤ 400000000000) : GdI g := by
  unfold ruleR at h
  obtain ⟨⟨d, q1, p1⟩, h1, h2⟩ := Option.bind_eq_some_iff.1 h
  obtain ⟨⟨n, pn⟩, hn, h2⟩ := Option.bind_eq_some_iff.1 h2
  obtain ⟨⟨y, q3, p3⟩, h3, h4⟩ := Option.map_eq_some_iff.1 h2
  have hg : (⟨d, (readsN ds d).1, (readsN ds d).2, y⟩ : GdP) = g := by injection h4
  subst hg
  have := uptoR_bd hn
  obtain ⟨a1, a2, a3⟩ := lenR_6 h1
  exact ⟨lenR_I h1 (by omega), (readsN_16 ds d).1, (readsN_16 ds d).2, rowsR_I _ h3 (by simp only; omega)⟩
theorem rulesR_I {ds : List InM} {l : List UInt8} : ∀ (n : Nat) {q q2 : RS} {p p2 : Int} {al : List GdP}, listR (ruleR ds l) n q p = some (al, q2, p2) → 0 ≤ q.sp ∧ q.sp ≤ 400000000000 - 200000 * n → ∀ g ∈ al, GdI g
  | 0, q, q2, p, p2, al, h, _ => by
    have h1 : [] = al := by unfold listR at h; injection h with h; injection h
    subst h1
    simp
  | n + 1, q, q2, p, p2, al, h, hq => by
    unfold listR at h
    obtain ⟨⟨d, q1, p1⟩, h1, h2⟩ := Option.bind_eq_some_iff.1 h
    obtain ⟨⟨y, q3, p3⟩, h3, h4⟩ := Option.map_eq_some_iff.1 h2
    have hal : d :: y = al := by injection h4
    subst hal
    obtain ⟨a1, a2, a3⟩ := ruleR_6 h1
    intro z hz
    rcases List.mem_cons.1 hz with rfl | hz
    · exact ruleR_I h1 (by omega)
    · exact rulesR_I n h3 (by simp only; omega) z hz
theorem statesR_I {ds : List InM} {l : List UInt8} : ∀ (n : Nat) {q q2 : RS} {p p2 : Int} {al : List (List GdP)}, listR (stateR ds l) n q p = some (al, q2, p2) → 0 ≤ q.sp ∧ q.sp ≤ 300000000000 - 2400000 * n → (∀ gs ∈ al, ∀ g ∈ gs, GdI g) ∧ al.length = n
  | 0, q, q2, p, p2, al, h, _ => by
    have h1 : [] = al := by unfold listR at h; injection h with h; injection h
    subst h1
    exact ⟨by simp, rfl⟩
  | n + 1, q, q2, p, p2, al, h, hq => by
    unfold listR at h
    obtain ⟨⟨d, q1, p1⟩, h1, h2⟩ := Option.bind_eq_some_iff.1 h
    obtain ⟨⟨y, q3, p3⟩, h3, h4⟩ := Option.map_eq_some_iff.1 h2
    have hal : d :: y = al := by injection h4
    subst hal
    obtain ⟨a1, a2, a3⟩ := stateR_6 h1
    obtain ⟨i1, i2⟩ := statesR_I n h3 (by simp only; omega)
    refine ⟨fun z hz => ?_, by rw [List.length_cons, i2]⟩
    rcases List.mem_cons.1 hz with rfl | hz
    · unfold stateR at h1
      obtain ⟨⟨m, pm⟩, hm, h1⟩ := Option.bind_eq_some_iff.1 h1
      have := uptoR_bd hm
      exact rulesR_I _ h1 (by simp only; omega)
    · exact i1 z hz
theorem signR_I {l : List UInt8} {p n p2 : Int} (h : signR l p = some (n, p2)) : I64 n := by
  unfold signR at h
  obtain ⟨⟨m, pm⟩, h1, h2⟩ := Option.map_eq_some_iff.1 h
  have h3 := numR_bd h1
  have hn : W.zagN m = n := by injection h2
  subst hn
  exact W.zagN_bd m h3.1 h3.2
theorem intsR_I {l : List UInt8} : ∀ (n : Nat) {p p2 : Int} {al : List Int}, intsR l n p = some (al, p2) → (∀ m ∈ al, I64 m) ∧ al.length = n
  | 0, p, p2, al, h => by
    have h1 : [] = al := by unfold intsR at h; injection h with h; injection h
    subst h1
    exact ⟨by simp, rfl⟩
  | n + 1, p, p2, al, h => by
    unfold intsR at h
    obtain ⟨⟨d, p1⟩, h1, h2⟩ := Option.bind_eq_some_iff.1 h
    obtain ⟨⟨y, p3⟩, h3, h4⟩ := Option.map_eq_some_iff.1 h2
    have hal : d :: y = al := by injection h4
    subst hal
    obtain ⟨i1, i2⟩ := intsR_I n h3
    refine ⟨fun z hz => ?_, by rw [List.length_cons, i2]⟩
    rcases List.mem_cons.1 hz with rfl | hz
    · exact signR_I h1
    · exact i1 z hz
theorem insR_I {l : List UInt8} : ∀ (n : Nat) {p p2 : Int} {al : List InM}, insR l n p = some (al, p2) → (∀ m ∈ al, B8 m.k ∧ I64 m.a) ∧ al.length = n
  | 0, p, p2, al, h => by
    have h1 : [] = al := by unfold insR at h; injection h with h; injection h
    subst h1
    exact ⟨by simp, rfl⟩
  | n + 1, p, p2, al, h => by
    unfold insR at h
    obtain ⟨⟨d, p1⟩, h1, h2⟩ := Option.bind_eq_some_iff.1 h
    obtain ⟨⟨y, p3⟩, h3, h4⟩ := Option.map_eq_some_iff.1 h2
    have hal : d :: y = al := by injection h4
    subst hal
    obtain ⟨i1, i2⟩ := insR_I n h3
    refine ⟨fun z hz => ?_, by rw [List.length_cons, i2]⟩
    rcases List.mem_cons.1 hz with rfl | hz
    · unfold instrR at h1
      obtain ⟨k, hk, h1⟩ := Option.bind_eq_some_iff.1 h1
      obtain ⟨a, ha, h1⟩ := Option.map_eq_some_iff.1 h1
      have hd : (⟨k.1, a.1⟩ : InM) = z := by injection h1
      subst hd
      have k1 := uptoR_bd hk
      have a1 := uptoR_bd ha
      exact ⟨⟨k1.1, by show k.1 ≤ 255; omega⟩, by show _ ≤ a.1; omega, by show a.1 ≤ _; omega⟩
    · exact i1 z hz
def plG (g : GdM) : GdP := ⟨g.wh, g.fd, g.rg, g.rs⟩
theorem Keep.app {a b : List Bx} {F G : World → Prop} (h : Keep a F) (k : Keep b G) : Keep (a ++ b) (fun V => F V ∧ G V) := fun V hV => ⟨h V fun x hx => hV x (List.mem_append_left _ hx), k V fun x hx => hV x (List.mem_append_right _ hx)⟩
theorem rels_G {al : List GdP} {xs : List (Array Value)} {nbs : List Bx} (h : Rels RelG al xs nbs) : ∃ gm : List GdM, xs = gm.map GdM.vals ∧ gm.map plG = al ∧ Keep nbs (fun V => ∀ g ∈ gm, SlAt V 11 g.a g.c (g.rs.map RowM.vals)) := by
  induction h with
  | nil => exact ⟨[], rfl, rfl, fun V _ => by simp⟩
  | snoc _ k ih =>
    rename_i a x nb hr
    obtain ⟨gm, rfl, rfl, i3⟩ := ih
    obtain ⟨ad, rfl, k2⟩ := k
    refine ⟨gm ++ [⟨a.wh, a.fd, a.rg, ad, a.rs.length, a.rs⟩], by simp, by simp [plG], fun V hV => ?_⟩
    obtain ⟨h1, h2⟩ := (k2.app i3) V hV
    intro g hg
    rcases List.mem_append.1 hg with hg | hg
    · exact h2 g hg
    · rw [List.mem_singleton.1 hg]; exact h1
theorem rels_S {al : List (List GdP)} {xs : List (Array Value)} {nbs : List Bx} (h : Rels RelS al xs nbs) (hI : ∀ gs ∈ al, ∀ g ∈ gs, GdI g) : ∃ ts : List StM, xs = ts.map StM.vals ∧ ts.map (fun s => s.gs.map plG) = al ∧ Keep nbs (fun V => ∀ s ∈ ts, StL V s) := by
  induction h with
  | nil => exact ⟨[], rfl, rfl, fun V _ => by simp⟩
  | snoc _ k ih =>
    rename_i al' xs' nbs' a x nb hr
    obtain ⟨ts, rfl, rfl, i3⟩ := ih (fun gs hgs => hI gs (List.mem_append_left _ hgs))
    obtain ⟨ad, ys, nb1, nbs2, rfl, rfl, k1, k2, k3⟩ := k
    obtain ⟨gm, rfl, rfl, g3⟩ := rels_G k1
    have hGI := hI _ (List.mem_append_right _ (List.mem_singleton.2 rfl))
    refine ⟨ts ++ [⟨ad, gm.length, gm⟩], by simp [StM.vals], by simp, fun V hV => ?_⟩
    obtain ⟨⟨h1, h2⟩, h3⟩ := ((k3.app g3).app i3) V hV
    intro s hs
    rcases List.mem_append.1 hs with hs | hs
    · exact h3 s hs
    · rw [List.mem_singleton.1 hs]
      rw [List.length_map] at h1
      refine ⟨h1, fun g hg => ?_⟩
      obtain ⟨y1, y2, y3, y4⟩ := hGI (plG g) (List.mem_map.2 ⟨g, hg, rfl⟩)
      exact ⟨y1, y2, y3, h2 g hg, y4⟩
end Go.Proofs.YteedmmljahgpjabDoor
