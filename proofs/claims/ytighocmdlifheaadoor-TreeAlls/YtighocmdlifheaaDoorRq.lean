/-
  A region that draws its order and holds calls that make memory, within a round of a loop over a function: one walk serves every order.
-/
import Derived.Test.YtighocmdlifheaaDoorSz
import Derived.Test.YtighocmdlifheaaDoorSo
import Derived.BigQuiet
import Derived.Lib.QuietBelow
namespace Go.Proofs.YtighocmdlifheaaDoor
open Go.RowKit Go.Shelf Go.Sort
set_option linter.unusedVariables false

def plainOp (o : Oper) : Bool := match o.op with | .defer _ => false | _ => true
theorem plainOp_ne {o : Oper} (h : plainOp o = true) : ∀ c, o.op ≠ .defer c := by
  intro c e
  unfold plainOp at h
  rw [e] at h
  cases h
theorem wpOpIn_round {P : Program} {ops : Array Oper} {C : World → Prop} {lo n i : Nat} {a : Act} {w : World} {K : Act → Prop} {K' : Act → World → Prop} {Q' : Exit → Act → World → Prop}
    (hnd : ∀ (i : Nat) o, ops[i]? = some o → plainOp o = true) (hw : C w) (h : ∀ a w', C w' → K a → K' a w') (hh : qOp P ops C i K a) : wpOpIn (Fence.wide.inRound lo) n P ops Q' i K' a w := by
  unfold qOp at hh
  unfold wpOpIn
  cases ho : ops[i]? with
  | none => simp only [ho] at hh ⊢; exact h _ _ hw hh
  | some o =>
    simp only [ho] at hh ⊢
    by_cases hwt : Region.wanted o (yielded ops a.tmps) = true
    · simp only [hwt, if_true] at hh ⊢
      obtain ⟨v, h1, h2⟩ := hh
      refine ⟨fun _ _ => trivial, ?_⟩
      rw [Oper.semAt_plain _ _ _ (plainOp_ne (hnd i o ho))]
      have h1 := h1 w hw
      unfold Oper.quietAt at h1
      cases hr : (execOp a.eval o).run P w with
      | ok x w' =>
        rw [hr] at h1
        cases x with
        | value u => obtain ⟨rfl, rfl⟩ := h1; exact h _ _ hw h2
        | skip => obtain ⟨rfl, rfl⟩ := h1; exact h _ _ hw h2
        | enter f args =>
          obtain ⟨rfl, h1⟩ := h1
          refine ⟨fun e => by simp [Fence.inRound, Fence.wide] at e, ?_⟩
          refine CallsIn.inRound lo (callsIn_wide.2 (h1.mono ?_))
          rintro e w'' ⟨rfl, hc⟩
          exact h _ _ hc h2
        | _ => exact h1.elim
      | halt x w' => rw [hr] at h1; exact h1.elim
    · simp only [hwt] at hh ⊢
      exact ⟨fun _ _ => trivial, h _ _ hw hh⟩
theorem wpAnyIn_round {P : Program} {md : Region.Mode} {ops : Array Oper} {C : World → Prop} {lo n : Nat} {Q : Act → Prop} {Q' : Exit → Act → World → Prop} (hnd : ∀ (i : Nat) o, ops[i]? = some o → plainOp o = true) (hQ : ∀ a w, C w → Q a → Q' .normal a w) : ∀ (fuel : Nat) (listed : Array Bool) (a : Act) (w : World), C w →
    wpAnyQ P md ops C Q fuel listed a → wpAnyIn (Fence.wide.inRound lo) n P md ops Q' fuel listed a w
  | 0, _, _, _, hw, h => ⟨h.1, hQ _ _ hw h.2⟩
  | fuel + 1, _, _, _, hw, h => ⟨fun h0 => hQ _ _ hw (h.1 h0), fun i hi => wpOpIn_round hnd hw (fun a' w' hw' => wpAnyIn_round hnd hQ fuel _ a' w' hw') (h.2 i hi)⟩
theorem wpIn_region_roundC {P : Program} {C : World → Prop} {lo n id : Nat} {Q : Exit → Act → World → Prop} {a : Act} {w : World} {l : List Oper} (hC : C { w with drawn := w.drawn + 1 }) (hm : P.follows .mixedOrders = true) (hB : Region.lexB .any l.toArray = true) (hnd : l.all plainOp = true)
    (h : wpQuiet P l.toArray C (fun a' => ∀ w', C w' → Q .normal a' w') l a) : (Code.region id l.toArray true).wpIn (Fence.wide.inRound lo) n P Q a w := by
  simp only [Region.lexB, Bool.and_eq_true] at hB
  have hnd' : ∀ (i : Nat) o, l.toArray[i]? = some o → plainOp o = true := fun i o ho => by
    rw [List.getElem?_toArray] at ho
    exact List.all_eq_true.1 hnd o (List.mem_of_getElem? ho)
  refine wpIn_region_any hm (wpAnyIn_round (C := C) (Q := fun a' => ∀ w', C w' → Q .normal a' w') hnd' (fun _ w' hw' h => h w' hw') _ _ _ _ hC ?_)
  have := wpAnyQ_lex (C := C) (md := .any) hB.1 l 0 (Array.replicate l.toArray.size false) a (by simp) (by simpa using hB.2) h
  simpa using this
theorem wpIn_region_round {P : Program} {lo n id : Nat} {Q : Exit → Act → World → Prop} {a : Act} {w : World} {l : List Oper} (hm : P.follows .mixedOrders = true) (hB : Region.lexB .any l.toArray = true) (hnd : l.all plainOp = true)
    (h : wpQuiet P l.toArray (fun w' => ∃ n, w' = w.drewN n) (fun a' => ∀ w', (∃ n, w' = w.drewN n) → Q .normal a' w') l a) : (Code.region id l.toArray true).wpIn (Fence.wide.inRound lo) n P Q a w :=
  wpIn_region_roundC ⟨1, rfl⟩ hm hB hnd h
/-- Calls in the region may make memory. -/
theorem wpIn_region_roundB {P : Program} {lo n id : Nat} {Q : Exit → Act → World → Prop} {a : Act} {w : World} {l : List Oper} (hm : P.follows .mixedOrders = true) (hB : Region.lexB .any l.toArray = true) (hnd : l.all plainOp = true)
    (h : wpQuiet P l.toArray (fun w' => ∃ p : Regrown, w' = grow (redrawn w p.d) p.os) (fun a' => ∀ w', (∃ p : Regrown, w' = grow (redrawn w p.d) p.os) → Q .normal a' w') l a) : (Code.region id l.toArray true).wpIn (Fence.wide.inRound lo) n P Q a w :=
  wpIn_region_roundC ⟨⟨w.drawn + 1, #[]⟩, by rw [grow_empty]; rfl⟩ hm hB hnd h
end Go.Proofs.YtighocmdlifheaaDoor
