import Derived.Test.YtkfabnchhjfjjaaGreatDoorA0
import Derived.Test.YtkfabnchhjfjjaaGreatDoorA15
import Derived.Defers
import Derived.Recover
import Derived.Laws.Pointers
import Derived.WalkKit
import Derived.LaidEql
import Derived.Stop.Asserts
import Derived.RowKitTokens
namespace Go.Proofs.YtkfabnchhjfjjaaGreatDoor
open Go.RowKit
set_option linter.unusedVariables false
theorem assert_hit (v : Value) (w : World) : (Instr.typeAssert (.iface 143 v) 20 143 true).run Tryz.prog w = .ok (.tuple #[v,.bool true]) w := by
 simp [Instr.typeAssert,run_underlying Tryz.underlying143,go_sem,Result.andThen]
theorem assert_nil (w : World) : (Instr.typeAssert .nilIface 20 143 true).run Tryz.prog w = .ok (.tuple #[.agg #[zI 0,.nilIface],.bool false]) w := by
 simp [Instr.typeAssert,run_underlying Tryz.underlying143,go_sem,Result.andThen]
set_option maxRecDepth 100000 in
theorem catch85_i (p q : Addr) (w : World) :
  CallsD Tryz.prog 85 #[.pointer (some p),.pointer (some q)] .returning w fun e u' w' => e = .returned (.tuple #[]) ∧ u' = .returning ∧ w' = w.alloc (.cells #[zI 0,.nilIface] 143) := by
 refine callsD_of_wpS Tryz.func85 rfl fun c₀ cs hu => ?_
 apply wpS_seq
 apply wpS_region
 simp [wpOpsS,go_sem,recoverD,hu,Tryz.ntmps85,assert_nil,Result.andThen,Exit.thenS]
 simp only [Array.replicate_succ,Array.replicate_zero,List.push_toArray,List.append_toArray,List.nil_append,List.cons_append,List.setIfInBounds_toArray,List.set_cons_zero,List.set_cons_succ]
 refine wpS_of_wp ?_
 go_wp2_with fail
 cases c₀
 simp_all [bodyPostS,results,Tryz.results85]
set_option maxRecDepth 100000 in
theorem catch85_p (Bp Bq : Nat) (call : ByteArray) (at' : Int) (T : TypeId) (x : Value) (y : Value) (older : List PanicEntry) (w : World) (hp : w.heap[Bp]? = some (.cells #[.string call] 9 (0,0))) (hq : w.heap[Bq]? = some (.cells #[y] 45 (0,0))) :
  CallsD Tryz.prog 85 #[zP Bp,zP Bq] (.panicking ({ v := .iface 143 (.agg #[zI at',.iface T x]),recovered := false } :: older)) w fun e u' w' =>
   e = .returned (.tuple #[]) ∧ u' = .panicking ({ v := .iface 143 (.agg #[zI at',.iface T x]),recovered := true } :: older) ∧ w' = ((w.alloc (.cells #[zI at',.iface T x] 143)).alloc (.cells #[.string call,zI at',.iface T x] 76)).setCell ⟨Bq,0,none⟩ (.iface 74 (.pointer (some ⟨w§ + 1,0,none⟩))) := by
 have lp := (Array.getElem?_eq_some_iff.1 hp).1
 have lq := (Array.getElem?_eq_some_iff.1 hq).1
 have b1 := below_new w (.cells #[zI at',.iface T x] 143)
 have b2 := below_new (w.alloc (.cells #[zI at',.iface T x] 143)) (.cells #[.string call,zI at',.iface T x] 76)
 have hp1 : (w.alloc (.cells #[zI at',.iface T x] 143)).cell? ⟨Bp,0,none⟩ = some (.string call) := cell_of ((b1.block _ lp).trans hp) 0
 have hq2 := ((b2.block Bq (by rw [size_alloc]; omega)).trans (b1.block _ lq)).trans hq
 have hq1 : ((w.alloc (.cells #[zI at',.iface T x] 143)).alloc (.cells #[.string call,zI at',.iface T x] 76)).cell? ⟨Bq,0,none⟩ = some y := cell_of hq2 0
 have hz1 : ((w.alloc (.cells #[zI at',.iface T x] 143)).alloc (.cells #[.string call,zI at',.iface T x] 76)).frozen? ⟨Bq,0,none⟩ = false := frozen_of hq2 0
 clear hq2 b1 b2 lp lq hp hq
 refine callsD_of_wpS Tryz.func85 rfl fun c₀ cs hu => ?_
 apply wpS_seq
 apply wpS_region
 simp [wpOpsS,go_sem,recoverD,hu,Tryz.ntmps85,assert_hit,Result.andThen,Exit.thenS]
 simp only [Array.replicate_succ,Array.replicate_zero,List.push_toArray,List.append_toArray,List.nil_append,List.cons_append,List.setIfInBounds_toArray,List.set_cons_zero,List.set_cons_succ]
 refine wpS_of_wp ?_
 go_wp2_with fail
 cases c₀
 simp_all [bodyPostS,results,Tryz.results85]
set_option maxRecDepth 100000 in
theorem catch85_n (Bp Bq : Nat) (call : ByteArray) (at' : Int) (y : Value) (older : List PanicEntry) (w : World) (hp : w.heap[Bp]? = some (.cells #[.string call] 9 (0,0))) (hq : w.heap[Bq]? = some (.cells #[y] 45 (0,0))) :
  CallsD Tryz.prog 85 #[zP Bp,zP Bq] (.panicking ({ v := .iface 143 (.agg #[zI at',.nilIface]),recovered := false } :: older)) w fun e u' w' =>
   e = .returned (.tuple #[]) ∧ u' = .panicking ({ v := .iface 143 (.agg #[zI at',.nilIface]),recovered := true } :: older) ∧ w' = ((w.alloc (.cells #[zI at',.nilIface] 143)).alloc (.cells #[.string call,zI at',.nilIface] 76)).setCell ⟨Bq,0,none⟩ (.iface 74 (.pointer (some ⟨w§ + 1,0,none⟩))) := by
 have lp := (Array.getElem?_eq_some_iff.1 hp).1
 have lq := (Array.getElem?_eq_some_iff.1 hq).1
 have b1 := below_new w (.cells #[zI at',.nilIface] 143)
 have b2 := below_new (w.alloc (.cells #[zI at',.nilIface] 143)) (.cells #[.string call,zI at',.nilIface] 76)
 have hp1 : (w.alloc (.cells #[zI at',.nilIface] 143)).cell? ⟨Bp,0,none⟩ = some (.string call) := cell_of ((b1.block _ lp).trans hp) 0
 have hq2 := ((b2.block Bq (by rw [size_alloc]; omega)).trans (b1.block _ lq)).trans hq
 have hq1 : ((w.alloc (.cells #[zI at',.nilIface] 143)).alloc (.cells #[.string call,zI at',.nilIface] 76)).cell? ⟨Bq,0,none⟩ = some y := cell_of hq2 0
 have hz1 : ((w.alloc (.cells #[zI at',.nilIface] 143)).alloc (.cells #[.string call,zI at',.nilIface] 76)).frozen? ⟨Bq,0,none⟩ = false := frozen_of hq2 0
 clear hq2 b1 b2 lp lq hp hq
 refine callsD_of_wpS Tryz.func85 rfl fun c₀ cs hu => ?_
 apply wpS_seq
 apply wpS_region
 simp [wpOpsS,go_sem,recoverD,hu,Tryz.ntmps85,assert_hit,Result.andThen,Exit.thenS]
 simp only [Array.replicate_succ,Array.replicate_zero,List.push_toArray,List.append_toArray,List.nil_append,List.cons_append,List.setIfInBounds_toArray,List.set_cons_zero,List.set_cons_succ]
 refine wpS_of_wp ?_
 go_wp2_with fail
 cases c₀
 simp_all [bodyPostS,results,Tryz.results85]
def gWhole (s : ByteArray) : Except Ft Tr :=
 match exprT (rdT s) with
 | .error f => .error f
 | .ok q => match gEnd q.2 with
  | .error f => .error f
  | .ok _ => .ok q.1
def ErrAt (w : World) (s call : ByteArray) (f : Ft) (F : Nat) : Prop :=
 match f with
 | .tok no p => w.heap[F]? = some (.cells #[.string call,zI p,.iface 48 (zI no)] 76 (0,0))
 | .lex => ∃ fa fe,w.heap[F]? = some (.cells #[.string call,zI fa,fe] 76 (0,0)) ∧ FeAt w s fa fe
def OutW (s call : ByteArray) (w : World) (r : Except Ft Tr) (e : Ending) (w' : World) : Prop :=
 (match r with
 | .ok t => ∃ m,e = .returned (.tuple #[.agg m.vals,.nilIface]) ∧ treeOf m = t ∧ LiesO w' m ∧ Bkn (fun k => w§ ≤ k ∧ k < w'§) m
 | .error f => ∃ F,e = .returned (.tuple #[.agg zNo,.iface 74 (zP F)]) ∧ ErrAt w' s call f F ∧ w§ ≤ F) ∧ Below w§ w w'
structure WX (w W3 : World) (s call : ByteArray) (fa : Int) (fe : Value) (b G : Nat) (ts : List Tk) (V : World) : Prop where
 B : Below w§ w W3
 M : Mv W3 V (fun k => k = b)
 hb : W3§ ≤ b
 hg : G = 0 ∨ W3§ ≤ G
 R : ∃ a c,Rdr V b G ts fa fe 0 a c
 F : FeAt V s fa fe
 Fb : ∀ F,fe = .iface 74 (zP F) → F ≠ b
theorem WX.hid {w W3 : World} {s call : ByteArray} {fa : Int} {fe : Value} {b G : Nat} {ts : List Tk} {V : World} (h : WX w W3 s call fa fe b G ts V) : Hid (WX w W3 s call fa fe b G ts V) := h
theorem WX.low {w W3 : World} {s call : ByteArray} {fa : Int} {fe : Value} {b G : Nat} {ts : List Tk} {V : World} (h : WX w W3 s call fa fe b G ts V) {k : Nat} (hk : k < W3§) : V.heap[k]? = W3.heap[k]? := h.M.block k hk (by have := h.hb; omega)
theorem WX.mv {w W3 : World} {s call : ByteArray} {fa : Int} {fe : Value} {b G : Nat} {ts ts' : List Tk} {V V' : World} (h : WX w W3 s call fa fe b G ts V) (hm : Mv V V' (fun k => k = b)) (hr : ∃ a c,Rdr V' b G ts' fa fe 0 a c) : WX w W3 s call fa fe b G ts' V' :=
 ⟨h.B,h.M.trans hm (fun _ e => .inl e),h.hb,h.hg,hr,h.F.on (fun k hk F e1 e2 => hm.block k hk (by rw [e2]; exact h.Fb F e1)),h.Fb⟩
theorem caught {w V' : World} {s call : ByteArray} {f : Ft} (at' : Int) (ev : Value) (hsz : w§ + 3 ≤ V'§) (g1 : V'.heap[w§ + 1]? = some (.cells zNo 64 (0,0))) (g2 : V'.heap[w§ + 2]? = some (.cells #[.nilIface] 45 (0,0))) (mW : Mv w V' (fun _ => False))
  (hE : ∀ Y F,(∀ k,k < V'§ → k ≠ w§ + 2 → Y.heap[k]? = V'.heap[k]?) → Y.heap[F]? = some (.cells #[.string call,zI at',ev] 76 (0,0)) → ErrAt Y s call f F) (tmps : Array Value) (ht6 : tmps[6]?.getD undef = .pointer (some ⟨w§ + 1,0,none⟩)) (ht7 : tmps[7]?.getD undef = .pointer (some ⟨w§ + 2,0,none⟩)) (Y : World)
  (eY : Y = ((V'.alloc (.cells #[zI at',ev] 143)).alloc (.cells #[.string call,zI at',ev] 76)).setCell ⟨w§ + 2,0,none⟩ (.iface 74 (.pointer (some ⟨V'§ + 1,0,none⟩)))) :
  (results Tryz.f45 tmps).run Tryz.prog Y = .ok (.tuple #[.agg zNo,.iface 74 (.pointer (some ⟨V'§ + 1,0,none⟩))]) Y ∧ OutW s call w (.error f) (.returned (.tuple #[.agg zNo,.iface 74 (.pointer (some ⟨V'§ + 1,0,none⟩))])) Y := by
 have b1 := below_new V' (.cells #[zI at',ev] 143)
 have s1 := size_alloc V' (.cells #[zI at',ev] 143)
 have b2 := below_new (V'.alloc (.cells #[zI at',ev] 143)) (.cells #[.string call,zI at',ev] 76)
 have n2 := heap_new (V'.alloc (.cells #[zI at',ev] 143)) (.cells #[.string call,zI at',ev] 76)
 have old : ∀ k,k < V'§ → k ≠ w§ + 2 → Y.heap[k]? = V'.heap[k]? := fun k hk hn => by
  rw [eY]
  exact ((Below.heap_setCell _ _ _ _ hn).trans (b2.block k (by omega))).trans (b1.block k hk)
 have y1 := (old _ (by omega) (by omega)).trans g1
 have y2 : Y.heap[w§ + 2]? = some (.cells #[.iface 74 (.pointer (some ⟨V'§ + 1,0,none⟩))] 45 (0,0)) := by
  rw [eY]
  exact heap_set (j := 0) _ (((b2.block _ (by omega)).trans (b1.block _ (by omega))).trans g2)
 have y3 : Y.heap[V'§ + 1]? = some (.cells #[.string call,zI at',ev] 76 (0,0)) := by
  rw [eY]
  refine (Below.heap_setCell _ _ _ _ (show V'§ + 1 ≠ w§ + 2 by omega)).trans ?_
  rw [← s1]; exact n2
 have mY : Mv w Y (fun _ => False) := by
  rw [eY]
  exact (((mW.trans (Mv.ofBelow b1) (fun _ e => .inl e)).trans (Mv.ofBelow b2) (fun _ e => .inl e))).setCell (a := ⟨w§ + 2,0,none⟩) (.inr (by show w§ ≤ w§ + 2; omega)) _
 refine ⟨?_,⟨_,rfl,hE _ _ old y3,by omega⟩,mY.toBelow⟩
 have z0 : Y.cell? ⟨w§ + 2,0,none⟩ = some (.iface 74 (.pointer (some ⟨V'§ + 1,0,none⟩))) := cell_of y2 0
 have c0 : Y.cell? ⟨w§ + 1,0,none⟩ = some (zU 0) := cell_of y1 0
 have c1 : Y.cell? ⟨w§ + 1,1,none⟩ = some (zU 0) := cell_of y1 1
 have c2 : Y.cell? ⟨w§ + 1,2,none⟩ = some (zU 0) := cell_of y1 2
 have c3 : Y.cell? ⟨w§ + 1,3,none⟩ = some (zI 0) := cell_of y1 3
 have c4 : Y.cell? ⟨w§ + 1,4,none⟩ = some (zU 0) := cell_of y1 4
 have c5 : Y.cell? ⟨w§ + 1,5,none⟩ = some (.string ⟨#[]⟩) := cell_of y1 5
 have c6 : Y.cell? ⟨w§ + 1,6,none⟩ = some (.slice none 0 0) := cell_of y1 6
 have c7 : Y.cell? ⟨w§ + 1,7,none⟩ = some (zI 0) := cell_of y1 7
 clear eY
 simp [results,Tryz.results45,go_sem,ht6,ht7,z0,c0,c1,c2,c3,c4,c5,c6,c7]
theorem WX.err {w W3 : World} {s call : ByteArray} {fa : Int} {fe : Value} {b G : Nat} {ts : List Tk} {V : World} (h : WX w W3 s call fa fe b G ts V) (hs3 : W3§ = w§ + 3) (h0 : W3.heap[w§]? = some (.cells #[.string call] 9 (0,0))) (h1 : W3.heap[w§ + 1]? = some (.cells zNo 64 (0,0))) (h2 : W3.heap[w§ + 2]? = some (.cells #[.nilIface] 45 (0,0))) (f : Ft) {V' : World} (hm : Mv V V' (fun k => k = b)) (tmps : Array Value) (ht6 : tmps[6]?.getD undef = .pointer (some ⟨w§ + 1,0,none⟩)) (ht7 : tmps[7]?.getD undef = .pointer (some ⟨w§ + 2,0,none⟩)) :
  Leaves Tryz.prog Tryz.f45 tmps (fun e w' => OutW s call w (.error f) e w') [{ target := .fn (.func 85) #[zP w§,.pointer (some ⟨w§ + 2,0,none⟩)],args := #[] }] (.panicking [{ v := ftV fa fe f,recovered := false }]) V' := by
 have hlow : ∀ k,k < w§ + 3 → V'.heap[k]? = W3.heap[k]? := fun k hk => (hm.block k (Nat.lt_of_lt_of_le (by omega) h.M.size) (by have := h.hb; omega)).trans (h.low (by omega))
 have g0 := (hlow _ (by omega)).trans h0
 have g1 := (hlow _ (by omega)).trans h1
 have g2 := (hlow _ (by omega)).trans h2
 have hFV : FeAt V' s fa fe := h.F.on (fun k hk F e1 e2 => hm.block k hk (by rw [e2]; exact h.Fb F e1))
 have hsz : w§ + 3 ≤ V'§ := by have := h.M.size; have := hm.size; omega
 have mW : Mv w V' (fun _ => False) := ((Mv.ofBelow h.B).trans h.M (fun k e => .inr (by have := h.hb; omega))).trans hm (fun k e => .inr (by have := h.hb; omega))
 cases f with
 | tok no p =>
  refine leaves_cons (f := 85) (args := #[zP w§,.pointer (some ⟨w§ + 2,0,none⟩)]) (by simp) (by simp [go_sem]) ?_
  refine (catch85_p _ _ call p 48 (zI no) .nilIface [] V' g0 g2).mono ?_
  rintro e u' w'' ⟨rfl,rfl,eY⟩
  obtain ⟨q1,q2⟩ := caught (s := s) (f := .tok no p) p (.iface 48 (zI no)) hsz g1 g2 mW (fun Y F _ h => h) tmps ht6 ht7 _ eY
  exact ⟨_,q1,q2⟩
 | lex =>
  by_cases hE : tksE s = 0
  ·obtain ⟨rfl,rfl⟩ := hFV.1 hE
   refine leaves_cons (f := 85) (args := #[zP w§,.pointer (some ⟨w§ + 2,0,none⟩)]) (by simp) (by simp [go_sem]) ?_
   refine (catch85_n _ _ call 0 .nilIface [] V' g0 g2).mono ?_
   rintro e u' w'' ⟨rfl,rfl,eY⟩
   obtain ⟨q1,q2⟩ := caught (s := s) (f := .lex) 0 .nilIface hsz g1 g2 mW (fun Y F _ h => ⟨0,.nilIface,h,fun _ => ⟨rfl,rfl⟩,fun e => absurd hE e⟩) tmps ht6 ht7 _ eY
   exact ⟨_,q1,q2⟩
  ·obtain ⟨rfl,F',rfl,hF'⟩ := hFV.2 hE
   refine leaves_cons (f := 85) (args := #[zP w§,.pointer (some ⟨w§ + 2,0,none⟩)]) (by simp) (by simp [go_sem]) ?_
   refine (catch85_p _ _ call (tksB s) 74 (zP F') .nilIface [] V' g0 g2).mono ?_
   rintro e u' w'' ⟨rfl,rfl,eY⟩
   obtain ⟨q1,q2⟩ := caught (s := s) (f := .lex) (tksB s) (.iface 74 (zP F')) hsz g1 g2 mW (fun Y F ho h => ⟨tksB s,.iface 74 (zP F'),h,fun e => absurd e hE,fun _ => ⟨rfl,F',rfl,(ho F' (Array.getElem?_eq_some_iff.1 hF').1 (fun e => by rw [e,g2] at hF'; cases hF')).trans hF'⟩⟩) tmps ht6 ht7 _ eY
   exact ⟨_,q1,q2⟩
set_option maxRecDepth 100000 in
set_option maxHeartbeats 4000000 in
theorem wholeN_any (call s : ByteArray) (hs : s.size ≤ 4194304) (w : World) (ht : Tab w) (hT : ∀ t ∈ rdT s,RgT t) :
  Calls zG 45 #[.string call,.string s,.func (.func 46) #[] #[]] w (OutW s call w (gWhole s)) := by
 have hmf : ∀ (fn : Fn) (first cap : Array Value) (w : World),(Instr.makeFunc fn first cap).run Tryz.prog w = .ok (.func fn first cap) w := fun _ _ _ _ => rfl
 have HT : Hid (∀ t ∈ rdT s,RgT t) := hT
 obtain ⟨W3,eW3⟩ : ∃ W,(((w.alloc (.cells #[.string call] 9)).alloc (.cells zNo 64)).alloc (.cells #[.nilIface] 45)) = W := ⟨_,rfl⟩
 have HW3 : Hid ((((w.alloc (.cells #[.string call] 9)).alloc (.cells zNo 64)).alloc (.cells #[.nilIface] 45)) = W3) := eW3
 have b0 := below_new w (.cells #[.string call] 9)
 have b1 := below_new (w.alloc (.cells #[.string call] 9)) (.cells zNo 64)
 have b2 := below_new ((w.alloc (.cells #[.string call] 9)).alloc (.cells zNo 64)) (.cells #[.nilIface] 45)
 have n0 := heap_new w (.cells #[.string call] 9)
 have n1 := heap_new (w.alloc (.cells #[.string call] 9)) (.cells zNo 64)
 have n2 := heap_new ((w.alloc (.cells #[.string call] 9)).alloc (.cells zNo 64)) (.cells #[.nilIface] 45)
 have s0 := size_alloc w (.cells #[.string call] 9)
 have s1 := size_alloc (w.alloc (.cells #[.string call] 9)) (.cells zNo 64)
 have s2 := size_alloc ((w.alloc (.cells #[.string call] 9)).alloc (.cells zNo 64)) (.cells #[.nilIface] 45)
 rw [eW3] at b2 n2 s2
 have HS3 : Hid (W3§ = w§ + 3) := by show _ = _; omega
 have HB3 : Hid (Below w§ w W3) := below2 (below2 b0 b1) b2
 have H0 : Hid (W3.heap[w§]? = some (.cells #[.string call] 9 (0,0))) := ((b2.block _ (by omega)).trans (b1.block _ (by omega))).trans n0
 have H1 : Hid (W3.heap[w§ + 1]? = some (.cells zNo 64 (0,0))) := by rw [s0] at n1; exact (b2.block _ (by omega)).trans n1
 have H2 : Hid (W3.heap[w§ + 2]? = some (.cells #[.nilIface] 45 (0,0))) := by rw [s1,s0] at n2; exact n2
 have cN := new_any s hs W3 (ht.on HB3.out)
 clear b0 b1 b2 n0 n1 n2 s0 s1 s2 eW3 hT ht
 unfold gWhole
 obtain ⟨O,eO⟩ : ∃ O,exprT (rdT s) = O := ⟨_,rfl⟩
 have HEO : Hid (exprT (rdT s) = O) := eO
 rw [eO]
 clear eO
 cases O with
 | error f =>
  go_enter_defers Tryz.func45,Tryz.ntmps45
  go_wp2_with fail
  try rw [HW3.out]
  refine cN.mono ?_
  rintro e w4 ⟨b,G,a,c,fa,fe,rfl,hR,hG,hb,hF,hFb,hB4⟩
  have HX4 := (show WX w W3 s call fa fe b G (rdT s) w4 from ⟨HB3.out,Mv.ofBelow hB4,hb,hG,⟨a,c,hR⟩,hF,hFb⟩).hid
  have cE := exprT_any hR HT.out
  rw [HEO.out] at cE
  clear cN hR hG hb hF hFb hB4
  go_wp2_with fail
  refine cE.mono ?_
  rintro e w5 ⟨rfl,hm⟩
  exact HX4.out.err HS3.out H0.out H1.out H2.out f hm _ rfl rfl
 | ok O =>
 obtain ⟨t,r⟩ := O
 simp only
 obtain ⟨P,eP⟩ : ∃ P,gEnd r = P := ⟨_,rfl⟩
 have HEP : Hid (gEnd r = P) := eP
 rw [eP]
 clear eP
 have pre5 : True := trivial
 cases P with
 | error f =>
  go_enter_defers Tryz.func45,Tryz.ntmps45
  go_wp2_with fail
  try rw [HW3.out]
  refine cN.mono ?_
  rintro e w4 ⟨b,G,a,c,fa,fe,rfl,hR,hG,hb,hF,hFb,hB4⟩
  have HX4 := (show WX w W3 s call fa fe b G (rdT s) w4 from ⟨HB3.out,Mv.ofBelow hB4,hb,hG,⟨a,c,hR⟩,hF,hFb⟩).hid
  have cE := exprT_any hR HT.out
  rw [HEO.out] at cE
  clear cN hR hG hb hF hFb hB4
  go_wp2_with fail
  refine cE.mono ?_
  rintro e w5 ⟨⟨m,rfl,rfl,hl,hk⟩,hr,hm⟩
  obtain ⟨⟨k2,o2,ty2,n2,f2,x2,p2⟩,am2,cm2,ks2⟩ := m
  have HX5 := (HX4.out.mv hm hr).hid
  have HLK : Hid (LiesO w5 (.mk ⟨k2,o2,ty2,n2,f2,x2,p2⟩ am2 cm2 ks2) ∧ Bkn (fun k => w§ + 3 ≤ k ∧ k < w5§) (.mk ⟨k2,o2,ty2,n2,f2,x2,p2⟩ am2 cm2 ks2)) := ⟨hl,hk.mono fun j hj => ⟨by have h1 := HX4.out.M.size; have h2 := HS3.out; omega,hj.2⟩⟩
  obtain ⟨a5,c5,h5⟩ := HX5.out.R
  have cD := end_any (h5.on (below_new w5 (.cells #[zU k2,zU o2,zU ty2,zI n2,zU f2,.string x2,.slice am2 ks2.length cm2,zI p2] 64)))
  rw [HEP.out] at cD
  clear cE hl hk hr hm HX4 h5
  simp only [Nd.vals,Nd.h,Nd.a,Nd.c,Nd.ks,hdA]
  go_wp2_with fail
  refine cD.mono ?_
  rintro e w7 ⟨he,hb7⟩
  obtain rfl := he
  exact HX5.out.err HS3.out H0.out H1.out H2.out f (Mv.ofBelow (below2 (below_new _ _) hb7)) _ rfl rfl
 | ok P =>
  go_enter_defers Tryz.func45,Tryz.ntmps45
  go_wp2_with fail
  try rw [HW3.out]
  refine cN.mono ?_
  rintro e w4 ⟨b,G,a,c,fa,fe,rfl,hR,hG,hb,hF,hFb,hB4⟩
  have HX4 := (show WX w W3 s call fa fe b G (rdT s) w4 from ⟨HB3.out,Mv.ofBelow hB4,hb,hG,⟨a,c,hR⟩,hF,hFb⟩).hid
  have cE := exprT_any hR HT.out
  rw [HEO.out] at cE
  clear cN hR hG hb hF hFb hB4
  go_wp2_with fail
  refine cE.mono ?_
  rintro e w5 ⟨⟨m,rfl,rfl,hl,hk⟩,hr,hm⟩
  obtain ⟨⟨k2,o2,ty2,n2,f2,x2,p2⟩,am2,cm2,ks2⟩ := m
  have HX5 := (HX4.out.mv hm hr).hid
  have HLK : Hid (LiesO w5 (.mk ⟨k2,o2,ty2,n2,f2,x2,p2⟩ am2 cm2 ks2) ∧ Bkn (fun k => w§ + 3 ≤ k ∧ k < w5§) (.mk ⟨k2,o2,ty2,n2,f2,x2,p2⟩ am2 cm2 ks2)) := ⟨hl,hk.mono fun j hj => ⟨by have h1 := HX4.out.M.size; have h2 := HS3.out; omega,hj.2⟩⟩
  obtain ⟨a5,c5,h5⟩ := HX5.out.R
  have cD := end_any (h5.on (below_new w5 (.cells #[zU k2,zU o2,zU ty2,zI n2,zU f2,.string x2,.slice am2 ks2.length cm2,zI p2] 64)))
  rw [HEP.out] at cD
  clear cE hl hk hr hm HX4 h5
  simp only [Nd.vals,Nd.h,Nd.a,Nd.c,Nd.ks,hdA]
  go_wp2_with fail
  refine cD.mono ?_
  rintro e w7 ⟨he,hb7⟩
  obtain rfl := he
  have HB7 : Hid (Below w5§ w5 w7) := below2 (below_new _ _) hb7
  have hA7 : w7.heap[w5§]? = some (.cells #[zU k2,zU o2,zU ty2,zI n2,zU f2,.string x2,.slice am2 ks2.length cm2,zI p2] 64 (0,0)) := (hb7.block _ (by rw [size_alloc]; omega)).trans (heap_new _ _)
  have hlow : ∀ k,k < w§ + 3 → w7.heap[k]? = W3.heap[k]? := fun k hk => (HB7.out.block k (Nat.lt_of_lt_of_le (by have := HS3.out; omega) HX5.out.M.size)).trans (HX5.out.low (by have := HS3.out; omega))
  have g1 := (hlow (w§ + 1) (by omega)).trans H1.out
  have g2 := (hlow (w§ + 2) (by omega)).trans H2.out
  obtain ⟨Y,eY,hY1,hY2,hY3,hY4⟩ := fin8 g1 (zU k2) (zU o2) (zU ty2) (zI n2) (zU f2) (.string x2) (.slice am2 ks2.length cm2) (zI p2)
  have hY2' : Y.heap[w§ + 2]? = some (.cells #[.nilIface] 45 (0,0)) := (hY3 _ (by omega)).trans g2
  have hl7 : w§ + 3 ≤ w7§ := by have := HX5.out.M.size; have := HB7.out.size; have := HS3.out; omega
  have hl5 : w§ + 3 ≤ w5§ := by have := HX5.out.M.size; have := HS3.out; omega
  have mY : Mv w Y (fun _ => False) := hY4 _ _ ((((Mv.ofBelow HX5.out.B).trans HX5.out.M (fun k e => .inr (by have := HX5.out.hb; have := HS3.out; omega)))).trans (Mv.ofBelow HB7.out) (fun k e => .inl e)) (by omega)
  have HEY : Hid (_ = Y) := eY
  have HY : Hid (Y.heap[w§ + 1]? = some (.cells #[zU k2,zU o2,zU ty2,zI n2,zU f2,.string x2,.slice am2 ks2.length cm2,zI p2] 64 (0,0)) ∧ Y.heap[w§ + 2]? = some (.cells #[.nilIface] 45 (0,0)) ∧ Y§ = w7§ ∧ (∀ k,k ≠ w§ + 1 → Y.heap[k]? = w7.heap[k]?) ∧ Mv w Y (fun _ => False) ∧ w§ + 3 ≤ w5§ ∧ w5§ ≤ w7§) := ⟨hY1,hY2',hY2,hY3,mY,hl5,HB7.out.size⟩
  have z0 : w7.cell? ⟨w§ + 1,0,none⟩ = some (zU 0) := cell_of g1 0
  have q0 : w7.frozen? ⟨w§ + 1,0,none⟩ = false := frozen_of g1 0
  have y0 : w7.cell? ⟨w5§,0,none⟩ = some (zU k2) := cell_of hA7 0
  have z1 : w7.cell? ⟨w§ + 1,1,none⟩ = some (zU 0) := cell_of g1 1
  have q1 : w7.frozen? ⟨w§ + 1,1,none⟩ = false := frozen_of g1 1
  have y1 : w7.cell? ⟨w5§,1,none⟩ = some (zU o2) := cell_of hA7 1
  have z2 : w7.cell? ⟨w§ + 1,2,none⟩ = some (zU 0) := cell_of g1 2
  have q2 : w7.frozen? ⟨w§ + 1,2,none⟩ = false := frozen_of g1 2
  have y2 : w7.cell? ⟨w5§,2,none⟩ = some (zU ty2) := cell_of hA7 2
  have z3 : w7.cell? ⟨w§ + 1,3,none⟩ = some (zI 0) := cell_of g1 3
  have q3 : w7.frozen? ⟨w§ + 1,3,none⟩ = false := frozen_of g1 3
  have y3 : w7.cell? ⟨w5§,3,none⟩ = some (zI n2) := cell_of hA7 3
  have z4 : w7.cell? ⟨w§ + 1,4,none⟩ = some (zU 0) := cell_of g1 4
  have q4 : w7.frozen? ⟨w§ + 1,4,none⟩ = false := frozen_of g1 4
  have y4 : w7.cell? ⟨w5§,4,none⟩ = some (zU f2) := cell_of hA7 4
  have z5 : w7.cell? ⟨w§ + 1,5,none⟩ = some (.string ⟨#[]⟩) := cell_of g1 5
  have q5 : w7.frozen? ⟨w§ + 1,5,none⟩ = false := frozen_of g1 5
  have y5 : w7.cell? ⟨w5§,5,none⟩ = some (.string x2) := cell_of hA7 5
  have z6 : w7.cell? ⟨w§ + 1,6,none⟩ = some (.slice none 0 0) := cell_of g1 6
  have q6 : w7.frozen? ⟨w§ + 1,6,none⟩ = false := frozen_of g1 6
  have y6 : w7.cell? ⟨w5§,6,none⟩ = some (.slice am2 ks2.length cm2) := cell_of hA7 6
  have z7 : w7.cell? ⟨w§ + 1,7,none⟩ = some (zI 0) := cell_of g1 7
  have q7 : w7.frozen? ⟨w§ + 1,7,none⟩ = false := frozen_of g1 7
  have y7 : w7.cell? ⟨w5§,7,none⟩ = some (zI p2) := cell_of hA7 7
  have v0 : w7.cell? ⟨w§ + 1 + 1,0,none⟩ = some .nilIface := cell_of g2 0
  have v1 : w7.frozen? ⟨w§ + 1 + 1,0,none⟩ = false := frozen_of g2 0
  have hne1 : w§ + 1 ≠ w§ + 1 + 1 := by omega
  have hne2 : w§ + 1 + 1 ≠ w§ + 1 := by omega
  clear cD hb7 hA7 hlow g1 g2 eY hY1 hY2 hY3 hY4 hY2' hl7 hl5 mY
  go_wp2_with fail
  rw [HEY.out]
  refine leaves_cons (f := 85) (args := #[zP w§,.pointer (some ⟨w§ + 2,0,none⟩)]) (by simp) (by simp [go_sem]) ?_
  refine (catch85_i ⟨w§,0,none⟩ ⟨w§ + 2,0,none⟩ _).mono ?_
  rintro e u' Z ⟨rfl,rfl,eZ⟩
  obtain ⟨k1,k2',k3,k4,k5,k6,k7⟩ := HY.out
  have b9 := below_new (Y.setCell ⟨w§ + 2,0,none⟩ .nilIface) (.cells #[zI 0,.nilIface] 143)
  have s9 : (Y.setCell ⟨w§ + 2,0,none⟩ .nilIface)§ = Y§ := by simp [World.setCell]
  have oldZ : ∀ k,k < Y§ → k ≠ w§ + 2 → Z.heap[k]? = Y.heap[k]? := fun k hk hn => by
   rw [eZ]
   exact (b9.block k (by omega)).trans (Below.heap_setCell _ _ _ _ hn)
  have z1 := (oldZ _ (by omega) (by omega)).trans k1
  have z2 : Z.heap[w§ + 2]? = some (.cells #[.nilIface] 45 (0,0)) := by
   rw [eZ]
   exact (b9.block _ (by omega)).trans (heap_set (j := 0) _ k2')
  have mZ : Mv w Z (fun _ => False) := by
   rw [eZ]
   exact (k5.setCell (a := ⟨w§ + 2,0,none⟩) (.inr (by show w§ ≤ w§ + 2; omega)) _).alloc _
  have hzs : Y§ ≤ Z§ := by rw [eZ,size_alloc,s9]; omega
  have lZ : LiesO Z (.mk ⟨k2,o2,ty2,n2,f2,x2,p2⟩ am2 cm2 ks2) := HLK.out.1.bkn HLK.out.2 fun j hj => ((oldZ j (by omega) (by omega)).trans (k4 j (by omega))).trans (HB7.out.block j hj.2)
  have bZ : Bkn (fun k => w§ ≤ k ∧ k < Z§) (.mk ⟨k2,o2,ty2,n2,f2,x2,p2⟩ am2 cm2 ks2) := HLK.out.2.mono fun j hj => ⟨by omega,by omega⟩
  have c0 : Z.cell? ⟨w§ + 1,0,none⟩ = some (zU k2) := cell_of z1 0
  have c1 : Z.cell? ⟨w§ + 1,1,none⟩ = some (zU o2) := cell_of z1 1
  have c2 : Z.cell? ⟨w§ + 1,2,none⟩ = some (zU ty2) := cell_of z1 2
  have c3 : Z.cell? ⟨w§ + 1,3,none⟩ = some (zI n2) := cell_of z1 3
  have c4 : Z.cell? ⟨w§ + 1,4,none⟩ = some (zU f2) := cell_of z1 4
  have c5 : Z.cell? ⟨w§ + 1,5,none⟩ = some (.string x2) := cell_of z1 5
  have c6 : Z.cell? ⟨w§ + 1,6,none⟩ = some (.slice am2 ks2.length cm2) := cell_of z1 6
  have c7 : Z.cell? ⟨w§ + 1,7,none⟩ = some (zI p2) := cell_of z1 7
  have z0 : Z.cell? ⟨w§ + 1 + 1,0,none⟩ = some .nilIface := cell_of z2 0
  clear eZ oldZ b9 s9
  refine ⟨.tuple #[.agg #[zU k2,zU o2,zU ty2,zI n2,zU f2,.string x2,.slice am2 ks2.length cm2,zI p2],.nilIface],?_,⟨(.mk ⟨k2,o2,ty2,n2,f2,x2,p2⟩ am2 cm2 ks2),rfl,rfl,lZ,bZ⟩,mZ.toBelow⟩
  clear lZ bZ mZ
  simp [results,Tryz.results45,go_sem,z0,c0,c1,c2,c3,c4,c5,c6,c7]
theorem nbTy_rg : ∀ l : List UInt8,0 ≤ nbTy l ∧ nbTy l ≤ 4
 | [] => by simp [nbTy]
 | c :: _ => by
  unfold nbTy
  repeat' split
  all_goals omega
theorem lx_rg {l : List UInt8} {k : Int} {n : Nat} {ty v : Int} (h : lx l = some (k,n,ty,v)) : 0 ≤ ty ∧ ty ≤ 4 ∧ 0 ≤ v ∧ v ≤ 9223372036854775807 := by
 unfold lx at h
 split at h
 ·split at h
  ·cases h
  ·cases h; simp
 ·split at h
  ·split at h
   ·cases h
   ·split at h
    ·cases h
    ·rename_i hn
     split at h
     ·cases h
     ·cases h
      have := nbTy_rg (l.drop ‹Nat›)
      refine ⟨?_,?_,by omega,by omega⟩
      ·exact (nbTy_rg _).1
      ·exact (nbTy_rg _).2
  ·split at h
   ·cases h
   ·cases h; simp
theorem one_rg {s : ByteArray} {f : Nat} (hs : s.size ≤ 4096) (hf : f ≤ s.size) (h : oneE s f = 0) : RgT (oneT s f) := by
 obtain ⟨q0,q1,q2,_⟩ := one_fine s f hf h
 have hT : 0 ≤ (oneT s f).ty ∧ (oneT s f).ty ≤ 4 ∧ 0 ≤ (oneT s f).n ∧ (oneT s f).n ≤ 9223372036854775807 := by
  by_cases hp : oneP s f = s.size
  ·unfold oneT
   rw [if_pos hp]
   simp
  ·obtain ⟨e1,e2⟩ := one_lx s f hf hp
   rw [e2] at h
   rw [e1]
   unfold lxE at h
   unfold tkOf
   cases hx : lx (rest s (oneP s f)) with
   | none => rw [hx] at h; simp at h; split at h <;> first | omega | (split at h <;> omega)
   | some q =>
    obtain ⟨k,n,ty,v⟩ := q
    exact lx_rg hx
 exact ⟨by omega,by omega,by omega,by omega,by omega,by rw [q0]; omega,by rw [q0]; omega⟩
theorem beg_rg {s : ByteArray} (hs : s.size ≤ 4096) : ∀ (d f : Nat),s.size - f ≤ d → f ≤ s.size → ∀ t ∈ (begO s f).1,RgT t := by
 intro d
 induction d with
 | zero =>
  intro f h1 h2 t ht
  by_cases h : oneE s f = 0
  ·by_cases hk : (oneT s f).k = 0
   ·rw [beg_end h hk] at ht
    obtain rfl := List.mem_singleton.1 ht
    exact one_rg hs h2 h
   ·obtain ⟨a1,a2,_,_⟩ := beg_more h2 h hk
    omega
  ·rw [beg_bad h] at ht
   simp at ht
 | succ d ih =>
  intro f h1 h2 t ht
  by_cases h : oneE s f = 0
  ·by_cases hk : (oneT s f).k = 0
   ·rw [beg_end h hk] at ht
    obtain rfl := List.mem_singleton.1 ht
    exact one_rg hs h2 h
   ·obtain ⟨a1,a2,_,a4⟩ := beg_more h2 h hk
    rw [a4] at ht
    rcases List.mem_cons.1 ht with rfl | ht
    ·exact one_rg hs h2 h
    ·exact ih _ (by omega) a2 t ht
  ·rw [beg_bad h] at ht
   simp at ht
theorem rdT_rg (s : ByteArray) : ∀ t ∈ rdT s,RgT t := by
 intro t ht
 unfold rdT at ht
 by_cases hs : s.size > 4096
 ·obtain ⟨h1,_,h3⟩ := tks_long hs
  rw [if_neg (by rw [h1]; decide)] at ht
  unfold allL at ht
  rw [if_pos hs] at ht
  simp at ht
 ·have hb := beg_rg (s := s) (by omega) s.size 0 (by omega) (by omega)
  by_cases h0 : tksE s = 0
  ·rw [if_pos h0] at ht
   unfold tksL at ht
   rw [if_pos h0] at ht
   exact hb t ht
  ·rw [if_neg h0] at ht
   unfold allL at ht
   rw [if_neg hs] at ht
   unfold allF at ht
   split at ht
   ·exact hb t (List.dropLast_subset _ ht)
   ·exact hb t ht
theorem ErrAt.mv {w w' : World} {s call : ByteArray} {f : Ft} {F B : Nat} {cs : Array Value} {fr : Nat × Nat} (h : ErrAt w s call f F) (hB : w.heap[B]? = some (.cells cs 64 fr)) (k : ∀ j,j ≠ B → w'.heap[j]? = w.heap[j]?) : ErrAt w' s call f F := by
 have ne : ∀ {j : Nat} {c : Array Value},w.heap[j]? = some (.cells c 76 (0,0)) → j ≠ B := fun h e => by rw [e,hB] at h; cases h
 cases f with
 | tok no p => exact (k _ (ne h)).trans h
 | lex =>
  obtain ⟨fa,fe,h1,h2⟩ := h
  refine ⟨fa,fe,(k _ (ne h1)).trans h1,h2.1,fun e => ⟨(h2.2 e).1,?_⟩⟩
  obtain ⟨F',e1,e2⟩ := (h2.2 e).2
  exact ⟨F',e1,(k _ (ne e2)).trans e2⟩
set_option maxRecDepth 100000 in
set_option maxHeartbeats 4000000 in
theorem exprS_any (s : ByteArray) (hs : s.size ≤ 4194304) (w : World) (ht : Tab w) :
  Calls zG 16 #[.string s] w (OutW s ZL w (gWhole s)) := by
 have b0 := below_new w (.cells zNo 64)
 have cW := wholeN_any ZL s hs _ (ht.on b0) (rdT_rg s)
 have n0 := heap_new w (.cells zNo 64)
 have s0 := size_alloc w (.cells zNo 64)
 have H0 : Hid (Below w§ w (w.alloc (.cells zNo 64)) ∧ (w.alloc (.cells zNo 64)).heap[w§]? = some (.cells zNo 64 (0,0)) ∧ (w.alloc (.cells zNo 64))§ = w§ + 1) := ⟨b0,n0,s0⟩
 clear b0 n0 s0 ht
 obtain ⟨O,eO⟩ : ∃ O,gWhole s = O := ⟨_,rfl⟩
 rw [eO] at cW ⊢
 clear eO
 cases O with
 | error f =>
  go_enter Tryz.func16,Tryz.ntmps16
  go_wp2_with fail
  refine cW.mono ?_
  rintro e w1 ⟨⟨F,rfl,hE,hF⟩,hb⟩
  obtain ⟨g1,g2,g3⟩ := H0.out
  have hZ := (hb.block _ (by omega)).trans g2
  obtain ⟨Y,eY,hY1,hY2,hY3,hY4⟩ := fin8 hZ (zU 0) (zU 0) (zU 0) (zI 0) (zU 0) (.string ⟨#[]⟩) (.slice none 0 0) (zI 0)
  have HY : Hid (Y.heap[w§]? = some (.cells zNo 64 (0,0)) ∧ ErrAt Y s ZL f F ∧ w§ ≤ F ∧ Below w§ w Y) := ⟨hY1,hE.mv hZ hY3,by omega,(hY4 _ (fun _ => False) (Mv.ofBelow (below2 g1 hb)) (Nat.le_refl _)).toBelow⟩
  have HEY : Hid (_ = Y) := eY
  have z0 : w1.cell? ⟨w§,0,none⟩ = some (zU 0) := cell_of hZ 0
  have q0 : w1.frozen? ⟨w§,0,none⟩ = false := frozen_of hZ 0
  have z1 : w1.cell? ⟨w§,1,none⟩ = some (zU 0) := cell_of hZ 1
  have q1 : w1.frozen? ⟨w§,1,none⟩ = false := frozen_of hZ 1
  have z2 : w1.cell? ⟨w§,2,none⟩ = some (zU 0) := cell_of hZ 2
  have q2 : w1.frozen? ⟨w§,2,none⟩ = false := frozen_of hZ 2
  have z3 : w1.cell? ⟨w§,3,none⟩ = some (zI 0) := cell_of hZ 3
  have q3 : w1.frozen? ⟨w§,3,none⟩ = false := frozen_of hZ 3
  have z4 : w1.cell? ⟨w§,4,none⟩ = some (zU 0) := cell_of hZ 4
  have q4 : w1.frozen? ⟨w§,4,none⟩ = false := frozen_of hZ 4
  have z5 : w1.cell? ⟨w§,5,none⟩ = some (.string ⟨#[]⟩) := cell_of hZ 5
  have q5 : w1.frozen? ⟨w§,5,none⟩ = false := frozen_of hZ 5
  have z6 : w1.cell? ⟨w§,6,none⟩ = some (.slice none 0 0) := cell_of hZ 6
  have q6 : w1.frozen? ⟨w§,6,none⟩ = false := frozen_of hZ 6
  have z7 : w1.cell? ⟨w§,7,none⟩ = some (zI 0) := cell_of hZ 7
  have q7 : w1.frozen? ⟨w§,7,none⟩ = false := frozen_of hZ 7
  clear cW hE hF hb g1 g2 g3 hZ eY hY1 hY2 hY3 hY4 H0
  go_wp2_with fail
  rw [HEY.out]
  exact bodyPost_ret (results_two (p := 2) (u := 3) (ty := 64) rfl _ _ w§ 64 zNo (0,0) _ rfl HY.out.1 Tryz.underlying64 rfl zK) rfl ⟨⟨F,rfl,HY.out.2.1,HY.out.2.2.1⟩,HY.out.2.2.2⟩
 | ok t =>
  go_enter Tryz.func16,Tryz.ntmps16
  go_wp2_with fail
  refine cW.mono ?_
  rintro e w1 ⟨⟨m,rfl,rfl,hl,hk⟩,hb⟩
  obtain ⟨⟨k2,o2,ty2,n2,f2,x2,p2⟩,am2,cm2,ks2⟩ := m
  obtain ⟨g1,g2,g3⟩ := H0.out
  have hZ := (hb.block _ (by omega)).trans g2
  obtain ⟨Y,eY,hY1,hY2,hY3,hY4⟩ := fin8 hZ (zU k2) (zU o2) (zU ty2) (zI n2) (zU f2) (.string x2) (.slice am2 ks2.length cm2) (zI p2)
  have HY : Hid (Y.heap[w§]? = some (.cells (Nd.mk ⟨k2,o2,ty2,n2,f2,x2,p2⟩ am2 cm2 ks2).vals 64 (0,0)) ∧ LiesO Y (.mk ⟨k2,o2,ty2,n2,f2,x2,p2⟩ am2 cm2 ks2) ∧ Bkn (fun k => w§ ≤ k ∧ k < Y§) (.mk ⟨k2,o2,ty2,n2,f2,x2,p2⟩ am2 cm2 ks2) ∧ Below w§ w Y) := ⟨hY1,hl.bkn hk fun j hj => hY3 j (by omega),hk.mono fun j hj => ⟨by omega,by omega⟩,(hY4 _ (fun _ => False) (Mv.ofBelow (below2 g1 hb)) (Nat.le_refl _)).toBelow⟩
  have HEY : Hid (_ = Y) := eY
  have z0 : w1.cell? ⟨w§,0,none⟩ = some (zU 0) := cell_of hZ 0
  have q0 : w1.frozen? ⟨w§,0,none⟩ = false := frozen_of hZ 0
  have z1 : w1.cell? ⟨w§,1,none⟩ = some (zU 0) := cell_of hZ 1
  have q1 : w1.frozen? ⟨w§,1,none⟩ = false := frozen_of hZ 1
  have z2 : w1.cell? ⟨w§,2,none⟩ = some (zU 0) := cell_of hZ 2
  have q2 : w1.frozen? ⟨w§,2,none⟩ = false := frozen_of hZ 2
  have z3 : w1.cell? ⟨w§,3,none⟩ = some (zI 0) := cell_of hZ 3
  have q3 : w1.frozen? ⟨w§,3,none⟩ = false := frozen_of hZ 3
  have z4 : w1.cell? ⟨w§,4,none⟩ = some (zU 0) := cell_of hZ 4
  have q4 : w1.frozen? ⟨w§,4,none⟩ = false := frozen_of hZ 4
  have z5 : w1.cell? ⟨w§,5,none⟩ = some (.string ⟨#[]⟩) := cell_of hZ 5
  have q5 : w1.frozen? ⟨w§,5,none⟩ = false := frozen_of hZ 5
  have z6 : w1.cell? ⟨w§,6,none⟩ = some (.slice none 0 0) := cell_of hZ 6
  have q6 : w1.frozen? ⟨w§,6,none⟩ = false := frozen_of hZ 6
  have z7 : w1.cell? ⟨w§,7,none⟩ = some (zI 0) := cell_of hZ 7
  have q7 : w1.frozen? ⟨w§,7,none⟩ = false := frozen_of hZ 7
  clear cW hl hk hb g1 g2 g3 hZ eY hY1 hY2 hY3 hY4 H0
  simp only [Nd.vals,Nd.h,Nd.a,Nd.c,Nd.ks,hdA]
  go_wp2_with fail
  rw [HEY.out]
  exact bodyPost_ret (results_two (p := 2) (u := 3) (ty := 64) rfl _ _ w§ 64 (Nd.mk ⟨k2,o2,ty2,n2,f2,x2,p2⟩ am2 cm2 ks2).vals (0,0) _ rfl HY.out.1 Tryz.underlying64 rfl zK) rfl ⟨⟨_,rfl,rfl,HY.out.2.1,HY.out.2.2.1⟩,HY.out.2.2.2⟩
open Go.Extern.Stop Go.Stop Go.Extern
theorem vOf128 (t : Addr) (w : World) : (ReflectliteValue.unpack (.iface 128 (.pointer (some t)))).run Tryz.prog w = .ok (.agg #[.pointer (some ⟨3,128,none⟩),zP w§,.int .u64 150]) (w.alloc (.cells #[.pointer (some t)] 128)) := by kernel_rfl
theorem vOf161 (t : Addr) (w : World) : (ReflectliteValue.unpack (.iface 161 (.pointer (some t)))).run Tryz.prog w = .ok (.agg #[.pointer (some ⟨3,161,none⟩),zP w§,.int .u64 150]) (w.alloc (.cells #[.pointer (some t)] 161)) := by kernel_rfl
theorem vOf74 (t : Addr) (w : World) : (ReflectliteValue.unpack (.iface 74 (.pointer (some t)))).run Tryz.prog w = .ok (.agg #[.pointer (some ⟨3,74,none⟩),zP w§,.int .u64 150]) (w.alloc (.cells #[.pointer (some t)] 74)) := by kernel_rfl
theorem tOf74 (v : Value) (w : World) : (ReflectliteType.typeOf #[.iface 74 v]).run Tryz.prog w = .ok (.iface 193 (.agg #[.pointer (some ⟨3,74,none⟩)])) w := by kernel_rfl
theorem tOf48 (v : Value) (w : World) : (ReflectliteType.typeOf #[.iface 48 v]).run Tryz.prog w = .ok (.iface 193 (.agg #[.pointer (some ⟨3,48,none⟩)])) w := by kernel_rfl
theorem asg74_74 (w : World) : (ReflectliteType.relation "AssignableTo" ReflectliteType.assignableTo #[.agg #[.pointer (some ⟨3, 74, none⟩)], .iface 193 (.agg #[.pointer (some ⟨3, 74, none⟩)])]).run Tryz.prog w = .ok (.bool true) w := by kernel_rfl
theorem asg74_48 (w : World) : (ReflectliteType.relation "AssignableTo" ReflectliteType.assignableTo #[.agg #[.pointer (some ⟨3, 74, none⟩)], .iface 193 (.agg #[.pointer (some ⟨3, 48, none⟩)])]).run Tryz.prog w = .ok (.bool false) w := by kernel_rfl
theorem asg48_48 (w : World) : (ReflectliteType.relation "AssignableTo" ReflectliteType.assignableTo #[.agg #[.pointer (some ⟨3, 48, none⟩)], .iface 193 (.agg #[.pointer (some ⟨3, 48, none⟩)])]).run Tryz.prog w = .ok (.bool true) w := by kernel_rfl
theorem asg48_74 (w : World) : (ReflectliteType.relation "AssignableTo" ReflectliteType.assignableTo #[.agg #[.pointer (some ⟨3, 48, none⟩)], .iface 193 (.agg #[.pointer (some ⟨3, 74, none⟩)])]).run Tryz.prog w = .ok (.bool false) w := by kernel_rfl
theorem imp74 (w : World) : (ReflectliteType.relation "Implements" ReflectliteType.implements_ #[.agg #[.pointer (some ⟨3, 74, none⟩)], .iface 193 (.agg #[.pointer (some ⟨3, 45, none⟩)])]).run Tryz.prog w = .ok (.bool true) w := by kernel_rfl
theorem imp48 (w : World) : (ReflectliteType.relation "Implements" ReflectliteType.implements_ #[.agg #[.pointer (some ⟨3, 48, none⟩)], .iface 193 (.agg #[.pointer (some ⟨3, 45, none⟩)])]).run Tryz.prog w = .ok (.bool true) w := by kernel_rfl
theorem elm128 (w : World) : (ReflectliteType.method ReflectliteType.elem #[.agg #[.pointer (some ⟨3,128,none⟩)]]).run Tryz.prog w = .ok (.iface 193 (.agg #[.pointer (some ⟨3,74,none⟩)])) w := by kernel_rfl
theorem elm161 (w : World) : (ReflectliteType.method ReflectliteType.elem #[.agg #[.pointer (some ⟨3,161,none⟩)]]).run Tryz.prog w = .ok (.iface 193 (.agg #[.pointer (some ⟨3,48,none⟩)])) w := by kernel_rfl
theorem mtKind (h : Value) (w : World) : (Go.method 392 193 (.agg #[h]) "Kind").run Tryz.prog w = .ok (210, h) w := by kernel_rfl
theorem mtElem (h : Value) (w : World) : (Go.method 392 193 (.agg #[h]) "Elem").run Tryz.prog w = .ok (223, .agg #[h]) w := by kernel_rfl
theorem mtImpl (h : Value) (w : World) : (Go.method 392 193 (.agg #[h]) "Implements").run Tryz.prog w = .ok (224, .agg #[h]) w := by kernel_rfl
theorem mtAsg (h : Value) (w : World) : (Go.method 392 193 (.agg #[h]) "AssignableTo").run Tryz.prog w = .ok (221, .agg #[h]) w := by kernel_rfl
theorem ty128 (a : Addr) (w : World) : (ReflectliteValue.methodAny (ReflectliteValue.valueError "reflectlite.Value.Type" 0) (fun t _ _ _ => ReflectliteType.toType t) #[.agg #[.pointer (some ⟨3, 128, none⟩), .pointer (some a), .int .u64 150]]).run Tryz.prog w = .ok (.iface 193 (.agg #[.pointer (some ⟨3, 128, none⟩)])) w := by kernel_rfl
theorem kd128 (w : World) : ((ReflectliteType.abiMethod fun t => (fun a : Nat => Value.int IntKind.u8 (a : Int)) <$> Rtype.kind t) #[.pointer (some ⟨3,128,none⟩)]).run Tryz.prog w = .ok (zU 22) w := by kernel_rfl
theorem kd74 (w : World) : ((ReflectliteType.abiMethod fun t => (fun a : Nat => Value.int IntKind.u8 (a : Int)) <$> Rtype.kind t) #[.pointer (some ⟨3,74,none⟩)]).run Tryz.prog w = .ok (zU 22) w := by kernel_rfl
theorem pt128 (a : Addr) (w : World) : (ReflectliteValue.parts (.agg #[.pointer (some ⟨3,128,none⟩),.pointer (some a),.int .u64 150])).run Tryz.prog w = .ok (some (128,a,150)) w := by kernel_rfl
theorem pt74 (a : Addr) (w : World) : (ReflectliteValue.parts (.agg #[.pointer (some ⟨3,74,none⟩),.pointer (some a),.int .u64 150])).run Tryz.prog w = .ok (some (74,a,150)) w := by kernel_rfl
theorem pt74a (a : Addr) (w : World) : (ReflectliteValue.parts (.agg #[.pointer (some ⟨3,74,none⟩),.pointer (some a),.int .u64 406])).run Tryz.prog w = .ok (some (74,a,406)) w := by kernel_rfl
theorem el128 (w : World) : (Rtype.elem? 128).run Tryz.prog w = .ok (some 74) w := by kernel_rfl
theorem mk74 (p : Addr) (w : World) : (ReflectliteValue.mk 74 p ReflectliteValue.flagAddr).run Tryz.prog w = .ok (.agg #[.pointer (some ⟨3,74,none⟩),.pointer (some p),.int .u64 406]) w := by kernel_rfl
theorem da74 (w : World) : (Rtype.directlyAssignable 74 74).run Tryz.prog w = .ok true w := by kernel_rfl
theorem rl_parts (z : Sem Value) (f : TypeId → Addr → Nat → Nat → Sem Value) (v : Value) : ∃ g : Option (TypeId × Addr × Nat) → Sem Value,ReflectliteValue.method z f #[v] = (ReflectliteValue.parts v >>= g) ∧ ∀ t a fl,g (some (t,a,fl)) = f t a fl (fl % 32) := ⟨_,rfl,fun _ _ _ => rfl⟩
theorem nil128 (a p : Addr) (W : World) (ha : W.cell? a = some (.pointer (some p))) :
  (ReflectliteValue.method (ReflectliteValue.valueError "reflectlite.Value.IsNil" 0) ReflectliteValue.isNil #[.agg #[.pointer (some ⟨3, 128, none⟩), .pointer (some a), .int .u64 150]]).run Tryz.prog W = .ok (.bool false) W := by
 obtain ⟨g, h1, h2⟩ := rl_parts (ReflectliteValue.valueError "reflectlite.Value.IsNil" 0) ReflectliteValue.isNil (.agg #[.pointer (some ⟨3, 128, none⟩), .pointer (some a), .int .u64 150])
 rw [h1,Sem.run_bind,pt128]
 simp [Result.andThen,h2,ReflectliteValue.isNil,loadVar,isAgg,underlying,Tryz.underlying128,ha]
theorem elv128 (a p : Addr) (W : World) (ha : W.cell? a = some (.pointer (some p))) :
  (ReflectliteValue.method (ReflectliteValue.valueError "reflectlite.Value.Elem" 0) ReflectliteValue.elem #[.agg #[.pointer (some ⟨3, 128, none⟩), .pointer (some a), .int .u64 150]]).run Tryz.prog W = .ok (.agg #[.pointer (some ⟨3, 74, none⟩), .pointer (some p), .int .u64 406]) W := by
 obtain ⟨g, h1, h2⟩ := rl_parts (ReflectliteValue.valueError "reflectlite.Value.Elem" 0) ReflectliteValue.elem (.agg #[.pointer (some ⟨3, 128, none⟩), .pointer (some a), .int .u64 150])
 rw [h1,Sem.run_bind,pt128]
 simp [Result.andThen,h2,ReflectliteValue.elem,loadVar,isAgg,underlying,Tryz.underlying128,ha,el128,mk74]
theorem rlv_set (v x : Value) : ∃ g : Option (TypeId × Addr × Nat) → Option (TypeId × Addr × Nat) → Sem Value,ReflectliteValue.set #[v,x] = (ReflectliteValue.parts v >>= fun p => ReflectliteValue.parts x >>= fun q => g p q) ∧ ∀ dst a fl src b k,fl / ReflectliteValue.flagAddr % 2 = 1 → ∃ r : Value → Bool → Sem Value,g (some (dst,a,fl)) (some (src,b,k)) = (loadVar src b >>= fun val => Rtype.directlyAssignable dst src >>= r val) ∧ ∀ val,r val true = (storeVar dst a val >>= fun _ => pure (.tuple #[])) := by
 refine ⟨_,rfl,fun dst a fl src b k h => ?_⟩
 have h' : (fl / ReflectliteValue.flagAddr % 2 == 0) = false := by rw [h]; rfl
 simp only [h']
 exact ⟨_,rfl,fun _ => rfl⟩
theorem set74 (ta b e : Addr) (old : Value) (W : World) (hb : W.cell? b = some (.pointer (some e))) (ht : W.cell? ta = some old) (hf : W.frozen? ta = false) :
  (ReflectliteValue.set #[.agg #[.pointer (some ⟨3,74,none⟩),.pointer (some ta),.int .u64 406],.agg #[.pointer (some ⟨3,74,none⟩),.pointer (some b),.int .u64 150]]).run Tryz.prog W = .ok (.tuple #[]) (W.setCell ta (.pointer (some e))) := by
 obtain ⟨g,h1,h2⟩ := rlv_set (.agg #[.pointer (some ⟨3,74,none⟩),.pointer (some ta),.int .u64 406]) (.agg #[.pointer (some ⟨3,74,none⟩),.pointer (some b),.int .u64 150])
 obtain ⟨r,h3,h4⟩ := h2 74 ta 406 74 b 150 (by decide)
 rw [h1]
 simp only [Sem.run_bind,pt74a,pt74,Result.andThen,h3]
 simp [loadVar,isAgg,underlying,Tryz.underlying74,hb,Result.andThen,da74,h4,storeVar,Value.cells,storeCells,Addr.add]
 rw [run_store Tryz.prog W ta _ _ (by rfl)]
 simp [ht,hf]
end Go.Proofs.YtkfabnchhjfjjaaGreatDoor
