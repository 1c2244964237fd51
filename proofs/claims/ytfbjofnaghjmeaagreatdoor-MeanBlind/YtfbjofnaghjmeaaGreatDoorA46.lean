import Derived.Test.YtfbjofnaghjmeaaGreatDoorA0
import Derived.Test.YtfbjofnaghjmeaaGreatDoorRows
import Derived.Test.YtfbjofnaghjmeaaGreatDoorA3
import Derived.Test.YtfbjofnaghjmeaaGreatDoorA21
import Derived.LaidMore
import Derived.LaidHandle
import Derived.MakeChecks
import Derived.Stop.LaidErr
import Derived.Lib.LaidTab
namespace Go.Proofs.YtfbjofnaghjmeaaGreatDoor
set_option maxRecDepth 100000
open Go.RowKit
def txtData {H:Type}(zs:List yB):DataW H:=.agg (zs.map fun z=>.lit (.string z.data.toList))
theorem tab_data:(Rows.laid_tripwire_lex_words:DataW Unit)=txtData wordsL:=by rfl
theorem cells_of_txt {H:Type}{enc:TypeId × Value→H}{P:Program}{w:yW}{base:Nat}{sp:Nat→Bool}{held:Bool}{fuel:Nat}{t e:TypeId}{n:Nat}{cs:List Value}{zs:List yB}{p:List MemPlace}
  (ht:P.underlying t=some (.array n e)) (he:P.underlying e=some .string) (hce:P.cellsOf e=1) (hct:P.cellsOf t=n)
  (h:DataW.trod enc P w base sp held fuel t cs=some (txtData zs,p)):cs=zs.map Value.string:=by
 cases fuel with
 | zero=>simp [DataW.trod] at h
 | succ fuel =>
  simp only [DataW.trod,ht,hce,hct,Nat.mul_one] at h
  split at h
  ·rename_i hl
   obtain⟨xs,hm,hx⟩:=Option.map_eq_some_iff.1 h
   have hxs:xs.map (·.1)=zs.map fun z=>(DataW.lit (.string z.data.toList):DataW H):=by
    have:=congrArg Prod.fst hx
    simpa [txtData] using this
   have hxl:xs.length=n:=by simpa using Lib.mapM_length hm
   have hzl:zs.length=n:=by
    have:=congrArg List.length hxs
    simp at this
    omega
   apply List.ext_getElem?
   intro i
   by_cases hi:i < n
   ·obtain⟨b,hb,hf⟩:=Lib.mapM_at hm i i (by simp [hi])
    obtain⟨z,hc,rfl,_⟩:=DataW.trod_string he hf
    have h1:cs[i]? = some (.string z):=by
     have:=congrArg (·[0]?) hc
     simpa [List.getElem?_take,List.getElem?_drop] using this
    have h2:(xs.map (·.1))[i]? = some (DataW.lit (.string z.data.toList):DataW H):=by simp [hb]
    rw [hxs] at h2
    simp only [List.getElem?_map,Option.map_eq_some_iff,DataW.lit.injEq,Lit.string.injEq] at h2
    obtain⟨z',hz',e2⟩:=h2
    simp [h1,hz',str_eq e2]
   ·rw [List.getElem?_eq_none (by omega),List.getElem?_eq_none (by simp; omega)]
  ·cases h
theorem txt_of_head {P:Program}{W:yW}{name:String}{zs:List yB}{rest:List (String × DataW Unit)}{g:Nat}{t e:TypeId}{n:Nat}
  (hg:P.globalNamed name=some g) (hty:(P.globals[g]?).map (·.type)=some t) (ht:P.underlying t=some (.array n e)) (he:P.underlying e=some .string) (hce:P.cellsOf e=1) (hct:P.cellsOf t=n)
  (h:laidMet P ((name,txtData zs) :: rest) W):W.var? P name=some (zs.map Value.string).toArray:=by
 obtain⟨ps,⟨g',t',cs,fuel,p,q,hg',ht',hvar,hd,_,_⟩,_⟩:=h
 obtain rfl:=Option.some.inj (hg.symm.trans hg')
 obtain rfl:=Option.some.inj (hty.symm.trans ht')
 rw [hvar,← cells_of_txt ht he hce hct hd]
theorem ety_of_var {W : yW} (h : W.var? Tryz.prog "errors.errorType" = some #[.iface 283 (.agg #[.pointer (some ⟨4, 85, none⟩)])]) : Ety W := by
 have hg : Tryz.prog.globalNamed "errors.errorType" = some 1 := by kernel_rfl
 have:=World.var?_cell hg h 0
 exact this
theorem err_row (ty:TypeId) (h1:ty < Tryz.prog.types.size) (h2:Tryz.prog.rowNamed ty [101,114,114,111,114]=true):ty=85:=by
 have h:((List.range Tryz.prog.types.size).all fun t=>!(Tryz.prog.rowNamed t [101,114,114,111,114]) || t == 85)=true:=by kernel_rfl
 have:=List.all_eq_true.1 h ty (List.mem_range.2 h1)
 simp [h2] at this
 exact this
theorem ftab_data:(Rows.laid_tripwire_types_fieldTypes:DataW Unit)=Lib.tabData .u8 fldL:=by rfl
theorem tab_of_laid {W:yW}(h:laidMetH Tryz.prog Rows.meanBlindRow.laid W):Tab W∧FTab W∧Ety W:=by
 have h2 : laidMet Tryz.prog [("tripwire/lex.words", (Rows.laid_tripwire_lex_words : DataW Unit)), ("tripwire/types.fieldTypes", (Rows.laid_tripwire_types_fieldTypes : DataW Unit))] W ∧ handlesMet Tryz.prog [("errors.errorType", (Rows.laid_errors_errorType : DataW Unit))] W := h
 refine⟨?_,?_,?_⟩
 ·have h3:=h2.1
  rw [tab_data] at h3
  exact txt_of_head (g:=2) (t:=312) (n:=41) (e:=9) zK zK zK zK zK zK h3
 ·have h3:=laidMet.tail h2.1
  rw [ftab_data] at h3
  exact Lib.tabIs_of_head (g:=0) (t:=219) (n:=7) (e:=34) zK zK zK zK zK zK h3
 ·obtain ⟨name, u, ty, e1, e2, e3, e4, e5⟩ : ∃ name u ty, (Rows.laid_errors_errorType : DataW Unit).handleName? = some name ∧ Option.map (fun x => x.snd) (Array.find? (fun x => x.fst == "internal/reflectlite.rtype") Tryz.prog.cutTypes) = some u ∧ ty < Tryz.prog.types.size ∧ Tryz.prog.rowNamed ty name = true ∧ World.var? Tryz.prog W "errors.errorType" = some #[Value.iface u (Value.agg #[typeHandle Tryz.prog ty])] := h2.2 _ (List.mem_singleton.2 rfl)
  have f1:(Rows.laid_errors_errorType:DataW Unit).handleName? = some [101,114,114,111,114]:=by kernel_rfl
  have f2 : Option.map (fun x => x.snd) (Array.find? (fun x => x.fst == "internal/reflectlite.rtype") Tryz.prog.cutTypes) = some 283 := by kernel_rfl
  obtain rfl:=Option.some.inj (f1.symm.trans e1)
  obtain rfl:=Option.some.inj (f2.symm.trans e2)
  obtain rfl:=err_row ty e3 e4
  exact ety_of_var e5
theorem door_met (os:Os) (args:Array Value):laidMetH Tryz.prog Rows.meanBlindRow.laid ((World.doorLaid Tryz.prog 400 os).forCall (fun _ _=>0) ⟨#[],args,[]⟩).memory :=
 laidMetH_of_parts3 (fuel:=8) (laidMet_of_run' 8 zK zK) zK zK
end Go.Proofs.YtfbjofnaghjmeaaGreatDoor
