/- errors.Is: no error; the very error. -/
import Derived.Test.YtckjpnjfaiojgaaDoorRows
import Derived.Test.YtckjpnjfaiojgaaDoorBase
import Derived.WalkLawsBesides
import Derived.LaidEql
namespace Go.Proofs.YtckjpnjfaiojgaaDoor
open Go.RowKit Go.Extern.Stop Go.Stop Go.Extern
set_option linter.unusedVariables false
theorem cmpSome : (Extern.find Tryd.f62).isSome = true := by kernel_rfl
noncomputable def cmpExtern : Array Value → Sem Value := (Extern.find Tryd.f62).get cmpSome
theorem cmpFind : Extern.find Tryd.f62 = some cmpExtern := (Option.some_get cmpSome).symm
theorem isTypeOf (v : Value) (w : World) : (Extern.ReflectliteType.typeOf #[.iface 100 v]).run Tryd.prog w = .ok (.iface 89 (.agg #[.pointer (some ⟨1, 100, none⟩)])) w ∧ (cmpExtern #[.agg #[.pointer (some ⟨1, 100, none⟩)]]).run Tryd.prog w = .ok (.bool true) w := ⟨by kernel_rfl, by kernel_rfl⟩
theorem isMethod (n : Nat) (v : Value) (w : World) : (Go.method (n + 1) 89 v "Comparable").run Tryd.prog w = .ok (62, v) w := by kernel_rfl
theorem isComp : (Tryd.prog.info? 100).map (·.comparable) = some true := by kernel_rfl
theorem isSize : (Tryd.prog.info? 125).map (·.size) = some 1 := by kernel_rfl
theorem errorsIs_nil (a : Addr) (w : World) :
    Calls Tryd.prog 25 #[.nilIface, .iface 100 (.pointer (some a))] w fun e w' => e = .returned (.bool false) ∧ w' = w := by
  have hn := run_eql_iface_nil_left (P := Tryd.prog) w 100 (.pointer (some a)) Tryd.underlying56
  go_enter Tryd.func25, Tryd.ntmps25
  go_wp2
  go_ret
  exact ⟨rfl, rfl⟩
set_option maxRecDepth 1000000 in
set_option maxHeartbeats 1000000 in
theorem errorsis_same (a : Addr) (w : World) :
    Calls Tryd.prog 38 #[.iface 100 (.pointer (some a)), .iface 100 (.pointer (some a)), .bool true] w fun e w' => e = .returned (.bool true) ∧ w' = w := by
  obtain ⟨i, hi, hcmp⟩ := Option.map_eq_some_iff.1 isComp
  obtain ⟨j, hj, hjs⟩ := Option.map_eq_some_iff.1 isSize
  have heq := run_eql_iface_ptr_same (P := Tryd.prog) w a Tryd.underlying56 Tryd.underlying100 hi hcmp hj
  go_enter Tryd.func38, Tryd.ntmps38
  go_wp2
  go_loopw [0] (fun E' wl => wl = w ∧ E' = .iface 100 (.pointer (some a))) (fun _ _ => 0)
  case atStart => exact ⟨rfl, rfl⟩
  case round =>
    obtain ⟨rfl, rfl⟩ := hrel
    go_wp2
    go_ret
    exact ⟨rfl, rfl⟩
set_option maxRecDepth 1000000 in
set_option maxHeartbeats 1000000 in
theorem errorsIs_same (a : Addr) (w : World) :
    Calls Tryd.prog 25 #[.iface 100 (.pointer (some a)), .iface 100 (.pointer (some a))] w fun e w' => e = .returned (.bool true) ∧ w' = w := by
  have h10 := @run_callFunc_extern Tryd.prog 37 _ Extern.ReflectliteType.typeOf Tryd.func37 (by kernel_rfl) (by kernel_rfl) (by kernel_rfl) (by kernel_rfl)
  have h30 := @run_callFunc_extern Tryd.prog 62 _ cmpExtern Tryd.func62 (by kernel_rfl) (by kernel_rfl) (by kernel_rfl) cmpFind
  obtain ⟨tT, cT⟩ := isTypeOf (.pointer (some a)) w
  have hcon := errorsis_same a w
  have mR := isMethod
  go_enter Tryd.func25, Tryd.ntmps25
  go_wp2_with (first | (go_at_call 38; refine hcon.mono ?_; rintro e w' ⟨rfl, rfl⟩) | go_in)
  go_ret
  exact ⟨rfl, rfl⟩
end Go.Proofs.YtckjpnjfaiojgaaDoor
