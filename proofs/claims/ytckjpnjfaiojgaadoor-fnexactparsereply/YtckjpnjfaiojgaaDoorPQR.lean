/- 'eqReply' at equal structs. Written by mk_PQ.py. -/
import Derived.Test.YtckjpnjfaiojgaaDoorWire
import Derived.Test.YtckjpnjfaiojgaaDoorEqA24
import Derived.Test.YtckjpnjfaiojgaaDoorEqA32
namespace Go.Proofs.YtckjpnjfaiojgaaDoor
open Go.RowKit
set_option linter.unusedVariables false
theorem infoQ24PQR : (Tryd.prog.info? 24).map (·.size) = some 24 := by kernel_rfl
theorem infoQ32PQR : (Tryd.prog.info? 25).map (·.size) = some 32 := by kernel_rfl
set_option maxRecDepth 10000 in
set_option maxHeartbeats 2000000 in
theorem eqReply_yes (r : Int) (y : List Int) (hy : y.length = 56) (w : World) :
    Calls Tryd.prog 9 #[.agg (WL r y).toArray, .agg (WL r y).toArray] w fun e w' => e = .returned (.bool true) ∧ Below w.heap.size w w' := by
  have hr : (WL r y)[0]? = some (.int .u32 r) := rfl
  obtain ⟨W, hW, k0, k1, hs, hb⟩ := alloc2 w (.cells (WL r y).toArray 27) (.cells (WL r y).toArray 27)
  have K0 : Hid (((w.alloc (.cells (WL r y).toArray 27)).alloc (.cells (WL r y).toArray 27)).heap[w.heap.size]? = some (.cells (WL r y).toArray 27)) := by show _ = _; rw [hW]; exact k0
  have K1 : Hid (((w.alloc (.cells (WL r y).toArray 27)).alloc (.cells (WL r y).toArray 27)).heap[w.heap.size + 1]? = some (.cells (WL r y).toArray 27)) := by show _ = _; rw [hW]; exact k1
  have KB : Hid (Below w.heap.size w ((w.alloc (.cells (WL r y).toArray 27)).alloc (.cells (WL r y).toArray 27))) := by show Below _ _ _; rw [hW]; exact hb
  clear hW k0 k1 hs hb
  have hl0 : Hid ((partZ y 0 24).length = 24) := partZ_length y 0 24 56 hy (by omega)
  have hi0 : Hid ((Tryd.prog.info? 24).map (·.size) = some ((partZ y 0 24).map (Value.int .u8)).length) := by show _ = _; rw [List.length_map, hl0.out]; exact infoQ24PQR
  have hl1 : Hid ((partZ y 24 32).length = 32) := partZ_length y 24 32 56 hy (by omega)
  have hi1 : Hid ((Tryd.prog.info? 25).map (·.size) = some ((partZ y 24 32).map (Value.int .u8)).length) := by show _ = _; rw [List.length_map, hl1.out]; exact infoQ32PQR
  go_enter Tryd.func9, Tryd.ntmps9
  go_wp2_with (first
    | refine wpList_load_mid rfl 24 _ rfl w.heap.size 1 rfl ((partZ y 0 24).map (Value.int .u8)) _ (range_part K0.out 0 24) Tryd.underlying24 rfl hi0.out ?_
    | refine wpList_load_mid rfl 24 _ rfl (w.heap.size + 1) 1 rfl ((partZ y 0 24).map (Value.int .u8)) _ (range_part K1.out 0 24) Tryd.underlying24 rfl hi0.out ?_)
  refine (eqByteA24_yes (partZ y 0 24) hl0.out _).mono ?_
  rintro e w0 ⟨rfl, hb0⟩
  have J0 : Hid _ := (hb0.block _ (Array.getElem?_eq_some_iff.1 K0.out).1).trans K0.out
  have J1 : Hid _ := (hb0.block _ (Array.getElem?_eq_some_iff.1 K1.out).1).trans K1.out
  have JB : Hid _ := KB.out.trans (hb0.mono KB.out.size)
  clear K0 K1 KB hb0 hl0 hi0
  have K0 : Hid _ := J0.out
  have K1 : Hid _ := J1.out
  have KB : Hid _ := JB.out
  clear J0 J1 JB
  go_wp2_with (first
    | refine wpList_load_mid rfl 25 _ rfl w.heap.size 25 rfl ((partZ y 24 32).map (Value.int .u8)) _ (range_part K0.out 24 32) Tryd.underlying25 rfl hi1.out ?_
    | refine wpList_load_mid rfl 25 _ rfl (w.heap.size + 1) 25 rfl ((partZ y 24 32).map (Value.int .u8)) _ (range_part K1.out 24 32) Tryd.underlying25 rfl hi1.out ?_)
  refine (eqByteA32_yes (partZ y 24 32) hl1.out _).mono ?_
  rintro e w1 ⟨rfl, hb1⟩
  have J0 : Hid _ := (hb1.block _ (Array.getElem?_eq_some_iff.1 K0.out).1).trans K0.out
  have J1 : Hid _ := (hb1.block _ (Array.getElem?_eq_some_iff.1 K1.out).1).trans K1.out
  have JB : Hid _ := KB.out.trans (hb1.mono KB.out.size)
  clear K0 K1 KB hb1 hl1 hi1
  have K0 : Hid _ := J0.out
  have K1 : Hid _ := J1.out
  have KB : Hid _ := JB.out
  clear J0 J1 JB
  go_wp2
  go_ret
  exact ⟨rfl, KB.out⟩
end Go.Proofs.YtckjpnjfaiojgaaDoor
