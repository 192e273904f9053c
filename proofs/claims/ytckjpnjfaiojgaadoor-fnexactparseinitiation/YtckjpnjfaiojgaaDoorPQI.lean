/- 'eqInitiation' at equal structs. Written by mk_PQ.py. -/
import Derived.Test.YtckjpnjfaiojgaaDoorWire
import Derived.Test.YtckjpnjfaiojgaaDoorEqA16
import Derived.Test.YtckjpnjfaiojgaaDoorEqA28
import Derived.Test.YtckjpnjfaiojgaaDoorEqA32
import Derived.Test.YtckjpnjfaiojgaaDoorEqA48
namespace Go.Proofs.YtckjpnjfaiojgaaDoor
open Go.RowKit
set_option linter.unusedVariables false
theorem infoQ16PQI : (Tryd.prog.info? 36).map (·.size) = some 16 := by kernel_rfl
theorem infoQ28PQI : (Tryd.prog.info? 35).map (·.size) = some 28 := by kernel_rfl
theorem infoQ32PQI : (Tryd.prog.info? 25).map (·.size) = some 32 := by kernel_rfl
theorem infoQ48PQI : (Tryd.prog.info? 34).map (·.size) = some 48 := by kernel_rfl
set_option maxRecDepth 10000 in
set_option maxHeartbeats 2000000 in
theorem eqInitiation_yes (r : Int) (y : List Int) (hy : y.length = 140) (w : World) :
    Calls Tryd.prog 13 #[.agg (WL r y).toArray, .agg (WL r y).toArray] w fun e w' => e = .returned (.bool true) ∧ Below w.heap.size w w' := by
  have hr : (WL r y)[0]? = some (.int .u32 r) := rfl
  obtain ⟨W, hW, k0, k1, hs, hb⟩ := alloc2 w (.cells (WL r y).toArray 38) (.cells (WL r y).toArray 38)
  have K0 : Hid (((w.alloc (.cells (WL r y).toArray 38)).alloc (.cells (WL r y).toArray 38)).heap[w.heap.size]? = some (.cells (WL r y).toArray 38)) := by show _ = _; rw [hW]; exact k0
  have K1 : Hid (((w.alloc (.cells (WL r y).toArray 38)).alloc (.cells (WL r y).toArray 38)).heap[w.heap.size + 1]? = some (.cells (WL r y).toArray 38)) := by show _ = _; rw [hW]; exact k1
  have KB : Hid (Below w.heap.size w ((w.alloc (.cells (WL r y).toArray 38)).alloc (.cells (WL r y).toArray 38))) := by show Below _ _ _; rw [hW]; exact hb
  clear hW k0 k1 hs hb
  have hl0 : Hid ((partZ y 0 32).length = 32) := partZ_length y 0 32 140 hy (by omega)
  have hi0 : Hid ((Tryd.prog.info? 25).map (·.size) = some ((partZ y 0 32).map (Value.int .u8)).length) := by show _ = _; rw [List.length_map, hl0.out]; exact infoQ32PQI
  have hl1 : Hid ((partZ y 32 48).length = 48) := partZ_length y 32 48 140 hy (by omega)
  have hi1 : Hid ((Tryd.prog.info? 34).map (·.size) = some ((partZ y 32 48).map (Value.int .u8)).length) := by show _ = _; rw [List.length_map, hl1.out]; exact infoQ48PQI
  have hl2 : Hid ((partZ y 80 28).length = 28) := partZ_length y 80 28 140 hy (by omega)
  have hi2 : Hid ((Tryd.prog.info? 35).map (·.size) = some ((partZ y 80 28).map (Value.int .u8)).length) := by show _ = _; rw [List.length_map, hl2.out]; exact infoQ28PQI
  have hl3 : Hid ((partZ y 108 16).length = 16) := partZ_length y 108 16 140 hy (by omega)
  have hi3 : Hid ((Tryd.prog.info? 36).map (·.size) = some ((partZ y 108 16).map (Value.int .u8)).length) := by show _ = _; rw [List.length_map, hl3.out]; exact infoQ16PQI
  have hl4 : Hid ((partZ y 124 16).length = 16) := partZ_length y 124 16 140 hy (by omega)
  have hi4 : Hid ((Tryd.prog.info? 36).map (·.size) = some ((partZ y 124 16).map (Value.int .u8)).length) := by show _ = _; rw [List.length_map, hl4.out]; exact infoQ16PQI
  go_enter Tryd.func13, Tryd.ntmps13
  go_wp2_with (first
    | refine wpList_load_mid rfl 25 _ rfl w.heap.size 1 rfl ((partZ y 0 32).map (Value.int .u8)) _ (range_part K0.out 0 32) Tryd.underlying25 rfl hi0.out ?_
    | refine wpList_load_mid rfl 25 _ rfl (w.heap.size + 1) 1 rfl ((partZ y 0 32).map (Value.int .u8)) _ (range_part K1.out 0 32) Tryd.underlying25 rfl hi0.out ?_)
  refine (eqByteA32_yes (partZ y 0 32) hl0.out _).mono ?_
  rintro e w0 ⟨rfl, hb0⟩
  have J0 : Hid _ := (hb0.block _ (Array.getElem?_eq_some_iff.1 K0.out).1).trans K0.out
  have J1 : Hid _ := (hb0.block _ (Array.getElem?_eq_some_iff.1 K1.out).1).trans K1.out
  have JB : Hid _ := KB.out.trans (hb0.mono KB.out.size)
  clear K0 K1 KB hb0 hl0 hi0
  have K0 : Hid _ := J0.out
  have K1 : Hid _ := J1.out
  have KB : Hid _ := JB.out
  clear J0 J1 JB
  go_wp2_with (first
    | refine wpList_load_mid rfl 34 _ rfl w.heap.size 33 rfl ((partZ y 32 48).map (Value.int .u8)) _ (range_part K0.out 32 48) Tryd.underlying34 rfl hi1.out ?_
    | refine wpList_load_mid rfl 34 _ rfl (w.heap.size + 1) 33 rfl ((partZ y 32 48).map (Value.int .u8)) _ (range_part K1.out 32 48) Tryd.underlying34 rfl hi1.out ?_)
  refine (eqByteA48_yes (partZ y 32 48) hl1.out _).mono ?_
  rintro e w1 ⟨rfl, hb1⟩
  have J0 : Hid _ := (hb1.block _ (Array.getElem?_eq_some_iff.1 K0.out).1).trans K0.out
  have J1 : Hid _ := (hb1.block _ (Array.getElem?_eq_some_iff.1 K1.out).1).trans K1.out
  have JB : Hid _ := KB.out.trans (hb1.mono KB.out.size)
  clear K0 K1 KB hb1 hl1 hi1
  have K0 : Hid _ := J0.out
  have K1 : Hid _ := J1.out
  have KB : Hid _ := JB.out
  clear J0 J1 JB
  go_wp2_with (first
    | refine wpList_load_mid rfl 35 _ rfl w.heap.size 81 rfl ((partZ y 80 28).map (Value.int .u8)) _ (range_part K0.out 80 28) Tryd.underlying35 rfl hi2.out ?_
    | refine wpList_load_mid rfl 35 _ rfl (w.heap.size + 1) 81 rfl ((partZ y 80 28).map (Value.int .u8)) _ (range_part K1.out 80 28) Tryd.underlying35 rfl hi2.out ?_)
  refine (eqByteA28_yes (partZ y 80 28) hl2.out _).mono ?_
  rintro e w2 ⟨rfl, hb2⟩
  have J0 : Hid _ := (hb2.block _ (Array.getElem?_eq_some_iff.1 K0.out).1).trans K0.out
  have J1 : Hid _ := (hb2.block _ (Array.getElem?_eq_some_iff.1 K1.out).1).trans K1.out
  have JB : Hid _ := KB.out.trans (hb2.mono KB.out.size)
  clear K0 K1 KB hb2 hl2 hi2
  have K0 : Hid _ := J0.out
  have K1 : Hid _ := J1.out
  have KB : Hid _ := JB.out
  clear J0 J1 JB
  go_wp2_with (first
    | refine wpList_load_mid rfl 36 _ rfl w.heap.size 109 rfl ((partZ y 108 16).map (Value.int .u8)) _ (range_part K0.out 108 16) Tryd.underlying36 rfl hi3.out ?_
    | refine wpList_load_mid rfl 36 _ rfl (w.heap.size + 1) 109 rfl ((partZ y 108 16).map (Value.int .u8)) _ (range_part K1.out 108 16) Tryd.underlying36 rfl hi3.out ?_)
  refine (eqByteA16_yes (partZ y 108 16) hl3.out _).mono ?_
  rintro e w3 ⟨rfl, hb3⟩
  have J0 : Hid _ := (hb3.block _ (Array.getElem?_eq_some_iff.1 K0.out).1).trans K0.out
  have J1 : Hid _ := (hb3.block _ (Array.getElem?_eq_some_iff.1 K1.out).1).trans K1.out
  have JB : Hid _ := KB.out.trans (hb3.mono KB.out.size)
  clear K0 K1 KB hb3 hl3 hi3
  have K0 : Hid _ := J0.out
  have K1 : Hid _ := J1.out
  have KB : Hid _ := JB.out
  clear J0 J1 JB
  go_wp2_with (first
    | refine wpList_load_mid rfl 36 _ rfl w.heap.size 125 rfl ((partZ y 124 16).map (Value.int .u8)) _ (range_part K0.out 124 16) Tryd.underlying36 rfl hi4.out ?_
    | refine wpList_load_mid rfl 36 _ rfl (w.heap.size + 1) 125 rfl ((partZ y 124 16).map (Value.int .u8)) _ (range_part K1.out 124 16) Tryd.underlying36 rfl hi4.out ?_)
  refine (eqByteA16_yes (partZ y 124 16) hl4.out _).mono ?_
  rintro e w4 ⟨rfl, hb4⟩
  have J0 : Hid _ := (hb4.block _ (Array.getElem?_eq_some_iff.1 K0.out).1).trans K0.out
  have J1 : Hid _ := (hb4.block _ (Array.getElem?_eq_some_iff.1 K1.out).1).trans K1.out
  have JB : Hid _ := KB.out.trans (hb4.mono KB.out.size)
  clear K0 K1 KB hb4 hl4 hi4
  have K0 : Hid _ := J0.out
  have K1 : Hid _ := J1.out
  have KB : Hid _ := JB.out
  clear J0 J1 JB
  go_wp2
  go_ret
  exact ⟨rfl, KB.out⟩
end Go.Proofs.YtckjpnjfaiojgaaDoor
