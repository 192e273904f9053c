/- A number of 32 bits and bytes behind it, as the cells of a struct. Nothing of the program. -/
import Derived.Test.YtlbnmiinokkkgaaDoorMid
import Derived.Test.YtlbnmiinokkkgaaDoorNum
namespace Go.Proofs.YtlbnmiinokkkgaaDoor
open Go.RowKit
set_option linter.unusedVariables false

def zeroL (n : Nat) : List Int := List.replicate n 0
def WL (r : Int) (z : List Int) : List Value := Value.int .u32 r :: z.map (Value.int .u8)
theorem WL_length (r : Int) (z : List Int) : (WL r z).length = z.length + 1 := by simp [WL]
theorem WL_size (r : Int) (z : List Int) : (WL r z).toArray.size = z.length + 1 := by simp [WL]
theorem WL_head (r : Int) (z : List Int) : (WL r z).toArray[0]? = some (.int .u32 r) := by simp [WL]
theorem WL_byte (r : Int) (z : List Int) (i : Nat) (hi : i < z.length) : (WL r z).toArray[i + 1]? = some (.int .u8 (z.getD i 0)) := by simp [WL, hi]
theorem WL_one (r : Int) (z : List Int) : (WL r z).toArray.all (·.oneCell') = true := by simp [WL, Value.oneCell']
theorem WL_mid (r : Int) (z : List Int) (o n : Nat) : ((WL r z).drop (o + 1)).take n = ((z.drop o).take n).map (Value.int .u8) := by simp [WL, List.map_drop, List.map_take]
def partZ (z : List Int) (o n : Nat) : List Int := (z.drop o).take n
theorem partZ_length (z : List Int) (o n N : Nat) (hz : z.length = N) (h : o + n ≤ N) : (partZ z o n).length = n := by simp [partZ, hz]; omega
theorem WL_part (r : Int) (z : List Int) (o n : Nat) : ((WL r z).drop (o + 1)).take n = (partZ z o n).map (Value.int .u8) := WL_mid r z o n
def fillZ (z : List Int) (N k : Nat) : List Int := z.take k ++ List.replicate (N - k) 0
theorem fillZ_length (z : List Int) (N k : Nat) (hz : z.length = N) (hk : k ≤ N) : (fillZ z N k).length = N := by simp [fillZ, hz]; omega
theorem fillZ_end (z : List Int) (N : Nat) (hz : z.length = N) : fillZ z N N = z := by simp [fillZ, ← hz]
theorem fillZ_put (z : List Int) (N o n : Nat) (hz : z.length = N) (h : o + n ≤ N) : (fillZ z N o).take o ++ (z.drop o).take n ++ (fillZ z N o).drop (o + n) = fillZ z N (o + n) := by
  have e1 : (fillZ z N o).take o = z.take o := by
    unfold fillZ
    rw [List.take_append_of_le_length (by simp; omega), List.take_take, Nat.min_self]
  have e2 : (fillZ z N o).drop (o + n) = List.replicate (N - (o + n)) 0 := by
    unfold fillZ
    rw [List.drop_append, List.drop_eq_nil_of_le (by simp; omega), List.nil_append, List.drop_replicate]
    congr 1
    simp
    omega
  rw [e1, e2, ← List.take_add]
  rfl
theorem WL_put (r : Int) (z : List Int) (N o n : Nat) (hz : z.length = N) (h : o + n ≤ N) :
    (WL r (fillZ z N o)).take (o + 1) ++ ((z.drop o).take n).map (Value.int .u8) ++ (WL r (fillZ z N o)).drop (o + 1 + (((z.drop o).take n).map (Value.int .u8)).length) = WL r (fillZ z N (o + n)) := by
  have hn : (((z.drop o).take n).map (Value.int .u8)).length = n := by simp; omega
  rw [hn, ← fillZ_put z N o n hz h]
  simp only [WL, List.take_succ_cons, List.map_append, List.map_take, List.map_drop]
  rw [show o + 1 + n = (o + n) + 1 by omega, List.drop_succ_cons]
  simp
theorem WL_putPart (r : Int) (z : List Int) (N o n : Nat) (hz : z.length = N) (h : o + n ≤ N) :
    (WL r (fillZ z N o)).take (o + 1) ++ (partZ z o n).map (Value.int .u8) ++ (WL r (fillZ z N o)).drop (o + 1 + ((partZ z o n).map (Value.int .u8)).length) = WL r (fillZ z N (o + n)) := WL_put r z N o n hz h
theorem WL_fill0 (r : Int) (z : List Int) (N : Nat) : WL r (List.replicate N 0) = WL r (fillZ z N 0) := by simp [fillZ]
theorem range_part {w : World} {g : Nat} {r : Int} {z : List Int} {t : TypeId} {fr : Nat × Nat} (hg : w.heap[g]? = some (.cells (WL r z).toArray t fr)) (o n : Nat) : w.rangeAt g (o + 1) ((partZ z o n).map (Value.int .u8)) := by
  rw [← WL_part r z o n]
  exact range_row hg (o + 1) n
theorem part_one (l : List Int) : (l.map (Value.int .u8)).all (·.oneCell') = true := by simp [Value.oneCell']
end Go.Proofs.YtlbnmiinokkkgaaDoor
