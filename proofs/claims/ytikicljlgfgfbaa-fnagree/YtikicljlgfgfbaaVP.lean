/- Rows of the program's ratios. Written by mk_V.py. -/
import Derived.Test.YtikicljlgfgfbaaVN
import Derived.Test.YtikicljlgfgfbaaRn
import Derived.Test.YtikicljlgfgfbaaUR
import Derived.Test.YtikicljlgfgfbaaCV10
namespace Go.Proofs.Ytikicljlgfgfbaa
open Go.RowKit
set_option linter.unusedVariables false
theorem infoRa : (Try.prog.info? 57).map (·.size) = some 10 := by kernel_rfl
theorem infoRal {l : List Int} (h : l.length = 10) : (Try.prog.info? 57).map (·.size) = some (Iv .u64 l).size := by rw [Iv_size, h]; exact infoRa
theorem zeroRa : ∀ W, (zeroValue 57).run Try.prog W = .ok (.agg (Iv .u64 (zeroL 10))) W := (zero_of_info (n := 10) (by kernel_rfl)).1
theorem zero10 {l : List Int} (h : l.length = 10) : (Iv .u64 (zeroL 10)).size = (Iv .u64 l).size := by rw [Iv_size, Iv_size, h]; rfl
theorem zeroE5 {l : List Int} (h : l.length = 5) : (Iv .u64 [0, 0, 0, 0, 0]).size = (Iv .u64 l).size := by rw [Iv_size, Iv_size, h]; rfl
theorem wpList_put_fst {P : Program} {ops : Array Oper} {rest : List Oper} {op : Oper} {a : Act} {w : World} {Q : Exit → Act → World → Prop} (hgd : op.guard = none) (ty : TypeId) (x y : Operand) (ho : op.op = .store ty x y)
    (g : Nat) (k : IntKind) (v p q : List Int) (hx : a.eval x = .pointer (some ⟨g, 0, none⟩)) (hy : a.eval y = .agg (Iv k v)) (t : TypeId) (hg : w.heap[g]? = some (.cells (Iv k (p ++ q)) t))
    (hi : (P.info? ty).map (·.size) = some (v.map (Value.int k)).length) (hl : v.length = p.length) (h : ∀ W, Put w g (Iv k (v ++ q)) t W → wpList P ops Q rest (a.put op.dst undef) W) : wpList P ops Q (op :: rest) a w :=
  wpList_put_part hgd ty x y ho g 0 (v.map (Value.int k)) hx hy ((p ++ q).map (Value.int k)) t hg ((v ++ q).map (Value.int k)) hi (by simp; omega) (List.all_eq_true.2 fun z hz => by obtain ⟨i, _, rfl⟩ := List.mem_map.1 hz; rfl)
    (by rw [List.take_zero, List.nil_append, Nat.zero_add, List.length_map, ← List.map_drop, hl, List.drop_left, ← List.map_append]) h
theorem wpList_put_snd {P : Program} {ops : Array Oper} {rest : List Oper} {op : Oper} {a : Act} {w : World} {Q : Exit → Act → World → Prop} (hgd : op.guard = none) (ty : TypeId) (x y : Operand) (ho : op.op = .store ty x y)
    (g n : Nat) (k : IntKind) (v p q : List Int) (hx : a.eval x = .pointer (some ⟨g, n, none⟩)) (hy : a.eval y = .agg (Iv k v)) (t : TypeId) (hg : w.heap[g]? = some (.cells (Iv k (p ++ q)) t))
    (hi : (P.info? ty).map (·.size) = some (v.map (Value.int k)).length) (hn : p.length = n) (hl : v.length = q.length) (h : ∀ W, Put w g (Iv k (p ++ v)) t W → wpList P ops Q rest (a.put op.dst undef) W) : wpList P ops Q (op :: rest) a w :=
  wpList_put_part hgd ty x y ho g n (v.map (Value.int k)) hx hy ((p ++ q).map (Value.int k)) t hg ((p ++ v).map (Value.int k)) hi (by simp; omega) (List.all_eq_true.2 fun z hz => by obtain ⟨i, _, rfl⟩ := List.mem_map.1 hz; rfl)
    (by rw [List.length_map, ← List.map_take, ← List.map_drop, ← hn, List.take_left, hl, ← List.length_append, List.drop_length, List.map_nil, List.append_nil, ← List.map_append]) h
theorem infoElm {l : List Int} (h : l.length = 5) : (Try.prog.info? 45).map (·.size) = some (l.map (Value.int .u64)).length := by rw [List.length_map, h]; exact infoEl
end Go.Proofs.Ytikicljlgfgfbaa
