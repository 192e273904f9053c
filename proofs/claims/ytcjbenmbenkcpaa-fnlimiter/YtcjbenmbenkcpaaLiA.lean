/- The limiter's buckets as cells. 'toBucket'. -/
import Derived.Test.YtcjbenmbenkcpaaGd
import Derived.Test.YtcjbenmbenkcpaaQMid
import Derived.Test.YtcjbenmbenkcpaaToA9
import Derived.Test.YtcjbenmbenkcpaaPutC
import Derived.Test.YtcjbenmbenkcpaaRn
namespace Go.Proofs.Ytcjbenmbenkcpaa
open Go.RowKit
set_option linter.unusedVariables false
/-- A bucket. -/
structure Bk where
  key : List Int
  tok : Int
  last : Int
  len : key.length = 9
  byt : ∀ x ∈ key, 0 ≤ x ∧ x < 256
def bkL (b : Bk) : List Value := b.key.map (Value.int .u8) ++ [.int .i64 b.tok, .int .i64 b.last]
theorem bkL_length (b : Bk) : (bkL b).length = 11 := by simp [bkL, b.len]
theorem bkL_one (b : Bk) : (bkL b).all (·.oneCell') = true := by simp [bkL, Value.oneCell']
theorem bkL_size (b : Bk) : (bkL b).toArray.size = 11 := by simp [bkL_length]
/-- A bucket with its place. -/
structure Pl where
  b : Bk
  pos : Int
def plL (p : Pl) : List Value := bkL p.b ++ [.int .i64 p.pos]
theorem plL_length (p : Pl) : (plL p).length = 12 := by simp [plL, bkL_length]
theorem plL_one (p : Pl) : ∀ v ∈ plL p, v.oneCell' = true := by
  intro v hv
  simp only [plL, List.mem_append, List.mem_singleton] at hv
  rcases hv with hv | rfl
  · exact List.all_eq_true.1 (bkL_one p.b) v hv
  · rfl
def zKey : List Int := [0, 0, 0, 0, 0, 0, 0, 0, 0]
def zBk : Bk := ⟨zKey, 0, 0, rfl, by decide⟩
def zPl : Pl := ⟨zBk, 0⟩
instance : Inhabited Bk := ⟨zBk⟩
instance : Inhabited Pl := ⟨zPl⟩
theorem bk_open (b : Bk) : ∃ k0 k1 k2 k3 k4 k5 k6 k7 k8, b.key = [k0, k1, k2, k3, k4, k5, k6, k7, k8] := by
  obtain ⟨k, t, l, h, _⟩ := b
  match k, h with
  | [k0, k1, k2, k3, k4, k5, k6, k7, k8], _ => exact ⟨_, _, _, _, _, _, _, _, _, rfl⟩
theorem infoB : (Try.prog.info? 37).map (·.size) = some 11 := by kernel_rfl
theorem infoB2 : (Try.prog.info? 74).map (·.size) = some 11 := by kernel_rfl
theorem infoP : (Try.prog.info? 66).map (·.size) = some 12 := by kernel_rfl
/-- A value of one cell written into a row. -/
theorem wpList_put_val {P : Program} {ops : Array Oper} {rest : List Oper} {op : Oper} {a : Act} {w : World} {Q : Exit → Act → World → Prop} (hgd : op.guard = none) (ty : TypeId) (x y : Operand) (ho : op.op = .store ty x y)
    (g i : Nat) (v : Value) (hx : a.eval x = .pointer (some ⟨g, i, none⟩)) (hy : a.eval y = v) (l : List Value) (t : TypeId) (hg : w.heap[g]? = some (.cells l.toArray t))
    (hs : (P.info? ty).map (·.size) = some 1) (hi : i < l.length) (h2 : v.oneCell' = true) (new : List Value) (hnew : l.set i v = new)
    (h : ∀ W, Put w g new.toArray t W → wpList P ops Q rest (a.put op.dst undef) W) : wpList P ops Q (op :: rest) a w := by
  subst hnew
  have hP := put_one hg i v
  have e0 : l.toArray.setIfInBounds i v = (l.set i v).toArray := by simp
  rw [e0] at hP
  have h2' := h _ hP
  have ht : w.there g i (#[v] : Array Value).size := by
    intro j hj
    simp only [List.size_toArray, List.length_cons, List.length_nil] at hj
    obtain rfl : j = 0 := by omega
    refine ⟨?_, frozen_of_row w g _ _ t hg⟩
    rw [cell_of_row _ _ _ _ _ _ hg, Nat.add_zero]
    simp [hi]
  have e : (storeVar ty ⟨g, i, none⟩ v).run P w = .ok () (w.setCell ⟨g, i, none⟩ v) := by
    cases v <;> first
      | (simp [Value.oneCell'] at h2; done)
      | exact run_storeVar_mid w g i ty #[_] ht hs (by simp [Value.oneCell'])
  refine wpList_plain hgd fun K hK => ?_
  unfold Oper.wp execOp
  simp only [ho, hx, hy, Instr.storeAt, Instr.sureAddr, Sem.run_bind, Sem.run_pure, Result.andThen_ok, e]
  exact hK _ _ h2'
theorem bkz : (bkL zBk).toArray = #[.int .u8 0, .int .u8 0, .int .u8 0, .int .u8 0, .int .u8 0, .int .u8 0, .int .u8 0, .int .u8 0, .int .u8 0, .int .i64 0, .int .i64 0] := rfl
theorem rn3 (w : World) (a b c : Array Value) (s t u : TypeId) : ∃ n1 n2 W, ((w.alloc (.cells a s)).alloc (.cells b t)).alloc (.cells c u) = W ∧ w.heap.size + 1 = n1 ∧ w.heap.size + 1 + 1 = n2 ∧ Hid (Rn w [(n2, c, u), (n1, b, t), (w.heap.size, a, s)] W) :=
  ⟨_, _, _, rfl, rfl, rfl, (((Rn.start w).alloc a s).alloc' _ (by simp) b t).alloc' _ (by simp) c u⟩
set_option maxRecDepth 10000 in
set_option maxHeartbeats 2000000 in
theorem toBucket_any (b : Bk) (w : World) :
    Calls Try.prog 31 #[.agg (bkL b).toArray] w fun e w' => e = .returned (.agg (bkL b).toArray) ∧ Below w.heap.size w w' := by
  obtain ⟨k0, k1, k2, k3, k4, k5, k6, k7, k8, hk⟩ := bk_open b
  have e : (bkL b).toArray = #[.int .u8 k0, .int .u8 k1, .int .u8 k2, .int .u8 k3, .int .u8 k4, .int .u8 k5, .int .u8 k6, .int .u8 k7, .int .u8 k8, .int .i64 b.tok, .int .i64 b.last] := by simp [bkL, hk]
  rw [e]
  generalize b.tok = t, b.last = l
  clear e hk
  go_enter Try.func31, Try.ntmps31
  go_wp2_with fail
  obtain ⟨n1, n2, W, hW, h1, h2, F⟩ := rn3 w #[.int .u8 k0, .int .u8 k1, .int .u8 k2, .int .u8 k3, .int .u8 k4, .int .u8 k5, .int .u8 k6, .int .u8 k7, .int .u8 k8, .int .i64 t, .int .i64 l] (bkL zBk).toArray (bkL zBk).toArray 74 37 37
  rw [bkz] at hW
  rw [hW, h2, h1]
  clear hW h1 h2
  refine (toByteA9_any [k0, k1, k2, k3, k4, k5, k6, k7, k8] rfl W).mono ?_
  rintro e w1 ⟨rfl, hb1⟩
  have F1 := F.out.later hb1 (Nat.le_refl _)
  have F1 : Hid _ := F1
  clear hb1 F
  go_wp2_with (refine wpList_put_part rfl 33 _ _ rfl n2 0 ([k0, k1, k2, k3, k4, k5, k6, k7, k8].map (Value.int .u8)) rfl rfl (bkL zBk) 37 (F1.out.at (by simp)) ([k0, k1, k2, k3, k4, k5, k6, k7, k8].map (Value.int .u8) ++ [.int .i64 0, .int .i64 0]) infoA9 (by simp [bkL_length]) rfl rfl ?_)
  intro w2 hP2
  have F2 : Hid _ := F1.out.put hP2
  clear F1 hP2
  have c9 : w2.cell? ⟨w.heap.size, 9, none⟩ = some (.int .i64 t) := cell_of_row _ _ _ _ _ _ (F2.out.at (.tail _ (.tail _ (.head _))))
  have c10 : Hid (w2.cell? ⟨w.heap.size, 10, none⟩ = some (.int .i64 l)) := cell_of_row _ _ _ _ _ _ (F2.out.at (.tail _ (.tail _ (.head _))))
  go_wp2_with (refine wpList_put_val rfl 3 _ _ rfl n2 9 (.int .i64 t) rfl rfl ([k0, k1, k2, k3, k4, k5, k6, k7, k8].map (Value.int .u8) ++ [.int .i64 0, .int .i64 0]) 37 (F2.out.at (.head _)) (by kernel_rfl) (by simp) rfl ([k0, k1, k2, k3, k4, k5, k6, k7, k8].map (Value.int .u8) ++ [.int .i64 t, .int .i64 0]) rfl ?_)
  intro w3 hP3
  have F3 : Hid _ := F2.out.put hP3
  clear F2 hP3 c9 c10
  have c10 : w3.cell? ⟨w.heap.size, 10, none⟩ = some (.int .i64 l) := cell_of_row _ _ _ _ _ _ (F3.out.at (.tail _ (.tail _ (.head _))))
  go_wp2_with (refine wpList_put_val rfl 3 _ _ rfl n2 10 (.int .i64 l) rfl rfl ([k0, k1, k2, k3, k4, k5, k6, k7, k8].map (Value.int .u8) ++ [.int .i64 t, .int .i64 0]) 37 (F3.out.at (.head _)) (by kernel_rfl) (by simp) rfl ([k0, k1, k2, k3, k4, k5, k6, k7, k8].map (Value.int .u8) ++ [.int .i64 t, .int .i64 l]) rfl ?_)
  intro w4 hP4
  have F4 : Hid _ := F3.out.put hP4
  clear F3 hP4 c10
  go_wp2_with (first
    | refine wpList_load_row rfl 37 _ rfl _ rfl _ _ _ _ (F4.out.at (.head _)) Try.underlying37 rfl infoB ?_
    | refine wpList_put_row rfl 37 _ _ rfl n1 _ rfl rfl _ _ (F4.out.at (.tail _ (.head _))) infoB rfl (by simp [Value.oneCell']) ?_)
  intro w5 hP5
  have F5 : Hid _ := (F4.out.sub (List.sublist_cons_self _ _)).put hP5
  clear F4 hP5
  go_wp2_with fail
  exact bodyPost_ret (v := .agg #[.int .u8 k0, .int .u8 k1, .int .u8 k2, .int .u8 k3, .int .u8 k4, .int .u8 k5, .int .u8 k6, .int .u8 k7, .int .u8 k8, .int .i64 t, .int .i64 l]) (results_cell_row rfl _ _ _ _ #[.int .u8 k0, .int .u8 k1, .int .u8 k2, .int .u8 k3, .int .u8 k4, .int .u8 k5, .int .u8 k6, .int .u8 k7, .int .u8 k8, .int .i64 t, .int .i64 l] _ _ rfl (F5.out.at (.head _)) Try.underlying37 rfl infoB) rfl ⟨rfl, F5.out.bel⟩
end Go.Proofs.Ytcjbenmbenkcpaa
