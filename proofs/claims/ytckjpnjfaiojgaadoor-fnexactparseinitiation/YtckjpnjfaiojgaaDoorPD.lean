/- The worlds in which 'cutInto' fills a struct. -/
import Derived.Test.YtckjpnjfaiojgaaDoorPC
import Derived.Test.YtckjpnjfaiojgaaDoorCut
namespace Go.Proofs.YtckjpnjfaiojgaaDoor
open Go.RowKit
set_option linter.unusedVariables false
def zero4b : List Int := [0, 0, 0, 0]
theorem put_cell {w : World} {g : Nat} {cs : Array Value} {t : TypeId} (h : w.heap[g]? = some (.cells cs t)) (o : Nat) (v : Value) : Put w g (cs.setIfInBounds o v) t (w.setCell ⟨g, o, none⟩ v) := by
  have h1 := setCells_row [v] w g o cs t (0, 0) h
  have e : w.setCell ⟨g, o, none⟩ v = w.setRow g (cs.setIfInBounds o v) := h1
  rw [e]
  exact put_setRow h _
theorem WL_set (r r' : Int) (y : List Int) : (WL r y).toArray.setIfInBounds 0 (.int .u32 r') = (WL r' y).toArray := by simp [WL]
theorem cut_rec (z : List Int) : (zero4b.map (Value.int .u8)).take 0 ++ ((partZ (z.drop 4) 0 4).map (Value.int .u8) ++ (zero4b.map (Value.int .u8)).drop (0 + 4)) = (partZ z 4 4).map (Value.int .u8) := by
  simp [zero4b, partZ]
theorem cut_field (z : List Int) (N off n s : Nat) (hz : z.length = N + 8) (h : off + n ≤ N) (hs : s = 4 + off) :
    (WL 0 (fillZ (z.drop 8) N off)).take (off + 1) ++ ((partZ (z.drop 4) s n).map (Value.int .u8) ++ (WL 0 (fillZ (z.drop 8) N off)).drop (off + 1 + n)) = WL 0 (fillZ (z.drop 8) N (off + n)) := by
  have hy : (z.drop 8).length = N := by simp; omega
  have e : partZ (z.drop 4) s n = partZ (z.drop 8) off n := by
    unfold partZ
    rw [List.drop_drop, List.drop_drop, hs]
    congr 2
    omega
  have hl := partZ_length (z.drop 8) off n N hy h
  have := WL_putPart 0 (z.drop 8) N off n hy h
  rw [List.length_map, hl] at this
  rw [e, ← List.append_assoc]
  exact this
structure CutW (w0 : World) (B g gr gs gp : Nat) (z : List Int) (N : Nat) (tz t4 ty tp : TypeId) (pv : Array Value) (rc : List Int) (o : Nat) (W : World) : Prop where
  par : W.heap[gp]? = some (.cells pv tp)
  src : W.heap[g]? = some (.cells (Iv .u8 z) tz)
  res : W.heap[B]? = some (.cells (WL 0 (zeroL N)).toArray ty)
  rcv : W.heap[gr]? = some (.cells (rc.map (Value.int .u8)).toArray t4)
  str : W.heap[gs]? = some (.cells (WL 0 (fillZ (z.drop 8) N o)).toArray ty)
  bel : Below B w0 W
theorem CutW.putRec {w0 : World} {B g gr gs gp : Nat} {z : List Int} {N : Nat} {tz t4 ty tp : TypeId} {pv : Array Value} {rc rc' : List Int} {o : Nat} {W W' : World}
    (h : CutW w0 B g gr gs gp z N tz t4 ty tp pv rc o W) (hP : Put W gr (rc'.map (Value.int .u8)).toArray t4 W') (h1 : g < B) (h2 : B < gs) (h3 : gs < gr) (h4 : gr < gp) : CutW w0 B g gr gs gp z N tz t4 ty tp pv rc' o W' :=
  ⟨(hP.far _ (by omega)).trans h.par, (hP.far _ (by omega)).trans h.src, (hP.far _ (by omega)).trans h.res, hP.here, (hP.far _ (by omega)).trans h.str, hP.below _ _ h.bel (by omega)⟩
theorem CutW.putStr {w0 : World} {B g gr gs gp : Nat} {z : List Int} {N : Nat} {tz t4 ty tp : TypeId} {pv : Array Value} {rc : List Int} {o o' : Nat} {W W' : World}
    (h : CutW w0 B g gr gs gp z N tz t4 ty tp pv rc o W) (hP : Put W gs (WL 0 (fillZ (z.drop 8) N o')).toArray ty W') (h1 : g < B) (h2 : B < gs) (h3 : gs < gr) (h4 : gr < gp) : CutW w0 B g gr gs gp z N tz t4 ty tp pv rc o' W' :=
  ⟨(hP.far _ (by omega)).trans h.par, (hP.far _ (by omega)).trans h.src, (hP.far _ (by omega)).trans h.res, (hP.far _ (by omega)).trans h.rcv, hP.here, hP.below _ _ h.bel (by omega)⟩
theorem fill_step (r : Int) (y : List Int) (N m : Nat) (hy : y.length = N) (hm : m < N) : (WL r (fillZ y N m)).toArray.setIfInBounds (m + 1) (.int .u8 (y.getD m 0)) = (WL r (fillZ y N (m + 1))).toArray := by
  have e : (fillZ y N m).set m (y.getD m 0) = fillZ y N (m + 1) := by
    unfold fillZ
    have ht : (y.take m).length = m := by simp; omega
    rw [List.set_append_right _ _ (by omega), ht, Nat.sub_self, show N - m = (N - (m + 1)) + 1 by omega, List.replicate_succ, List.set_cons_zero, List.take_succ_eq_append_getElem (show m < y.length by omega), List.append_assoc]
    congr 1
    simp [hy, hm]
  simp only [WL, List.setIfInBounds_toArray, List.set_cons_succ]
  rw [← e, List.map_set]
/-- The worlds in which the model fills a struct. -/
structure CutV (w0 : World) (B g : Nat) (z : List Int) (N : Nat) (tz ty : TypeId) (r : Int) (o : Nat) (W : World) : Prop where
  src : W.heap[g]? = some (.cells (Iv .u8 z) tz)
  res : W.heap[B]? = some (.cells (WL 0 (zeroL N)).toArray ty)
  str : W.heap[B + 1]? = some (.cells (WL r (fillZ (z.drop 8) N o)).toArray ty)
  bel : Below B w0 W
theorem CutV.put {w0 : World} {B g : Nat} {z : List Int} {N : Nat} {tz ty : TypeId} {r r' : Int} {o o' : Nat} {W W' : World}
    (h : CutV w0 B g z N tz ty r o W) (hP : Put W (B + 1) (WL r' (fillZ (z.drop 8) N o')).toArray ty W') (h1 : g < B) : CutV w0 B g z N tz ty r' o' W' :=
  ⟨(hP.far _ (by omega)).trans h.src, (hP.far _ (by omega)).trans h.res, hP.here, hP.below _ _ h.bel (by omega)⟩
theorem CutV.later {w0 : World} {B g : Nat} {z : List Int} {N : Nat} {tz ty : TypeId} {r : Int} {o : Nat} {W W' : World}
    (h : CutV w0 B g z N tz ty r o W) (hb : Below W.heap.size W W') (h1 : g < B) : CutV w0 B g z N tz ty r o W' :=
  have hl : B + 1 < W.heap.size := (Array.getElem?_eq_some_iff.1 h.str).1
  ⟨(hb.block _ (by omega)).trans h.src, (hb.block _ (by omega)).trans h.res, (hb.block _ hl).trans h.str, h.bel.trans (hb.mono (by omega))⟩
theorem CutV.word {w0 : World} {B g : Nat} {z : List Int} {N : Nat} {tz ty : TypeId} {r : Int} {o : Nat} {W : World}
    (h : CutV w0 B g z N tz ty r o W) (r' : Int) (h1 : g < B) : CutV w0 B g z N tz ty r' o (W.setCell ⟨B + 1, 0, none⟩ (.int .u32 r')) := by
  have hP := put_cell h.str 0 (.int .u32 r')
  rw [WL_set] at hP
  exact h.put hP h1
theorem CutV.byte {w0 : World} {B g : Nat} {z : List Int} {N : Nat} {tz ty : TypeId} {r : Int} {o : Nat} {W : World}
    (h : CutV w0 B g z N tz ty r o W) (hz : z.length = N + 8) (ho : o < N) (h1 : g < B) : CutV w0 B g z N tz ty r (o + 1) (W.setCell ⟨B + 1, o + 1, none⟩ (.int .u8 (z.getD (8 + o) 0))) := by
  have hP := put_cell h.str (o + 1) (.int .u8 (z.getD (8 + o) 0))
  have e := fill_step r (z.drop 8) N o (by simp; omega) ho
  rw [show (z.drop 8).getD o 0 = z.getD (8 + o) 0 by simp [List.getD_eq_getElem?_getD]] at e
  rw [e] at hP
  exact h.put hP h1
theorem CutV.cell {w0 : World} {B g : Nat} {z : List Int} {N : Nat} {tz ty : TypeId} {r : Int} {o : Nat} {W : World}
    (h : CutV w0 B g z N tz ty r o W) (hz : z.length = N + 8) (ho : o ≤ N) (i : Nat) (hi : i < N) : ∃ v, W.cell? ⟨B + 1, i + 1, none⟩ = some (.int .u8 v) := by
  rw [cell_of_row _ _ _ _ _ _ h.str, WL_byte _ _ i (by rw [fillZ_length _ N o (by simp; omega) ho]; exact hi)]
  exact ⟨_, rfl⟩
theorem part_drop (z : List Int) (o n : Nat) : partZ z (o + 8) n = partZ (z.drop 8) o n := by
  unfold partZ
  rw [List.drop_drop, Nat.add_comm]
theorem field_put (r : Int) (z : List Int) (N o n : Nat) (hz : z.length = N + 8) (h : o + n ≤ N) :
    (WL r (fillZ (z.drop 8) N o)).take (o + 1) ++ (partZ z (o + 8) n).map (Value.int .u8) ++ (WL r (fillZ (z.drop 8) N o)).drop (o + 1 + ((partZ z (o + 8) n).map (Value.int .u8)).length) = WL r (fillZ (z.drop 8) N (o + n)) := by
  rw [part_drop]
  exact WL_putPart r (z.drop 8) N o n (by simp; omega) h
theorem drop_getD (z : List Int) (k m : Nat) : (z.drop m).getD k 0 = z.getD (m + k) 0 := by simp [List.getD_eq_getElem?_getD]
end Go.Proofs.YtckjpnjfaiojgaaDoor
