/- Observations as cells; what a report's text is. 'toObs'. -/
import Derived.Test.YteagkgklnabgoaaDoorGd
import Derived.Test.YteagkgklnabgoaaDoorQMid
import Derived.Test.YteagkgklnabgoaaDoorPutC
import Derived.Test.YteagkgklnabgoaaDoorRn
import Derived.Test.YteagkgklnabgoaaDoorSrc
import Derived.Test.YteagkgklnabgoaaDoorToS
import Derived.Test.YteagkgklnabgoaaDoorToA32
import Derived.Test.YteagkgklnabgoaaDoorON
import Derived.Deep.Cut
import Derived.Deep.WholeRow
namespace Go.Proofs.YteagkgklnabgoaaDoor
open Go.RowKit
set_option linter.unusedVariables false
/-- An observation. -/
structure Ob where
  v : Int
  d : Int
  ld : Bool
  v6 : Bool
  ad : List Int
  po : Int
  out : List Int
  cl : Int
  ch : List Int
  hs : List Int
  hv : -9223372036854775808 ≤ v ∧ v ≤ 9223372036854775807
  hd : -9223372036854775808 ≤ d ∧ d ≤ 9223372036854775807
  hcl : -9223372036854775808 ≤ cl ∧ cl ≤ 9223372036854775807
  hpo : 0 ≤ po ∧ po ≤ 65535
  adl : ad.length = 16
  chl : ch.length = 32
  hsl : hs.length = 32
  adb : Bytes ad
  outb : Bytes out
  chb : Bytes ch
  hsb : Bytes hs
  hol : out.length ≤ 9223372036854775807
def obC (v d : Int) (ld v6 : Bool) (ad : List Int) (po : Int) (sl : Value) (cl : Int) (ch hs : List Int) : List Value :=
  [.int .i64 v, .int .i64 d, .bool ld] ++ (SrcL v6 ad po ++ (sl :: .int .i64 cl :: (ch.map (Value.int .u8) ++ hs.map (Value.int .u8))))
theorem obC_length (v d : Int) (ld v6 : Bool) (ad : List Int) (po : Int) (sl : Value) (cl : Int) (ch hs : List Int) (ha : ad.length = 16) (hc : ch.length = 32) (hh : hs.length = 32) : (obC v d ld v6 ad po sl cl ch hs).length = 87 := by simp [obC, SrcL, ha, hc, hh]
theorem obC_one (v d : Int) (ld v6 : Bool) (ad : List Int) (po : Int) (sl : Value) (cl : Int) (ch hs : List Int) (h : sl.oneCell' = true) : (obC v d ld v6 ad po sl cl ch hs).all (·.oneCell') = true := by
  simp only [obC, SrcL, List.all_append, List.all_cons, List.all_nil, List.all_map, h]
  simp [Value.oneCell']
theorem obC_src (v d : Int) (ld v6 : Bool) (ad : List Int) (po : Int) (sl : Value) (cl : Int) (ch hs : List Int) (ha : ad.length = 16) : ((obC v d ld v6 ad po sl cl ch hs).drop 3).take 18 = SrcL v6 ad po := by
  show (SrcL v6 ad po ++ _).take 18 = _
  rw [← SrcL_length v6 ad po ha]; exact List.take_left
theorem obC_tail (v d : Int) (ld v6 : Bool) (ad : List Int) (po : Int) (sl : Value) (cl : Int) (ch hs : List Int) (ha : ad.length = 16) (k : Nat) : (obC v d ld v6 ad po sl cl ch hs).drop (21 + k) = (sl :: .int .i64 cl :: (ch.map (Value.int .u8) ++ hs.map (Value.int .u8))).drop k := by
  have e : 21 + k = (([.int .i64 v, .int .i64 d, .bool ld] : List Value) ++ SrcL v6 ad po).length + k := by simp [SrcL_length v6 ad po ha]
  unfold obC
  rw [← List.append_assoc, e, ← List.drop_drop, List.drop_left]
theorem obC_ch (v d : Int) (ld v6 : Bool) (ad : List Int) (po : Int) (sl : Value) (cl : Int) (ch hs : List Int) (ha : ad.length = 16) (hc : ch.length = 32) : ((obC v d ld v6 ad po sl cl ch hs).drop 23).take 32 = ch.map (Value.int .u8) := by
  rw [show 23 = 21 + 2 from rfl, obC_tail _ _ _ _ _ _ _ _ _ _ ha]
  show (ch.map (Value.int .u8) ++ _).take 32 = _
  rw [show 32 = (ch.map (Value.int .u8)).length by rw [List.length_map, hc]]; exact List.take_left
theorem obC_hs (v d : Int) (ld v6 : Bool) (ad : List Int) (po : Int) (sl : Value) (cl : Int) (ch hs : List Int) (ha : ad.length = 16) (hc : ch.length = 32) (hh : hs.length = 32) : ((obC v d ld v6 ad po sl cl ch hs).drop 55).take 32 = hs.map (Value.int .u8) := by
  rw [show 55 = 21 + (2 + 32) from rfl, obC_tail _ _ _ _ _ _ _ _ _ _ ha]
  show ((ch.map (Value.int .u8) ++ hs.map (Value.int .u8)).drop 32).take 32 = _
  have e : (ch.map (Value.int .u8) ++ hs.map (Value.int .u8)).drop (ch.map (Value.int .u8)).length = hs.map (Value.int .u8) := List.drop_left
  rw [List.length_map, hc] at e
  rw [e]
  exact List.take_of_length_le (by rw [List.length_map, hh]; exact Nat.le_refl _)
theorem obC_sl (v d : Int) (ld v6 : Bool) (ad : List Int) (po : Int) (sl : Value) (cl : Int) (ch hs : List Int) (ha : ad.length = 16) : (obC v d ld v6 ad po sl cl ch hs).toArray[21]? = some sl := by
  have h := obC_tail v d ld v6 ad po sl cl ch hs ha 0
  have h2 := congrArg (fun l => l[0]?) h
  simpa using h2
theorem obC_cl (v d : Int) (ld v6 : Bool) (ad : List Int) (po : Int) (sl : Value) (cl : Int) (ch hs : List Int) (ha : ad.length = 16) : (obC v d ld v6 ad po sl cl ch hs).toArray[22]? = some (.int .i64 cl) := by
  have h := obC_tail v d ld v6 ad po sl cl ch hs ha 1
  have h2 := congrArg (fun l => l[0]?) h
  simpa using h2
def z16 : List Int := List.replicate 16 0
def z32 : List Int := List.replicate 32 0
theorem z16l : z16.length = 16 := List.length_replicate
theorem z32l : z32.length = 32 := List.length_replicate
def zOb : Ob := ⟨0, 0, false, false, z16, 0, [], 0, z32, z32, by decide, by decide, by decide, by decide, z16l, z32l, z32l, bytes_zero _, fun i => by simp, bytes_zero _, bytes_zero _, by decide⟩
instance : Inhabited Ob := ⟨zOb⟩
/-- An observation whose output lies somewhere. -/
def obL (o : Ob) (a : Option Addr) (c : Nat) : List Value := obC o.v o.d o.ld o.v6 o.ad o.po (.slice a o.out.length c) o.cl o.ch o.hs
theorem obL_length (o : Ob) (a : Option Addr) (c : Nat) : (obL o a c).length = 87 := obC_length _ _ _ _ _ _ _ _ _ _ o.adl o.chl o.hsl
theorem obL_one (o : Ob) (a : Option Addr) (c : Nat) : (obL o a c).all (·.oneCell') = true := obC_one _ _ _ _ _ _ _ _ _ _ rfl
def fO (x : Ob × Nat) : List Value := obL x.1 (some ⟨x.2, 0, none⟩) x.1.out.length
theorem infoO : (Tryd.prog.info? 45).map (·.size) = some 87 := by kernel_rfl
theorem infoO2 : (Tryd.prog.info? 57).map (·.size) = some 87 := by kernel_rfl
theorem zeroO : ∀ W, (zeroValue 45).run Tryd.prog W = .ok (.agg (obC 0 0 false false z16 0 (.slice none 0 0) 0 z32 z32).toArray) W := (zero_of_info (n := 87) (by kernel_rfl)).1
theorem put_mid {α : Type} (A p q C : List α) (i : Nat) (hA : A.length = i) (hp : p.length = q.length) : (A ++ (p ++ C)).take i ++ q ++ (A ++ (p ++ C)).drop (i + q.length) = A ++ (q ++ C) := by
  subst hA
  rw [List.take_left, ← hp, ← List.drop_drop, List.drop_left, List.drop_left, List.append_assoc]
theorem obC_split (v d : Int) (ld v6 : Bool) (ad : List Int) (po : Int) (sl : Value) (cl : Int) (ch hs : List Int) : obC v d ld v6 ad po sl cl ch hs = (([.int .i64 v, .int .i64 d, .bool ld] ++ SrcL v6 ad po) ++ [sl, .int .i64 cl]) ++ (ch.map (Value.int .u8) ++ hs.map (Value.int .u8)) := by simp [obC]
theorem obC_pre (v d : Int) (ld v6 : Bool) (ad : List Int) (po : Int) (ha : ad.length = 16) : (([.int .i64 v, .int .i64 d, .bool ld] : List Value) ++ SrcL v6 ad po).length = 21 := by simp [SrcL_length v6 ad po ha]
theorem obC_set21 (v d : Int) (ld v6 : Bool) (ad : List Int) (po : Int) (sl sl' : Value) (cl : Int) (ch hs : List Int) (ha : ad.length = 16) : (obC v d ld v6 ad po sl cl ch hs).set 21 sl' = obC v d ld v6 ad po sl' cl ch hs := by
  have e := obC_pre v d ld v6 ad po ha
  unfold obC
  rw [← List.append_assoc, List.set_append_right _ _ (by rw [e]; exact Nat.le_refl _), e, ← List.append_assoc]
  rfl
theorem obC_set22 (v d : Int) (ld v6 : Bool) (ad : List Int) (po : Int) (sl : Value) (cl cl' : Int) (ch hs : List Int) (ha : ad.length = 16) : (obC v d ld v6 ad po sl cl ch hs).set 22 (.int .i64 cl') = obC v d ld v6 ad po sl cl' ch hs := by
  have e := obC_pre v d ld v6 ad po ha
  unfold obC
  rw [← List.append_assoc, List.set_append_right _ _ (by rw [e]; decide), e, ← List.append_assoc]
  rfl
theorem obC_put23 (v d : Int) (ld v6 : Bool) (ad : List Int) (po : Int) (sl : Value) (cl : Int) (ch ch' hs : List Int) (ha : ad.length = 16) (hc : ch.length = 32) (hc' : ch'.length = 32) : (obC v d ld v6 ad po sl cl ch hs).take 23 ++ ch'.map (Value.int .u8) ++ (obC v d ld v6 ad po sl cl ch hs).drop (23 + (ch'.map (Value.int .u8)).length) = obC v d ld v6 ad po sl cl ch' hs := by
  rw [obC_split, obC_split]
  exact put_mid _ _ _ _ 23 (by rw [List.length_append, obC_pre _ _ _ _ _ _ ha]; rfl) (by rw [List.length_map, List.length_map, hc, hc'])
theorem obC_put55 (v d : Int) (ld v6 : Bool) (ad : List Int) (po : Int) (sl : Value) (cl : Int) (ch hs hs' : List Int) (ha : ad.length = 16) (hc : ch.length = 32) (hh : hs.length = 32) (hh' : hs'.length = 32) : (obC v d ld v6 ad po sl cl ch hs).take 55 ++ hs'.map (Value.int .u8) ++ (obC v d ld v6 ad po sl cl ch hs).drop (55 + (hs'.map (Value.int .u8)).length) = obC v d ld v6 ad po sl cl ch hs' := by
  rw [obC_split, obC_split, ← List.append_assoc, ← List.append_assoc]
  have h := put_mid (((([.int .i64 v, .int .i64 d, .bool ld] : List Value) ++ SrcL v6 ad po) ++ [sl, .int .i64 cl]) ++ ch.map (Value.int .u8)) (hs.map (Value.int .u8)) (hs'.map (Value.int .u8)) [] 55 (by rw [List.length_append, List.length_append, obC_pre _ _ _ _ _ _ ha, List.length_map, hc]; rfl) (by rw [List.length_map, List.length_map, hh, hh'])
  simpa only [List.append_nil] using h
/-- Bytes that can be read. -/
def RdB (w : World) (a : Option Addr) (l : List Int) : Prop := ∀ i, i < l.length → ∃ b o, a = some ⟨b, o, none⟩ ∧ b < w.heap.size ∧ w.cell? ⟨b, o + i, none⟩ = some (.int .u8 (l.getD i 0))
theorem RdB.later {w w' : World} {a : Option Addr} {l : List Int} {B : Nat} (h : RdB w a l) (hb : Below B w w') (hB : w.heap.size ≤ B) : RdB w' a l := fun i hi => by
  obtain ⟨b, o, e, hg, hr⟩ := h i hi
  exact ⟨b, o, e, Nat.lt_of_lt_of_le hg hb.size, (hb.cell (p := ⟨b, _, none⟩) (Nat.lt_of_lt_of_le hg hB)).trans hr⟩
theorem RdB.row {w : World} {g : Nat} {l : List Int} {t : TypeId} (h : w.heap[g]? = some (.cells (Iv .u8 l) t)) : RdB w (some ⟨g, 0, none⟩) l := fun i hi =>
  ⟨g, 0, rfl, (Array.getElem?_eq_some_iff.1 h).1, by rw [Nat.zero_add]; exact RowAt.cell h i hi⟩
theorem src_one (v : Bool) (l : List Int) (p : Int) : (SrcL v l p).all (·.oneCell') = true := by simp [SrcL, Value.oneCell']
theorem bytes_one (l : List Int) : (l.map (Value.int .u8)).all (·.oneCell') = true := by simp [Value.oneCell']
/-- A value of one cell written into a row. -/
theorem wpList_put_val {P : Program} {ops : Array Oper} {rest : List Oper} {op : Oper} {a : Act} {w : World} {Q : Exit → Act → World → Prop} (hgd : op.guard = none) (ty : TypeId) (x y : Operand) (ho : op.op = .store ty x y)
    (g i : Nat) (v : Value) (hx : a.eval x = .pointer (some ⟨g, i, none⟩)) (hy : a.eval y = v) (l : List Value) (t : TypeId) (hg : w.heap[g]? = some (.cells l.toArray t))
    (hs : (P.info? ty).map (·.size) = some 1) (hi : i < l.length) (h2 : v.oneCell' = true) (new : List Value) (hnew : l.set i v = new)
    (h : ∀ W, Put w g new.toArray t W → wpList P ops Q rest (a.put op.dst undef) W) : wpList P ops Q (op :: rest) a w := by
  subst hnew
  have hP := put_one hg i v
  have e0 : l.toArray.setIfInBounds i v = (l.set i v).toArray := by simp
  rw [e0] at hP
  have h2' := h _ hP
  have ht : w.there g i (#[v] : Array Value).size := by
    intro j hj
    simp only [List.size_toArray, List.length_cons, List.length_nil] at hj
    obtain rfl : j = 0 := by omega
    refine ⟨?_, frozen_of_row w g _ _ t hg⟩
    rw [cell_of_row _ _ _ _ _ _ hg, Nat.add_zero]
    simp [hi]
  have e : (storeVar ty ⟨g, i, none⟩ v).run P w = .ok () (w.setCell ⟨g, i, none⟩ v) := by
    cases v <;> first
      | (simp [Value.oneCell'] at h2; done)
      | exact run_storeVar_mid w g i ty #[_] ht hs (by simp [Value.oneCell'])
  refine wpList_plain hgd fun K hK => ?_
  unfold Oper.wp execOp
  simp only [ho, hx, hy, Instr.storeAt, Instr.sureAddr, Sem.run_bind, Sem.run_pure, Result.andThen_ok, e]
  exact hK _ _ h2'
theorem rn3 (w : World) (a b c : Array Value) (s t u : TypeId) : ∃ n1 n2 W, ((w.alloc (.cells a s)).alloc (.cells b t)).alloc (.cells c u) = W ∧ w.heap.size + 1 = n1 ∧ w.heap.size + 1 + 1 = n2 ∧ Hid (Rn w [(n2, c, u), (n1, b, t), (w.heap.size, a, s)] W) :=
  ⟨_, _, _, rfl, rfl, rfl, (((Rn.start w).alloc a s).alloc' _ (by simp) b t).alloc' _ (by simp) c u⟩
set_option maxRecDepth 10000 in
set_option maxHeartbeats 4000000 in
theorem toObs_raw (v d : Int) (ld v6 : Bool) (ad : List Int) (po : Int) (out : List Int) (cl : Int) (ch hs : List Int) (adl : ad.length = 16) (chl : ch.length = 32) (hsl : hs.length = 32) (hn : out.length ≤ 1048576) (a : Option Addr) (c : Nat) (w : World) (hr : RdB w a out) :
    Calls Tryd.prog 24 #[.agg (obC v d ld v6 ad po (.slice a out.length c) cl ch hs).toArray] w fun e w' => ∃ g, e = .returned (.agg (obC v d ld v6 ad po (.slice (some ⟨g, 0, none⟩) out.length out.length) cl ch hs).toArray) ∧ w.heap.size ≤ g ∧ w'.heap[g]? = some (.cells (Iv .u8 out) 5) ∧ Below w.heap.size w w' := by
  have hzv := zeroO
  have HR : Hid (RdB w a out) := hr
  have HA : Hid (ad.length = 16) := adl
  have HC : Hid (ch.length = 32) := chl
  have HH : Hid (hs.length = 32) := hsl
  clear hr adl chl hsl
  obtain ⟨L, hL⟩ : ∃ L, obC v d ld v6 ad po (.slice a out.length c) cl ch hs = L := ⟨_, rfl⟩
  have g0 : Hid (L.toArray[0]? = some (.int .i64 v)) := by subst hL; rfl
  have g1 : Hid (L.toArray[1]? = some (.int .i64 d)) := by subst hL; rfl
  have g2 : Hid (L.toArray[2]? = some (.bool ld)) := by subst hL; rfl
  have g3 : Hid ((L.drop 3).take 18 = SrcL v6 ad po) := by subst hL; exact obC_src _ _ _ _ _ _ _ _ _ _ HA.out
  have g21 : Hid (L.toArray[21]? = some (.slice a out.length c)) := by subst hL; exact obC_sl _ _ _ _ _ _ _ _ _ _ HA.out
  have g22 : Hid (L.toArray[22]? = some (.int .i64 cl)) := by subst hL; exact obC_cl _ _ _ _ _ _ _ _ _ _ HA.out
  have g23 : Hid ((L.drop 23).take 32 = ch.map (Value.int .u8)) := by subst hL; exact obC_ch _ _ _ _ _ _ _ _ _ _ HA.out HC.out
  have g55 : Hid ((L.drop 55).take 32 = hs.map (Value.int .u8)) := by subst hL; exact obC_hs _ _ _ _ _ _ _ _ _ _ HA.out HC.out HH.out
  have HE : Hid _ := hL
  rw [hL]
  clear hL
  go_enter Tryd.func24, Tryd.ntmps24
  go_upto_region 2 with fail
  obtain ⟨n1, n2, W, hW, h1, h2, F⟩ := rn3 w L.toArray (obC 0 0 false false z16 0 (.slice none 0 0) 0 z32 z32).toArray (obC 0 0 false false z16 0 (.slice none 0 0) 0 z32 z32).toArray 57 45 45
  rw [hW, h2, h1]
  clear hW h1 h2
  have ck : W.cell? ⟨w.heap.size, 0, none⟩ = some (.int .i64 v) := (cell_of_row _ _ _ _ _ _ (F.out.at (.tail _ (.tail _ (.head _))))).trans g0.out
  go_wp2_with (refine wpList_put_val rfl 3 _ _ rfl n2 0 (.int .i64 v) rfl rfl (obC 0 0 false false z16 0 (.slice none 0 0) 0 z32 z32) 45 (F.out.at (.head _)) (by kernel_rfl) (by rw [obC_length _ _ _ _ _ _ _ _ _ _ z16l z32l z32l]; decide) rfl (obC v 0 false false z16 0 (.slice none 0 0) 0 z32 z32) rfl ?_)
  intro w1 hP
  have F : Hid _ := F.out.put hP
  clear hP ck
  have ck : w1.cell? ⟨w.heap.size, 1, none⟩ = some (.int .i64 d) := (cell_of_row _ _ _ _ _ _ (F.out.at (.tail _ (.tail _ (.head _))))).trans g1.out
  go_wp2_with (refine wpList_put_val rfl 3 _ _ rfl n2 1 (.int .i64 d) rfl rfl (obC v 0 false false z16 0 (.slice none 0 0) 0 z32 z32) 45 (F.out.at (.head _)) (by kernel_rfl) (by rw [obC_length _ _ _ _ _ _ _ _ _ _ z16l z32l z32l]; decide) rfl (obC v d false false z16 0 (.slice none 0 0) 0 z32 z32) rfl ?_)
  intro w2 hP
  have F : Hid _ := F.out.put hP
  clear hP ck
  have ck : w2.cell? ⟨w.heap.size, 2, none⟩ = some (.bool ld) := (cell_of_row _ _ _ _ _ _ (F.out.at (.tail _ (.tail _ (.head _))))).trans g2.out
  go_wp2_with (refine wpList_put_val rfl 4 _ _ rfl n2 2 (.bool ld) rfl rfl (obC v d false false z16 0 (.slice none 0 0) 0 z32 z32) 45 (F.out.at (.head _)) (by kernel_rfl) (by rw [obC_length _ _ _ _ _ _ _ _ _ _ z16l z32l z32l]; decide) rfl (obC v d ld false z16 0 (.slice none 0 0) 0 z32 z32) rfl ?_)
  intro w3 hP
  have F : Hid _ := F.out.put hP
  clear hP ck
  have hi : Hid ((Tryd.prog.info? 55).map (·.size) = some (SrcL v6 ad po).length) := by show _ = _; rw [SrcL_length v6 ad po HA.out]; exact infoSrcL
  have hi2 : Hid ((Tryd.prog.info? 42).map (·.size) = some (SrcL v6 ad po).length) := by show _ = _; rw [SrcL_length v6 ad po HA.out]; exact infoSrc
  have X : Hid (w3.rangeAt w.heap.size 3 (SrcL v6 ad po)) := by show World.rangeAt _ _ _ _; rw [← g3.out]; exact range_row (F.out.at (.tail _ (.tail _ (.head _)))) 3 _
  go_wp2_with (refine wpList_load_mid rfl 55 _ rfl w.heap.size 3 rfl (SrcL v6 ad po) _ X.out Tryd.underlying55 rfl hi.out ?_)
  refine (toSource_any v6 ad po HA.out w3).mono ?_
  rintro e w4 ⟨rfl, hb1⟩
  have F : Hid _ := F.out.later hb1 (Nat.le_refl _)
  clear hb1 X
  go_wp2_with (refine wpList_put_part rfl 42 _ _ rfl n2 3 (SrcL v6 ad po) rfl rfl (obC v d ld false z16 0 (.slice none 0 0) 0 z32 z32) 45 (F.out.at (.head _)) (obC v d ld v6 ad po (.slice none 0 0) 0 z32 z32) hi2.out (by rw [SrcL_length v6 ad po HA.out, obC_length _ _ _ _ _ _ _ _ _ _ z16l z32l z32l]; decide) (src_one _ _ _) (put_mid [.int .i64 v, .int .i64 d, .bool ld] (SrcL false z16 0) (SrcL v6 ad po) _ 3 rfl (by rw [SrcL_length _ _ _ z16l, SrcL_length _ _ _ HA.out])) ?_)
  intro w5 hP
  have F : Hid _ := F.out.put hP
  clear hP hi hi2
  have ck : w5.cell? ⟨w.heap.size, 21, none⟩ = some (.slice a out.length c) := (cell_of_row _ _ _ _ _ _ (F.out.at (.tail _ (.tail _ (.head _))))).trans g21.out
  go_wp2_with fail
  refine (toByteS_any a out c w5 hn (HR.out.later F.out.bel (Nat.le_refl _))).mono ?_
  rintro e w6 ⟨rfl, hw⟩
  obtain ⟨g, hg⟩ : ∃ g, w5.heap.size = g := ⟨_, rfl⟩
  have F0 := F.out.alloc' g hg (Iv .u8 out) 5
  rw [← hw] at F0
  have F : Hid _ := F0
  clear F0
  rw [hg]
  clear hw hg ck
  go_wp2_with (refine wpList_put_val rfl 26 _ _ rfl n2 21 (.slice (some ⟨g, 0, none⟩) out.length out.length) rfl rfl (obC v d ld v6 ad po (.slice none 0 0) 0 z32 z32) 45 (F.out.at (.tail _ (.head _))) (by kernel_rfl) (by rw [obC_length _ _ _ _ _ _ _ _ _ _ HA.out z32l z32l]; decide) rfl (obC v d ld v6 ad po (.slice (some ⟨g, 0, none⟩) out.length out.length) 0 z32 z32) (obC_set21 _ _ _ _ _ _ _ _ _ _ _ HA.out) ?_)
  intro w7 hP
  have F : Hid _ := F.out.put1 hP
  clear hP
  have ck : w7.cell? ⟨w.heap.size, 22, none⟩ = some (.int .i64 cl) := (cell_of_row _ _ _ _ _ _ (F.out.at (.tail _ (.tail _ (.tail _ (.head _)))))).trans g22.out
  go_wp2_with (refine wpList_put_val rfl 3 _ _ rfl n2 22 (.int .i64 cl) rfl rfl (obC v d ld v6 ad po (.slice (some ⟨g, 0, none⟩) out.length out.length) 0 z32 z32) 45 (F.out.at (.tail _ (.head _))) (by kernel_rfl) (by rw [obC_length _ _ _ _ _ _ _ _ _ _ HA.out z32l z32l]; decide) rfl (obC v d ld v6 ad po (.slice (some ⟨g, 0, none⟩) out.length out.length) cl z32 z32) (obC_set22 _ _ _ _ _ _ _ _ _ _ _ HA.out) ?_)
  intro w8 hP
  have F : Hid _ := F.out.put1 hP
  clear hP ck
  have hi : Hid ((Tryd.prog.info? 43).map (·.size) = some (ch.map (Value.int .u8)).length) := by show _ = _; rw [List.length_map, HC.out]; exact infoA32
  have hi2 : Hid ((Tryd.prog.info? 43).map (·.size) = some (ch.map (Value.int .u8)).length) := by show _ = _; rw [List.length_map, HC.out]; exact infoA32
  have X : Hid (w8.rangeAt w.heap.size 23 (ch.map (Value.int .u8))) := by show World.rangeAt _ _ _ _; rw [← g23.out]; exact range_row (F.out.at (.tail _ (.tail _ (.tail _ (.head _))))) 23 _
  go_wp2_with (refine wpList_load_mid rfl 43 _ rfl w.heap.size 23 rfl (ch.map (Value.int .u8)) _ X.out Tryd.underlying43 rfl hi.out ?_)
  refine (toByteA32_any ch HC.out w8).mono ?_
  rintro e w9 ⟨rfl, hb1⟩
  have F : Hid _ := F.out.later hb1 (Nat.le_refl _)
  clear hb1 X
  go_wp2_with (refine wpList_put_part rfl 43 _ _ rfl n2 23 (ch.map (Value.int .u8)) rfl rfl (obC v d ld v6 ad po (.slice (some ⟨g, 0, none⟩) out.length out.length) cl z32 z32) 45 (F.out.at (.tail _ (.head _))) (obC v d ld v6 ad po (.slice (some ⟨g, 0, none⟩) out.length out.length) cl ch z32) hi2.out (by rw [List.length_map, HC.out, obC_length _ _ _ _ _ _ _ _ _ _ HA.out z32l z32l]; decide) (bytes_one _) (obC_put23 _ _ _ _ _ _ _ _ _ _ _ HA.out z32l HC.out) ?_)
  intro w10 hP
  have F : Hid _ := F.out.put1 hP
  clear hP hi hi2
  have hi : Hid ((Tryd.prog.info? 43).map (·.size) = some (hs.map (Value.int .u8)).length) := by show _ = _; rw [List.length_map, HH.out]; exact infoA32
  have hi2 : Hid ((Tryd.prog.info? 43).map (·.size) = some (hs.map (Value.int .u8)).length) := by show _ = _; rw [List.length_map, HH.out]; exact infoA32
  have X : Hid (w10.rangeAt w.heap.size 55 (hs.map (Value.int .u8))) := by show World.rangeAt _ _ _ _; rw [← g55.out]; exact range_row (F.out.at (.tail _ (.tail _ (.tail _ (.head _))))) 55 _
  go_wp2_with (refine wpList_load_mid rfl 43 _ rfl w.heap.size 55 rfl (hs.map (Value.int .u8)) _ X.out Tryd.underlying43 rfl hi.out ?_)
  refine (toByteA32_any hs HH.out w10).mono ?_
  rintro e w11 ⟨rfl, hb1⟩
  have F : Hid _ := F.out.later hb1 (Nat.le_refl _)
  clear hb1 X
  go_wp2_with (refine wpList_put_part rfl 43 _ _ rfl n2 55 (hs.map (Value.int .u8)) rfl rfl (obC v d ld v6 ad po (.slice (some ⟨g, 0, none⟩) out.length out.length) cl ch z32) 45 (F.out.at (.tail _ (.head _))) (obC v d ld v6 ad po (.slice (some ⟨g, 0, none⟩) out.length out.length) cl ch hs) hi2.out (by rw [List.length_map, HH.out, obC_length _ _ _ _ _ _ _ _ _ _ HA.out HC.out z32l]; decide) (bytes_one _) (obC_put55 _ _ _ _ _ _ _ _ _ _ _ HA.out HC.out z32l HH.out) ?_)
  intro w12 hP
  have F : Hid _ := F.out.put1 hP
  clear hP hi hi2
  have hsz : Hid ((obC v d ld v6 ad po (.slice (some ⟨g, 0, none⟩) out.length out.length) cl ch hs).toArray.size = 87) := by show _ = _; rw [List.size_toArray]; exact obC_length _ _ _ _ _ _ _ _ _ _ HA.out HC.out HH.out
  have hon : Hid ((obC v d ld v6 ad po (.slice (some ⟨g, 0, none⟩) out.length out.length) cl ch hs).toArray.all (·.oneCell') = true) := by show _ = _; rw [List.all_toArray]; exact obC_one _ _ _ _ _ _ _ _ _ _ rfl
  go_wp2_with (first
    | refine wpList_load_row rfl 45 _ rfl n2 rfl _ (obC v d ld v6 ad po (.slice (some ⟨g, 0, none⟩) out.length out.length) cl ch hs).toArray _ _ (F.out.at (.tail _ (.head _))) Tryd.underlying45 rfl (by rw [hsz.out]; exact infoO) ?_
    | refine wpList_put_row rfl 45 _ _ rfl n1 (obC v d ld v6 ad po (.slice (some ⟨g, 0, none⟩) out.length out.length) cl ch hs).toArray rfl rfl _ _ (F.out.at (.tail _ (.tail _ (.head _)))) (by rw [hsz.out]; exact infoO) (by rw [hsz.out, List.size_toArray]; exact obC_length _ _ _ _ _ _ _ _ _ _ z16l z32l z32l) hon.out ?_)
  intro W3 hP
  have F : Hid _ := F.out.put2 hP
  clear hP
  go_wp2_with fail
  exact bodyPost_ret (v := .agg (obC v d ld v6 ad po (.slice (some ⟨g, 0, none⟩) out.length out.length) cl ch hs).toArray) (results_cell_row rfl _ _ _ _ (obC v d ld v6 ad po (.slice (some ⟨g, 0, none⟩) out.length out.length) cl ch hs).toArray _ _ rfl (F.out.at (.tail _ (.tail _ (.head _)))) Tryd.underlying45 rfl (by rw [hsz.out]; exact infoO)) rfl ⟨g, rfl, (F.out.rw.row _ (.head _)).1, F.out.at (.head _), F.out.bel⟩
theorem toObs_any (o : Ob) (hn : o.out.length ≤ 1048576) (a : Option Addr) (c : Nat) (w : World) (hr : RdB w a o.out) :
    Calls Tryd.prog 24 #[.agg (obL o a c).toArray] w fun e w' => ∃ g, e = .returned (.agg (fO (o, g)).toArray) ∧ w.heap.size ≤ g ∧ w'.heap[g]? = some (.cells (Iv .u8 o.out) 5) ∧ Below w.heap.size w w' := toObs_raw _ _ _ _ _ _ _ _ _ _ o.adl o.chl o.hsl hn a c w hr
end Go.Proofs.YteagkgklnabgoaaDoor
