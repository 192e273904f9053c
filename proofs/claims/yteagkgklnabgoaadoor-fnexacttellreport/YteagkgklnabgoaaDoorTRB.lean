/- Slices of observations; 'toObsS', 'toReport', 'szReport'. -/
import Derived.Test.YteagkgklnabgoaaDoorTRA
import Derived.Laws.MakeOwn
namespace Go.Proofs.YteagkgklnabgoaaDoor
open Go.RowKit
set_option linter.unusedVariables false
theorem fO_length (x : Ob × Nat) : (fO x).length = 87 := obL_length _ _ _
theorem fO_one (x : Ob × Nat) : (fO x).all (·.oneCell') = true := obL_one _ _ _
def flatO (bs : List (Ob × Nat)) : List Value := bs.flatMap fO
theorem flatO_length (bs : List (Ob × Nat)) : (flatO bs).length = bs.length * 87 := by
  induction bs with
  | nil => rfl
  | cons b r ih => simp only [flatO, List.flatMap_cons, List.length_append, fO_length, List.length_cons] at ih ⊢; omega
theorem flatO_cons (b : Ob × Nat) (r : List (Ob × Nat)) : flatO (b :: r) = fO b ++ flatO r := rfl
theorem flatO_append (a b : List (Ob × Nat)) : flatO (a ++ b) = flatO a ++ flatO b := by simp [flatO]
theorem flatO_get : ∀ (bs : List (Ob × Nat)) (i : Nat) (h : i < bs.length), ((flatO bs).drop (i * 87)).take 87 = fO bs[i]
  | b :: r, 0, _ => by rw [flatO_cons]; simp only [Nat.zero_mul, List.drop_zero, List.getElem_cons_zero]; rw [← fO_length b]; exact List.take_left
  | b :: r, i + 1, h => by
    have e : (i + 1) * 87 = (fO b).length + i * 87 := by rw [fO_length]; omega
    rw [flatO_cons, e, ← List.drop_drop, List.drop_left]
    exact flatO_get r i (by simpa using h)
theorem flatO_split (bs : List (Ob × Nat)) (i : Nat) (h : i < bs.length) : flatO bs = flatO (bs.take i) ++ fO bs[i] ++ flatO (bs.drop (i + 1)) := by
  have e : bs = bs.take i ++ bs[i] :: bs.drop (i + 1) := by rw [← List.drop_eq_getElem_cons h]; exact (List.take_append_drop i bs).symm
  conv => lhs; rw [e]
  rw [flatO_append, flatO_cons, List.append_assoc]
theorem flatO_put (bs : List (Ob × Nat)) (i : Nat) (h : i < bs.length) (b : Ob × Nat) : (flatO bs).take (i * 87) ++ fO b ++ (flatO bs).drop (i * 87 + (fO b).length) = flatO (bs.set i b) := by
  have e1 : (flatO (bs.take i)).length = i * 87 := by rw [flatO_length, List.length_take, Nat.min_eq_left (by omega)]
  rw [flatO_split bs i h, fO_length]
  have t1 : (flatO (bs.take i) ++ fO bs[i] ++ flatO (bs.drop (i + 1))).take (i * 87) = flatO (bs.take i) := by
    rw [List.append_assoc, ← e1]; exact List.take_left
  have t2 : (flatO (bs.take i) ++ fO bs[i] ++ flatO (bs.drop (i + 1))).drop (i * 87 + 87) = flatO (bs.drop (i + 1)) := by
    have : (flatO (bs.take i) ++ fO bs[i]).length = i * 87 + 87 := by rw [List.length_append, e1, fO_length]
    rw [← this]; exact List.drop_left
  rw [t1, t2]
  have e2 : bs.set i b = bs.take i ++ b :: bs.drop (i + 1) := List.set_eq_take_append_cons_drop.trans (by simp [h])
  rw [e2, flatO_append, flatO_cons, List.append_assoc]
/-- A slice of observations that can be read. -/
def HO (w : World) (a : Option Addr) (os : List Ob) : Prop := ∀ i (h : i < os.length), ∃ g o b c, a = some ⟨g, o, none⟩ ∧ g < w.heap.size ∧ w.rangeAt g (o + i * 87) (obL os[i] b c) ∧ RdB w b os[i].out
theorem HO.later {w w' : World} {a : Option Addr} {os : List Ob} {B : Nat} (h : HO w a os) (hb : Below B w w') (hB : w.heap.size ≤ B) : HO w' a os := fun i hi => by
  obtain ⟨g, o, b, c, e, hg, hr, hd⟩ := h i hi
  exact ⟨g, o, b, c, e, Nat.lt_of_lt_of_le hg hb.size, fun j v hj => (hb.cell (p := ⟨g, _, none⟩) (Nat.lt_of_lt_of_le hg hB)).trans (hr j v hj), hd.later hb hB⟩
theorem HO.nil (w : World) (a : Option Addr) : HO w a [] := fun i h => absurd h (Nat.not_lt_zero _)
theorem flatO_at (bs : List (Ob × Nat)) (j : Nat) (h : j / 87 < bs.length) : (flatO bs)[j]? = (fO bs[j / 87])[j % 87]? := by
  rw [← flatO_get bs (j / 87) h, List.getElem?_take, if_pos (Nat.mod_lt _ (by decide)), List.getElem?_drop]
  congr 1
  omega
def zRow : List Value := obC 0 0 false false z16 0 (.slice none 0 0) 0 z32 z32
theorem zRow_length : zRow.length = 87 := obC_length _ _ _ _ _ _ _ _ _ _ z16l z32l z32l
def flatZ : Nat → List Value
  | 0 => []
  | n + 1 => zRow ++ flatZ n
theorem flatZ_length : ∀ n, (flatZ n).length = n * 87
  | 0 => rfl
  | n + 1 => by rw [flatZ, List.length_append, zRow_length, flatZ_length n]; omega
theorem flatZ_at : ∀ (n j : Nat), j < n * 87 → (flatZ n)[j]? = zRow[j % 87]?
  | n + 1, j, h => by
    rw [flatZ]
    by_cases h1 : j < 87
    · rw [List.getElem?_append_left (by rw [zRow_length]; exact h1), Nat.mod_eq_of_lt h1]
    · rw [List.getElem?_append_right (by rw [zRow_length]; omega), zRow_length, flatZ_at n (j - 87) (by omega)]
      congr 1
      omega
theorem made_ob (n : Nat) : madeCells zRow.toArray (n * 87) = (flatZ n).toArray := by
  apply Array.ext
  · rw [size_madeCells, List.size_toArray, flatZ_length]
  · intro j h1 h2
    have hj : j < n * 87 := by rw [size_madeCells] at h1; exact h1
    have e1 := flatZ_at n j hj
    have h3 : j % 87 < zRow.length := by rw [zRow_length]; exact Nat.mod_lt _ (by decide)
    rw [List.getElem?_eq_getElem h3, List.getElem?_eq_getElem (by rw [flatZ_length]; omega), Option.some.injEq] at e1
    simp only [madeCells, Array.getElem_map, Array.getElem_range, List.getElem_toArray, e1, List.size_toArray, zRow_length]
    rw [getElem!_pos zRow.toArray _ (by rw [List.size_toArray]; exact h3)]
    simp
theorem makeO (n : Nat) (h : n ≤ 1100000) (w : World) : (Instr.makeSlice 28 (.int .i64 n) (.int .i64 n)).run Tryd.prog w = .ok (.slice (some ⟨w.heap.size, 0, none⟩) n n) (w.alloc (.cells (flatZ n).toArray 45)) := by
  obtain ⟨i, hi⟩ := info_of_underlying Tryd.underlying45
  have h2 : (Tryd.prog.info? 45).map (fun i => (i.zero, i.size, i.bytes)) = some (some (.agg zRow.toArray), 87, 136) := by kernel_rfl
  rw [hi] at h2
  simp only [Option.map_some, Option.some.injEq, Prod.mk.injEq] at h2
  rw [run_make (P := Tryd.prog) w _ _ i _ Tryd.underlying28 hi h2.1 .i64 .i64 n n (by omega) (by omega) (by rw [h2.2.2]; omega) (by omega), h2.2.1]
  show Result.ok _ (w.alloc (.cells (madeCells zRow.toArray _) _)) = _
  rw [Int.toNat_natCast, made_ob]
/-- A report's observations as the law's copy lays them: in blocks from B on. -/
structure RO (B : Nat) (w : World) (g : Nat) (xs : List (Ob × Nat)) : Prop where
  low : B ≤ g
  row : w.heap[g]? = some (.cells (flatO xs).toArray 45)
  out : ∀ x ∈ xs, B ≤ x.2 ∧ x.2 ≠ g ∧ w.heap[x.2]? = some (.cells (Iv .u8 x.1.out) 5)
theorem RO.later {B C : Nat} {w w' : World} {g : Nat} {xs : List (Ob × Nat)} (h : RO B w g xs) (hb : Below C w w') (hC : w.heap.size ≤ C) : RO B w' g xs :=
  ⟨h.low, (hb.block g (Nat.lt_of_lt_of_le (Array.getElem?_eq_some_iff.1 h.row).1 hC)).trans h.row, fun x hx => ⟨(h.out x hx).1, (h.out x hx).2.1, (hb.block x.2 (Nat.lt_of_lt_of_le (Array.getElem?_eq_some_iff.1 (h.out x hx).2.2).1 hC)).trans (h.out x hx).2.2⟩⟩
theorem fill_O (xs : List (Ob × Nat)) (x : Ob × Nat) (m : Nat) : (flatO xs ++ flatZ (m + 1)).take (xs.length * 87) ++ fO x ++ (flatO xs ++ flatZ (m + 1)).drop (xs.length * 87 + (fO x).length) = flatO (xs ++ [x]) ++ flatZ m := by
  rw [flatZ, put_mid _ _ _ _ _ (flatO_length xs) (by rw [zRow_length, fO_length]), flatO_append, List.append_assoc]
  simp [flatO]
set_option maxRecDepth 10000 in
set_option maxHeartbeats 2000000 in
theorem toObsS_any (os : List Ob) (n : Nat) (hn : os.length = n) (hn2 : n ≤ 1048576) (ho : ∀ o ∈ os, o.out.length ≤ 1048576) (a : Option Addr) (cap : Nat) (w : World) (ha : HO w a os) :
    Calls Tryd.prog 17 #[.slice a n cap] w fun e w' => ∃ g xs, e = .returned (.slice (some ⟨g, 0, none⟩) n n) ∧ xs.map Prod.fst = os ∧ RO w.heap.size w' g xs ∧ Below w.heap.size w w' := by
  have hmk := makeO n (by omega)
  have HA : Hid (HO w a os) := ha
  have HN : Hid _ := hn
  have HX : Hid _ := ho
  clear ha hn ho
  go_enter Tryd.func17, Tryd.ntmps17
  go_wp2_with fail
  go_loopw [4] (fun i wr => ∃ (k : Nat) (xs : List (Ob × Nat)), k ≤ n ∧ i = .int .i64 k ∧ xs.map Prod.fst = os.take k ∧ Below w.heap.size w wr ∧ wr.heap[w.heap.size]? = some (.cells (flatO xs ++ flatZ (n - k)).toArray 45) ∧ (∀ x ∈ xs, w.heap.size ≤ x.2 ∧ x.2 ≠ w.heap.size ∧ wr.heap[x.2]? = some (.cells (Iv .u8 x.1.out) 5))) (fun i _ => n - (intOf i).toNat)
  case atStart => exact ⟨0, [], Nat.zero_le _, rfl, rfl, (Below.refl _ _).alloc (Nat.le_refl _) _, by simp only [flatO, List.flatMap_nil, List.nil_append, Nat.sub_zero]; exact heap_alloc_new _ _, fun x hx => (by cases hx)⟩
  case round =>
    obtain ⟨k, xs, hk, rfl, hxs, hbr, hrow, hout⟩ := hrel
    by_cases hlt : k < n
    · obtain ⟨g, o, b, c, ea, hg, hr, hd⟩ := HA.out k (by rw [HN.out]; exact hlt)
      subst ea
      obtain ⟨ob, hbd⟩ : ∃ ob, ob = os[k]'(by rw [HN.out]; exact hlt) := ⟨_, rfl⟩
      have hob : ob ∈ os := by rw [hbd]; exact List.getElem_mem _
      rw [← hbd] at hr hd
      have HM : Hid (ob.out.length ≤ 1048576) := HX.out ob hob
      have HB1 : Hid _ := hbr
      have HR : Hid _ := hrow
      have HO1 : Hid _ := hout
      have HS : Hid _ := hxs
      have HL : Hid (xs.length = k) := by
        have := congrArg List.length hxs
        rw [List.length_map, List.length_take, HN.out] at this
        show _ = _
        omega
      have HD : Hid (RdB wr b ob.out) := hd.later hbr (Nat.le_refl _)
      have HW : Hid (wr.rangeAt g (o + k * 87) (obL ob b c)) := fun j v hj => (hbr.cell (p := ⟨g, _, none⟩) hg).trans (hr j v hj)
      have HBD : Hid _ := hbd
      have hi2 : Hid ((Tryd.prog.info? 57).map (·.size) = some (obL ob b c).length) := by show _ = _; rw [obL_length]; exact infoO2
      clear hbd hbr hrow hout hxs hd hr hob
      go_wp2_with (refine wpList_load_mid rfl 57 _ rfl g (o + k * 87) rfl (obL ob b c) _ HW.out Tryd.underlying57 rfl hi2.out ?_)
      refine (toObs_any ob HM.out b c wr HD.out).mono ?_
      rintro e w1 ⟨g1, rfl, hg1, hrow1, hb1⟩
      have hsz := HB1.out.size
      have HR2 : Hid _ := (hb1.block w.heap.size (Array.getElem?_eq_some_iff.1 HR.out).1).trans HR.out
      have hlt2 := (Array.getElem?_eq_some_iff.1 HR.out).1
      have hi : Hid ((Tryd.prog.info? 45).map (·.size) = some (fO (ob, g1)).length) := by show _ = _; rw [fO_length]; exact infoO
      have hfit : Hid (k * 87 + (fO (ob, g1)).length ≤ (flatO xs ++ flatZ (n - k)).length) := by show _ ≤ _; rw [List.length_append, flatO_length, flatZ_length, HL.out, fO_length]; omega
      have hnew : Hid ((flatO xs ++ flatZ (n - k)).take (k * 87) ++ fO (ob, g1) ++ (flatO xs ++ flatZ (n - k)).drop (k * 87 + (fO (ob, g1)).length) = flatO (xs ++ [(ob, g1)]) ++ flatZ (n - (k + 1))) := by
        show _ = _
        have e3 : n - k = (n - (k + 1)) + 1 := by omega
        rw [e3, ← HL.out]
        exact fill_O xs (ob, g1) _
      have HO2 : Hid (∀ x ∈ xs ++ [(ob, g1)], w.heap.size ≤ x.2 ∧ x.2 ≠ w.heap.size ∧ w1.heap[x.2]? = some (.cells (Iv .u8 x.1.out) 5)) := by
        intro x hx
        rcases List.mem_append.1 hx with hx | hx
        · have h3 := HO1.out x hx
          exact ⟨h3.1, h3.2.1, (hb1.block _ (Array.getElem?_eq_some_iff.1 h3.2.2).1).trans h3.2.2⟩
        · rw [List.mem_singleton.1 hx]
          exact ⟨by omega, by show g1 ≠ _; omega, hrow1⟩
      have HS2 : Hid ((xs ++ [(ob, g1)]).map Prod.fst = os.take (k + 1)) := by
        show _ = _
        rw [List.map_append, HS.out, List.take_succ_eq_append_getElem (by rw [HN.out]; exact hlt), HBD.out]
        rfl
      have HB2 : Hid _ := HB1.out.trans (hb1.mono HB1.out.size)
      clear hb1 HB1 HR hrow1 HO1 HS HL HD HW HBD hi2
      go_wp2_with (refine wpList_put_part rfl 45 _ _ rfl w.heap.size (k * 87) (fO (ob, g1)) rfl rfl (flatO xs ++ flatZ (n - k)) 45 HR2.out (flatO (xs ++ [(ob, g1)]) ++ flatZ (n - (k + 1))) hi.out hfit.out (fO_one _) hnew.out ?_)
      intro w2 hP2
      have HB3 : Hid _ := hP2.below _ _ HB2.out (Nat.le_refl _)
      have HR3 : Hid _ := hP2.here
      have HO3 : Hid (∀ x ∈ xs ++ [(ob, g1)], w.heap.size ≤ x.2 ∧ x.2 ≠ w.heap.size ∧ w2.heap[x.2]? = some (.cells (Iv .u8 x.1.out) 5)) := fun x hx => ⟨(HO2.out x hx).1, (HO2.out x hx).2.1, (hP2.far _ (HO2.out x hx).2.1).trans (HO2.out x hx).2.2⟩
      clear hP2 HB2 HR2 hfit hnew hi HO2
      go_wp2_with fail
      go_roundw
      case rel => exact ⟨k + 1, _, by omega, by go_num, HS2.out, HB3.out, HR3.out, HO3.out⟩
      case measure => simp [intOf]; omega
    · obtain rfl : k = n := by omega
      have HB1 : Hid _ := hbr
      have HR : Hid _ := hrow
      have HO1 : Hid _ := hout
      have HS : Hid _ := hxs
      clear hbr hrow hout hxs
      go_wp2_with fail
      go_ret
      refine ⟨_, xs, rfl, ?_, ⟨Nat.le_refl _, ?_, HO1.out⟩, HB1.out⟩
      · rw [HS.out, List.take_of_length_le (by rw [HN.out]; exact Nat.le_refl _)]
      · rw [HR.out, Nat.sub_self, flatZ, List.append_nil]
set_option maxRecDepth 10000 in
set_option maxHeartbeats 2000000 in
theorem toReport_any (os : List Ob) (n : Nat) (hn : os.length = n) (hn2 : n ≤ 1048576) (ho : ∀ o ∈ os, o.out.length ≤ 1048576) (a : Option Addr) (cap : Nat) (m s : Int) (w : World) (ha : HO w a os) :
    Calls Tryd.prog 6 #[.agg #[.slice a n cap, .int .i64 m, .int .i64 s]] w fun e w' => ∃ g xs, e = .returned (.agg #[.slice (some ⟨g, 0, none⟩) n n, .int .i64 m, .int .i64 s]) ∧ xs.map Prod.fst = os ∧ RO w.heap.size w' g xs ∧ Below w.heap.size w w' := by
  have HA : Hid (HO w a os) := ha
  have HN : Hid _ := hn
  have HX : Hid _ := ho
  clear ha hn ho
  go_enter Tryd.func6, Tryd.ntmps6
  go_wp2_with fail
  obtain ⟨n1, n2, W, hW, h1, h2, F⟩ := rn3 w #[.slice a n cap, .int .i64 m, .int .i64 s] #[.slice none 0 0, .int .i64 0, .int .i64 0] #[.slice none 0 0, .int .i64 0, .int .i64 0] 24 30 30
  rw [hW, h2, h1]
  clear hW h1 h2
  refine (toObsS_any os n HN.out hn2 HX.out a cap W (HO.later HA.out F.out.bel (Nat.le_refl _))).mono ?_
  rintro e w1 ⟨g, xs, rfl, hxs, hro, hb1⟩
  have hbs := F.out.bel.size
  have h1 := (Array.getElem?_eq_some_iff.1 (F.out.at (.head _))).1
  have h2 := (Array.getElem?_eq_some_iff.1 (F.out.at (.tail _ (.head _)))).1
  have HRO : Hid (RO (n1 + n2 + 1 + w.heap.size) w1 g xs → True) := fun _ => trivial
  have hgl := hro.low
  have F1 : Hid _ := F.out.later hb1 (Nat.le_refl _)
  have HR1 : Hid _ := hro
  have HS : Hid _ := hxs
  have c1 : w1.cell? ⟨w.heap.size, 1, none⟩ = some (.int .i64 m) := cell_of_row _ _ _ _ _ _ (F1.out.at (.tail _ (.tail _ (.head _))))
  have c2 : Hid (w1.cell? ⟨w.heap.size, 2, none⟩ = some (.int .i64 s)) := cell_of_row _ _ _ _ _ _ (F1.out.at (.tail _ (.tail _ (.head _))))
  clear hb1 F hro HRO hxs c1 c2
  go_wp2_with (refine wpList_put_val rfl 28 _ _ rfl n2 0 (.slice (some ⟨g, 0, none⟩) n n) rfl rfl [.slice none 0 0, .int .i64 0, .int .i64 0] 30 (F1.out.at (.head _)) (by kernel_rfl) (by simp) rfl [.slice (some ⟨g, 0, none⟩) n n, .int .i64 0, .int .i64 0] rfl ?_)
  intro w2 hP2
  have F2 : Hid _ := F1.out.put hP2
  have HR2 : Hid (RO w.heap.size w2 g xs) := ⟨by have := HR1.out.low; omega, (hP2.far g (by omega)).trans HR1.out.row, fun x hx => ⟨by have := (HR1.out.out x hx).1; omega, (HR1.out.out x hx).2.1, (hP2.far _ (by have := (HR1.out.out x hx).1; omega)).trans (HR1.out.out x hx).2.2⟩⟩
  have HL : Hid (∀ x ∈ xs, W.heap.size ≤ x.2) := fun x hx => (HR1.out.out x hx).1
  clear F1 HR1 hP2
  have c1 : w2.cell? ⟨w.heap.size, 1, none⟩ = some (.int .i64 m) := cell_of_row _ _ _ _ _ _ (F2.out.at (.tail _ (.tail _ (.head _))))
  go_wp2_with (refine wpList_put_val rfl 3 _ _ rfl n2 1 (.int .i64 m) rfl rfl [.slice (some ⟨g, 0, none⟩) n n, .int .i64 0, .int .i64 0] 30 (F2.out.at (.head _)) (by kernel_rfl) (by simp) rfl [.slice (some ⟨g, 0, none⟩) n n, .int .i64 m, .int .i64 0] rfl ?_)
  intro w3 hP3
  have F3 : Hid _ := F2.out.put hP3
  have HR3 : Hid (RO w.heap.size w3 g xs) := ⟨HR2.out.low, (hP3.far g (by omega)).trans HR2.out.row, fun x hx => ⟨(HR2.out.out x hx).1, (HR2.out.out x hx).2.1, (hP3.far _ (by have := HL.out x hx; omega)).trans (HR2.out.out x hx).2.2⟩⟩
  clear F2 HR2 hP3 c1
  have c2 : w3.cell? ⟨w.heap.size, 2, none⟩ = some (.int .i64 s) := cell_of_row _ _ _ _ _ _ (F3.out.at (.tail _ (.tail _ (.head _))))
  go_wp2_with (refine wpList_put_val rfl 3 _ _ rfl n2 2 (.int .i64 s) rfl rfl [.slice (some ⟨g, 0, none⟩) n n, .int .i64 m, .int .i64 0] 30 (F3.out.at (.head _)) (by kernel_rfl) (by simp) rfl [.slice (some ⟨g, 0, none⟩) n n, .int .i64 m, .int .i64 s] rfl ?_)
  intro w4 hP4
  have F4 : Hid _ := F3.out.put hP4
  have HR4 : Hid (RO w.heap.size w4 g xs) := ⟨HR3.out.low, (hP4.far g (by omega)).trans HR3.out.row, fun x hx => ⟨(HR3.out.out x hx).1, (HR3.out.out x hx).2.1, (hP4.far _ (by have := HL.out x hx; omega)).trans (HR3.out.out x hx).2.2⟩⟩
  clear F3 HR3 hP4 c2
  go_wp2_with (first
    | refine wpList_load_row rfl 30 _ rfl _ rfl _ _ _ _ (F4.out.at (.head _)) Tryd.underlying30 rfl (by kernel_rfl) ?_
    | refine wpList_put_row rfl 30 _ _ rfl n1 #[.slice (some ⟨g, 0, none⟩) n n, .int .i64 m, .int .i64 s] rfl rfl _ _ (F4.out.at (.tail _ (.head _))) (by kernel_rfl) rfl (by simp [Value.oneCell']) ?_)
  intro w5 hP5
  have F5 : Hid _ := (F4.out.sub (List.sublist_cons_self _ _)).put hP5
  have HR5 : Hid (RO w.heap.size w5 g xs) := ⟨HR4.out.low, (hP5.far g (by omega)).trans HR4.out.row, fun x hx => ⟨(HR4.out.out x hx).1, (HR4.out.out x hx).2.1, (hP5.far _ (by have := HL.out x hx; omega)).trans (HR4.out.out x hx).2.2⟩⟩
  clear F4 HR4 hP5
  go_wp2_with fail
  exact bodyPost_ret (v := .agg #[.slice (some ⟨g, 0, none⟩) n n, .int .i64 m, .int .i64 s]) (results_cell_row rfl _ _ _ _ #[.slice (some ⟨g, 0, none⟩) n n, .int .i64 m, .int .i64 s] _ _ rfl (F5.out.at (.head _)) Tryd.underlying30 rfl (by kernel_rfl)) rfl ⟨g, xs, rfl, HS.out, HR5.out, F5.out.bel⟩
end Go.Proofs.YteagkgklnabgoaaDoor
