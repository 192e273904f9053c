/- Slices of buckets. 'toBucketS'. -/
import Derived.Test.YtcjbenmbenkcpaaLiA
import Derived.Laws.MakeOwn
namespace Go.Proofs.Ytcjbenmbenkcpaa
open Go.RowKit
set_option linter.unusedVariables false
def flatB (bs : List Bk) : List Value := bs.flatMap bkL
theorem flatB_length (bs : List Bk) : (flatB bs).length = bs.length * 11 := by
  induction bs with
  | nil => rfl
  | cons b r ih => simp only [flatB, List.flatMap_cons, List.length_append, bkL_length, List.length_cons] at ih ⊢; omega
theorem flatB_cons (b : Bk) (r : List Bk) : flatB (b :: r) = bkL b ++ flatB r := rfl
theorem flatB_append (a b : List Bk) : flatB (a ++ b) = flatB a ++ flatB b := by simp [flatB]
theorem flatB_get : ∀ (bs : List Bk) (i : Nat) (h : i < bs.length), ((flatB bs).drop (i * 11)).take 11 = bkL bs[i]
  | b :: r, 0, _ => by rw [flatB_cons]; simp only [Nat.zero_mul, List.drop_zero, List.getElem_cons_zero]; rw [← bkL_length b]; exact List.take_left
  | b :: r, i + 1, h => by
    have e : (i + 1) * 11 = (bkL b).length + i * 11 := by rw [bkL_length]; omega
    rw [flatB_cons, e, ← List.drop_drop, List.drop_left]
    exact flatB_get r i (by simpa using h)
theorem flatB_split (bs : List Bk) (i : Nat) (h : i < bs.length) : flatB bs = flatB (bs.take i) ++ bkL bs[i] ++ flatB (bs.drop (i + 1)) := by
  have e : bs = bs.take i ++ bs[i] :: bs.drop (i + 1) := by rw [← List.drop_eq_getElem_cons h]; exact (List.take_append_drop i bs).symm
  conv => lhs; rw [e]
  rw [flatB_append, flatB_cons, List.append_assoc]
theorem flatB_put (bs : List Bk) (i : Nat) (h : i < bs.length) (b : Bk) : (flatB bs).take (i * 11) ++ bkL b ++ (flatB bs).drop (i * 11 + (bkL b).length) = flatB (bs.set i b) := by
  have e1 : (flatB (bs.take i)).length = i * 11 := by rw [flatB_length, List.length_take, Nat.min_eq_left (by omega)]
  rw [flatB_split bs i h, bkL_length]
  have t1 : (flatB (bs.take i) ++ bkL bs[i] ++ flatB (bs.drop (i + 1))).take (i * 11) = flatB (bs.take i) := by
    rw [List.append_assoc, ← e1]; exact List.take_left
  have t2 : (flatB (bs.take i) ++ bkL bs[i] ++ flatB (bs.drop (i + 1))).drop (i * 11 + 11) = flatB (bs.drop (i + 1)) := by
    have : (flatB (bs.take i) ++ bkL bs[i]).length = i * 11 + 11 := by rw [List.length_append, e1, bkL_length]
    rw [← this]; exact List.drop_left
  rw [t1, t2]
  have e2 : bs.set i b = bs.take i ++ b :: bs.drop (i + 1) := List.set_eq_take_append_cons_drop.trans (by simp [h])
  rw [e2, flatB_append, flatB_cons, List.append_assoc]
/-- A slice of buckets that can be read. -/
def HB (w : World) (a : Option Addr) (bs : List Bk) : Prop := ∀ i (h : i < bs.length), ∃ g o, a = some ⟨g, o, none⟩ ∧ g < w.heap.size ∧ w.rangeAt g (o + i * 11) (bkL bs[i])
theorem HB.later {w w' : World} {a : Option Addr} {bs : List Bk} {B : Nat} (h : HB w a bs) (hb : Below B w w') (hB : w.heap.size ≤ B) : HB w' a bs := fun i hi => by
  obtain ⟨g, o, e, hg, hr⟩ := h i hi
  exact ⟨g, o, e, Nat.lt_of_lt_of_le hg hb.size, fun j v hj => (hb.cell (p := ⟨g, _, none⟩) (Nat.lt_of_lt_of_le hg hB)).trans (hr j v hj)⟩
theorem HB.row {w : World} {g : Nat} {bs : List Bk} {t : TypeId} {fr : Nat × Nat} (h : w.heap[g]? = some (.cells (flatB bs).toArray t fr)) : HB w (some ⟨g, 0, none⟩) bs := fun i hi =>
  ⟨g, 0, rfl, (Array.getElem?_eq_some_iff.1 h).1, by rw [← flatB_get bs i hi, Nat.zero_add]; exact range_row h _ _⟩
theorem HB.nil (w : World) (a : Option Addr) : HB w a [] := fun i h => absurd h (Nat.not_lt_zero _)
theorem flatB_at (bs : List Bk) (j : Nat) (h : j / 11 < bs.length) : (flatB bs)[j]? = (bkL bs[j / 11])[j % 11]? := by
  rw [← flatB_get bs (j / 11) h, List.getElem?_take, if_pos (Nat.mod_lt _ (by decide)), List.getElem?_drop]
  congr 1
  omega
theorem made_bk (n : Nat) : madeCells (bkL zBk).toArray (n * 11) = (flatB (List.replicate n zBk)).toArray := by
  apply Array.ext
  · rw [size_madeCells, List.size_toArray, flatB_length, List.length_replicate]
  · intro j h1 h2
    have hj : j < n * 11 := by rw [size_madeCells] at h1; exact h1
    have e1 := flatB_at (List.replicate n zBk) j (by rw [List.length_replicate]; omega)
    have h3 : j % 11 < (bkL zBk).length := by rw [bkL_length]; exact Nat.mod_lt _ (by decide)
    rw [List.getElem_replicate, List.getElem?_eq_getElem h3, List.getElem?_eq_getElem (by rw [flatB_length, List.length_replicate]; omega), Option.some.injEq] at e1
    simp only [madeCells, Array.getElem_map, Array.getElem_range, List.getElem_toArray, e1, bkL_size]
    rw [getElem!_pos (bkL zBk).toArray _ (by rw [List.size_toArray]; exact h3)]
    simp
theorem makeB (n : Nat) (h : n ≤ 1100000) (w : World) : (Instr.makeSlice 26 (.int .i64 n) (.int .i64 n)).run Try.prog w = .ok (.slice (some ⟨w.heap.size, 0, none⟩) n n) (w.alloc (.cells (flatB (List.replicate n zBk)).toArray 37)) := by
  obtain ⟨i, hi⟩ := info_of_underlying Try.underlying37
  have h2 : (Try.prog.info? 37).map (fun i => (i.zero, i.size, i.bytes)) = some (some (.agg (bkL zBk).toArray), 11, 32) := by kernel_rfl
  rw [hi] at h2
  simp only [Option.map_some, Option.some.injEq, Prod.mk.injEq] at h2
  rw [run_makeSlice (P := Try.prog) w _ _ i _ Try.underlying26 hi h2.1 .i64 .i64 n n (by omega) (by omega) (by rw [h2.2.1]; simp; omega) (by rw [h2.2.2]; omega) (by omega), h2.2.1]
  show Result.ok _ (w.alloc (.cells (madeCells (bkL zBk).toArray _) _)) = _
  rw [Int.toNat_natCast, made_bk]
set_option maxRecDepth 10000 in
set_option maxHeartbeats 2000000 in
theorem toBucketS_any (bs : List Bk) (n : Nat) (hn : bs.length = n) (hn2 : n ≤ 1048576) (a : Option Addr) (cap : Nat) (w : World) (ha : HB w a bs) :
    Calls Try.prog 22 #[.slice a n cap] w fun e w' => ∃ g, e = .returned (.slice (some ⟨g, 0, none⟩) n n) ∧ w.heap.size ≤ g ∧ w'.heap[g]? = some (.cells (flatB bs).toArray 37) ∧ Below w.heap.size w w' := by
  have hmk := makeB n (by omega)
  have HA : Hid _ := ha
  have HN : Hid _ := hn
  clear ha hn
  go_enter Try.func22, Try.ntmps22
  go_wp2_with fail
  go_loopw [4] (fun i wr => ∃ k : Nat, k ≤ n ∧ i = .int .i64 k ∧ Below w.heap.size w wr ∧ wr.heap[w.heap.size]? = some (.cells (flatB (bs.take k ++ List.replicate (n - k) zBk)).toArray 37)) (fun i _ => n - (intOf i).toNat)
  case atStart => exact ⟨0, Nat.zero_le _, rfl, (Below.refl _ _).alloc (Nat.le_refl _) _, by simp only [List.take_zero, List.nil_append, Nat.sub_zero]; exact heap_alloc_new _ _⟩
  case round =>
    obtain ⟨k, hk, rfl, hbr, hrow⟩ := hrel
    by_cases hlt : k < n
    · obtain ⟨g, o, ea, hg, hr⟩ := HA.out k (by rw [HN.out]; exact hlt)
      subst ea
      have HB1 : Hid _ := hbr
      have HR : Hid _ := hrow
      have HX : Hid (wr.rangeAt g (o + k * 11) (bkL (bs[k]'(by rw [HN.out]; exact hlt)))) := fun j v hj => (hbr.cell (p := ⟨g, _, none⟩) hg).trans (hr j v hj)
      clear hbr hrow hr
      obtain ⟨b, hbd⟩ : ∃ b, b = bs[k]'(by rw [HN.out]; exact hlt) := ⟨_, rfl⟩
      rw [← hbd] at HX
      have HBD : Hid _ := hbd
      have hi2 : Hid ((Try.prog.info? 74).map (·.size) = some (bkL b).length) := by show _ = _; rw [bkL_length]; exact infoB2
      have hi : Hid ((Try.prog.info? 37).map (·.size) = some (bkL b).length) := by show _ = _; rw [bkL_length]; exact infoB
      clear hbd
      go_wp2_with (refine wpList_load_mid rfl 74 _ rfl g (o + k * 11) rfl (bkL b) _ HX.out Try.underlying74 rfl hi2.out ?_)
      refine (toBucket_any b wr).mono ?_
      rintro e w1 ⟨rfl, hb1⟩
      have hlen : (bs.take k ++ List.replicate (n - k) zBk).length = n := by rw [List.length_append, List.length_take, List.length_replicate, HN.out]; omega
      have HB2 : Hid _ := HB1.out.trans (hb1.mono HB1.out.size)
      have HR2 : Hid _ := (hb1.block w.heap.size (Array.getElem?_eq_some_iff.1 HR.out).1).trans HR.out
      have hfit : Hid (k * 11 + (bkL b).length ≤ (flatB (bs.take k ++ List.replicate (n - k) zBk)).length) := by show _ ≤ _; rw [flatB_length, hlen, bkL_length]; omega
      have hnew : Hid ((flatB (bs.take k ++ List.replicate (n - k) zBk)).take (k * 11) ++ bkL b ++ (flatB (bs.take k ++ List.replicate (n - k) zBk)).drop (k * 11 + (bkL b).length) = flatB (bs.take (k + 1) ++ List.replicate (n - (k + 1)) zBk)) := by
        show _ = _
        rw [flatB_put _ k (by rw [hlen]; exact hlt) b]
        congr 1
        have h3 : k < bs.length := by rw [HN.out]; exact hlt
        rw [List.set_append_right _ _ (by rw [List.length_take, Nat.min_eq_left (by omega)]; exact Nat.le_refl _), List.length_take, Nat.min_eq_left (by omega), Nat.sub_self, List.take_succ_eq_append_getElem h3, HBD.out]
        have e3 : n - k = (n - (k + 1)) + 1 := by omega
        rw [e3, List.replicate_succ, List.set_cons_zero, List.append_assoc]
        rfl
      have HL : Hid _ := hlen
      clear hb1 HB1 HR hlen
      go_wp2_with (refine wpList_put_part rfl 37 _ _ rfl w.heap.size (k * 11) (bkL b) rfl rfl (flatB (bs.take k ++ List.replicate (n - k) zBk)) 37 HR2.out (flatB (bs.take (k + 1) ++ List.replicate (n - (k + 1)) zBk)) hi.out hfit.out (bkL_one b) hnew.out ?_)
      intro w2 hP2
      have HB3 : Hid _ := hP2.below _ _ HB2.out (Nat.le_refl _)
      have HR3 : Hid _ := hP2.here
      clear hP2 HB2 HR2 hfit hnew HL HX hi hi2 HBD
      go_wp2_with fail
      go_roundw
      case rel => exact ⟨k + 1, by omega, by go_num, HB3.out, HR3.out⟩
      case measure => simp [intOf]; omega
    · obtain rfl : k = n := by omega
      have HB1 : Hid _ := hbr
      have HR : Hid _ := hrow
      clear hbr hrow
      go_wp2_with fail
      go_ret
      refine ⟨_, rfl, Nat.le_refl _, ?_, HB1.out⟩
      rw [HR.out, Nat.sub_self, List.replicate_zero, List.append_nil, List.take_of_length_le (by rw [HN.out]; exact Nat.le_refl _)]
set_option maxHeartbeats 1000000 in
theorem szLimiter_any (n cap : Nat) (hn : n ≤ 1048576) (a : Option Addr) (m s : Int) (w : World) :
    Calls Try.prog 10 #[.agg #[.int .i64 m, .int .i64 s, .slice a n cap], .int .i64 1048576] w fun e w' => e = .returned (.int .i64 (1048576 - (n : Int))) ∧ Below w.heap.size w w' := by
  have h1 : (1048576 - (n : Int) < 0) = False := by simp; omega
  go_enter Try.func10, Try.ntmps10
  go_wp2
  go_ret
  exact ⟨rfl, (Below.refl _ _).alloc (Nat.le_refl _) _⟩
set_option maxHeartbeats 1000000 in
theorem szLimiter_big (n cap : Nat) (hn : 1048576 < n) (hn2 : n ≤ 9223372036854775807) (a : Option Addr) (m s : Int) (w : World) :
    Calls Try.prog 10 #[.agg #[.int .i64 m, .int .i64 s, .slice a n cap], .int .i64 1048576] w fun e w' => e = .returned (.int .i64 (-1)) ∧ Below w.heap.size w w' := by
  have h1 : 1048576 - (n : Int) < 0 := by omega
  go_enter Try.func10, Try.ntmps10
  go_wp2
  go_ret
  exact ⟨rfl, (Below.refl _ _).alloc (Nat.le_refl _) _⟩
set_option maxRecDepth 10000 in
set_option maxHeartbeats 2000000 in
theorem toLimiter_any (bs : List Bk) (n : Nat) (hn : bs.length = n) (hn2 : n ≤ 1048576) (a : Option Addr) (cap : Nat) (m s : Int) (w : World) (ha : HB w a bs) :
    Calls Try.prog 11 #[.agg #[.int .i64 m, .int .i64 s, .slice a n cap]] w fun e w' => ∃ g, e = .returned (.agg #[.int .i64 m, .int .i64 s, .slice (some ⟨g, 0, none⟩) n n]) ∧ w.heap.size ≤ g ∧ w'.heap[g]? = some (.cells (flatB bs).toArray 37) ∧ Below w.heap.size w w' := by
  have HA : Hid _ := ha
  have HN : Hid _ := hn
  clear ha hn
  go_enter Try.func11, Try.ntmps11
  go_wp2_with fail
  obtain ⟨n1, n2, W, hW, h1, h2, F⟩ := rn3 w #[.int .i64 m, .int .i64 s, .slice a n cap] #[.int .i64 0, .int .i64 0, .slice none 0 0] #[.int .i64 m, .int .i64 s, .slice none 0 0] 41 28 28
  rw [hW, h2, h1]
  clear hW h1 h2
  refine (toBucketS_any bs n HN.out hn2 a cap W (HB.later HA.out F.out.bel (Nat.le_refl _))).mono ?_
  rintro e w1 ⟨g, rfl, hg, hrow, hb1⟩
  have l1 := (Array.getElem?_eq_some_iff.1 (F.out.at (.head _))).1
  have l2 := (Array.getElem?_eq_some_iff.1 (F.out.at (.tail _ (.head _)))).1
  have l3 := F.out.bel.size
  have F1 : Hid _ := F.out.later hb1 (Nat.le_refl _)
  have HR1 : Hid _ := hrow
  clear hb1 F hrow
  go_wp2_with (refine wpList_put_val rfl 26 _ _ rfl n2 2 (.slice (some ⟨g, 0, none⟩) n n) rfl rfl [.int .i64 m, .int .i64 s, .slice none 0 0] 28 (F1.out.at (.head _)) (by kernel_rfl) (by simp) rfl [.int .i64 m, .int .i64 s, .slice (some ⟨g, 0, none⟩) n n] rfl ?_)
  intro w2 hP2
  have F2 : Hid _ := F1.out.put hP2
  have HR2 : Hid _ := (hP2.far g (by omega)).trans HR1.out
  clear F1 HR1 hP2
  go_wp2_with (first
    | refine wpList_load_row rfl 28 _ rfl _ rfl _ _ _ _ (F2.out.at (.head _)) Try.underlying28 rfl (by kernel_rfl) ?_
    | refine wpList_put_row rfl 28 _ _ rfl n1 #[.int .i64 m, .int .i64 s, .slice (some ⟨g, 0, none⟩) n n] rfl rfl _ _ (F2.out.at (.tail _ (.head _))) (by kernel_rfl) rfl (by simp [Value.oneCell']) ?_)
  intro w3 hP3
  have F3 : Hid _ := (F2.out.sub (List.sublist_cons_self _ _)).put hP3
  have HR3 : Hid _ := (hP3.far g (by omega)).trans HR2.out
  clear F2 HR2 hP3
  go_wp2_with fail
  exact bodyPost_ret (v := .agg #[.int .i64 m, .int .i64 s, .slice (some ⟨g, 0, none⟩) n n]) (results_cell_row rfl _ _ _ _ #[.int .i64 m, .int .i64 s, .slice (some ⟨g, 0, none⟩) n n] _ _ rfl (F3.out.at (.head _)) Try.underlying28 rfl (by kernel_rfl)) rfl ⟨g, rfl, by omega, HR3.out, F3.out.bel⟩
end Go.Proofs.Ytcjbenmbenkcpaa
