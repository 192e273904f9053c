import Derived.Test.YtgpjdbkdnojbhaaDoorBV
import Derived.Laws.MakeOwn
import Derived.Laws.AppendOwn
import Derived.Great.BuildSlice
import Derived.Test.YtgpjdbkdnojbhaaDoorRows
import Derived.Test.YtgpjdbkdnojbhaaDoorBase
import Derived.Test.YtgpjdbkdnojbhaaDoorNum
import Derived.Test.YtgpjdbkdnojbhaaDoorEqA32
import Derived.Test.YtgpjdbkdnojbhaaDoorQuiet
import Derived.Test.YtgpjdbkdnojbhaaDoorWire
namespace Go.Proofs.YtgpjdbkdnojbhaaDoor
open Go.RowKit
set_option linter.unusedVariables false
theorem quietV {P : Program} {ops : Array Oper} {C : World → Prop} {Q : Act → Prop} {a : Act} {o : Oper} {rest : List Oper} (hgd : o.guard = none) (v : Value) (he : ∀ w, (execOp a.eval o).run P w = .ok (.value v) w) (h : wpQuiet P ops C Q rest (a.put o.dst v)) : wpQuiet P ops C Q (o :: rest) a := by
  refine wpQuiet_wanted hgd (v := v) (fun w hw => ?_) h
  unfold Oper.quietAt
  rw [he w]
  exact ⟨rfl, rfl⟩
def kdfK (R : List Int) : Nat → List Int
  | 0 => hmacB R [1]
  | j + 1 => hmacB R (kdfK R j ++ [(j : Int) + 2])
theorem kdfK_length (R : List Int) (j : Nat) : (kdfK R j).length = 32 := by cases j <;> exact hmacB_length _ _
def kdfL (R : List Int) : Nat → List Int
  | 0 => []
  | k + 1 => kdfL R k ++ kdfK R k
theorem kdfL_length (R : List Int) : ∀ k, (kdfL R k).length = 32 * k
  | 0 => rfl
  | k + 1 => by rw [kdfL, List.length_append, kdfL_length R k, kdfK_length]; omega
def kdfRow (R : List Int) (n k : Nat) : List Int := kdfL R k ++ zeroL (32 * (n - k))
theorem kdfRow_length (R : List Int) (n k : Nat) (h : k ≤ n) : (kdfRow R n k).length = 32 * n := by rw [kdfRow, List.length_append, kdfL_length]; simp [zeroL]; omega
theorem kdfRow_put (R : List Int) (n k : Nat) (h : k < n) : (kdfRow R n k).take (32 * k) ++ kdfK R k ++ (kdfRow R n k).drop (32 * k + 32) = kdfRow R n (k + 1) := by
  have e1 : (kdfRow R n k).take (32 * k) = kdfL R k := by
    unfold kdfRow
    rw [List.take_append_of_le_length (by rw [kdfL_length]; omega), List.take_of_length_le (by rw [kdfL_length]; omega)]
  have e2 : (kdfRow R n k).drop (32 * k + 32) = zeroL (32 * (n - (k + 1))) := by
    unfold kdfRow zeroL
    rw [List.drop_append, List.drop_eq_nil_of_le (by rw [kdfL_length]; omega), List.nil_append, List.drop_replicate, kdfL_length]
    congr 1
    omega
  rw [e1, e2]
  rfl
theorem kdfRow_putV (R : List Int) (n k : Nat) (h : k < n) : ((kdfRow R n k).map (Value.int .u8)).take (32 * k) ++ (kdfK R k).map (Value.int .u8) ++ ((kdfRow R n k).map (Value.int .u8)).drop (32 * k + ((kdfK R k).map (Value.int .u8)).length) = (kdfRow R n (k + 1)).map (Value.int .u8) := by
  rw [List.length_map, kdfK_length, ← kdfRow_put R n k h, List.map_append, List.map_append, List.map_take, List.map_drop]
theorem kdfRow_last (R : List Int) (n k : Nat) (h : k < n) (j : Nat) (hj : j < 32) : (kdfRow R n (k + 1)).getD (32 * k + j) 0 = (kdfK R k).getD j 0 := by
  have hl := kdfL_length R k
  have hk := kdfK_length R k
  unfold kdfRow kdfL
  simp only [List.getD_eq_getElem?_getD]
  rw [List.append_assoc, List.getElem?_append_right (by omega), List.getElem?_append_left (by omega)]
  congr 2
  omega
theorem kdfK_bytes (R : List Int) (k : Nat) : Bytes (kdfK R k) := by cases k <;> exact hashB_bytes _
theorem kdf_partOk {w : World} {g : Nat} {R : List Int} {n k : Nat} {t : TypeId} (h : w.heap[g]? = some (.cells (Iv .u8 (kdfRow R n (k + 1))) t)) (hk : k < n) : PartOk w (.slice (some ⟨g, 32 * k, none⟩) 32 32) (kdfK R k) :=
  ⟨_, _, _, rfl, kdfK_length R k, Nat.le_refl _, by decide, kdfK_bytes R k, .inr ⟨g, 32 * k, rfl, fun j hj => by
    rw [← kdfRow_last R n k hk j hj]
    exact RowAt.cell (show RowAt w g .u8 _ t from h) (32 * k + j) (by rw [kdfRow_length R n (k + 1) (by omega)]; omega)⟩⟩
theorem made_zero (m : Nat) : madeCells (Iv .u8 (zeroL 32)) m = Iv .u8 (zeroL m) := by
  have hs : (Iv .u8 (zeroL 32)).size = 32 := by rw [Iv_size]; rfl
  apply Array.ext
  · rw [size_madeCells, Iv_size]; simp [zeroL]
  · intro i h1 h2
    have hi : i < m := by rw [size_madeCells] at h1; exact h1
    have e2 := Iv_get .u8 (zeroL m) i (by simp [zeroL]; exact hi)
    rw [Array.getElem?_eq_getElem h2, Option.some.injEq] at e2
    rw [e2]
    simp only [madeCells, Array.getElem_map, Array.getElem_range]
    have hj : i % (Iv .u8 (zeroL 32)).size < (Iv .u8 (zeroL 32)).size := Nat.mod_lt _ (by rw [hs]; decide)
    rw [getElem!_pos (Iv .u8 (zeroL 32)) _ hj]
    have hz : ∀ j (h : j < (zeroL 32).length), (zeroL 32)[j] = 0 := fun j h => by unfold zeroL; exact List.getElem_replicate _
    have hz2 : ∀ (h : i < (zeroL m).length), (zeroL m)[i] = 0 := fun h => by unfold zeroL; exact List.getElem_replicate _
    obtain ⟨j, hjd⟩ : ∃ j, j = i % (Iv .u8 (zeroL 32)).size := ⟨_, rfl⟩
    have hj' : j < (zeroL 32).length := by rw [hjd]; rw [Iv_size] at hj ⊢; exact hj
    have e3 := Iv_get .u8 (zeroL 32) j hj'
    simp only [← hjd] at hj ⊢
    rw [Array.getElem?_eq_getElem hj, Option.some.injEq] at e3
    rw [e3, hz, hz2]
theorem make32 (n : Nat) (h : n ≤ 3) (w : World) : (Instr.makeSlice 33 (.int .i64 n) (.int .i64 n)).run Tryd.prog w = .ok (.slice (some ⟨w.heap.size, 0, none⟩) n n) (w.alloc (.cells (Iv .u8 (zeroL (32 * n))) 23)) := by
  obtain ⟨i, hi⟩ := info_of_underlying Tryd.underlying23
  have h2 : (Tryd.prog.info? 23).map (fun i => (i.zero, i.size, i.bytes)) = some (some (.agg (Iv .u8 (zeroL 32))), 32, 32) := by kernel_rfl
  rw [hi] at h2
  simp only [Option.map_some, Option.some.injEq, Prod.mk.injEq] at h2
  rw [run_makeSlice (P := Tryd.prog) w _ _ i _ Tryd.underlying33 hi h2.1 .i64 .i64 n n (by omega) (by omega) (by rw [h2.2.1]; simp; omega) (by rw [h2.2.2]; omega) (by omega), h2.2.1]
  show Result.ok _ (w.alloc (.cells (madeCells (Iv .u8 (zeroL 32)) _) _)) = _
  rw [made_zero, Int.toNat_natCast, Nat.mul_comm]
set_option maxRecDepth 10000 in
set_option maxHeartbeats 2000000 in
theorem implKdf_any (K D : List Int) (kl : Nat) (hK : K.length = kl) (hKb : Bytes K) (hkl : kl ≤ 5000000) (kb ko kcap : Nat) (hkcap : kl ≤ kcap) (hkcap2 : kcap ≤ 9223372036854775807) (a : Option Addr) (dl dcap : Nat) (w : World) (hkc : ∀ j, j < kl → w.cell? ⟨kb, ko + j, none⟩ = some (.int .u8 (K.getD j 0))) (hkbs : kb < w.heap.size) (hv : PartOk w (.slice a dl dcap) D) (hlen : D.length ≤ 5000000) (ht : Tabs w) (n : Nat) (hn1 : 1 ≤ n) (hn2 : n ≤ 3) (R : List Int) (HR : Hid (∀ x, hmacB K D = x → x = R)) :
    Calls Tryd.prog 22 #[.int .i64 n, .slice (some ⟨kb, ko, none⟩) kl kcap, .slice a dl dcap] w fun e w' => ∃ g, e = .returned (.slice (some ⟨g, 0, none⟩) n n) ∧ w.heap.size ≤ g ∧ w'.heap[g]? = some (.cells (Iv .u8 (kdfRow R n n)) 23) ∧ Below w.heap.size w w' := by
  have hzb := zeroB32
  have hmk := make32 n hn2
  have HT : Hid _ := ht
  have HKC : Hid _ := hkc
  have HV : Hid _ := hv
  clear hkc hv ht
  have h1 : ((n : Int) < 1) = False := by simp; omega
  have h2 : (3 < (n : Int)) = False := by simp; omega
  have hRl : R.length = 32 := by rw [← HR.out _ rfl]; exact hmacB_length _ _
  have hRb : Bytes R := by rw [← HR.out _ rfl]; exact hashB_bytes _
  have hi32 : Hid (∀ X : List Int, X.length = 32 → (Tryd.prog.info? 23).map (·.size) = some (Iv .u8 X).size) := fun X hX => by rw [Iv_size, hX]; exact infoBB32
  have hz32 : Hid (∀ X : List Int, X.length = 32 → (Iv .u8 (zeroL 32)).size = (Iv .u8 X).size) := fun X hX => by rw [Iv_size, Iv_size, hX]; rfl
  go_enter Tryd.func22, Tryd.ntmps22
  go_wp2_with fail
  have HPP : Parts (w.alloc (.cells #[.slice a dl dcap] 22)) w.heap.size 0 1 [.slice a dl dcap] [D] := Parts.one HV.out
  obtain ⟨W, hW⟩ : ∃ X, X = w.alloc (.cells #[.slice a dl dcap] 22) := ⟨_, rfl⟩
  have HB : Hid (Below w.heap.size w W) := by show Below _ _ _; rw [hW]; exact (Below.refl _ _).alloc (Nat.le_refl _) _
  rw [← hW] at HPP ⊢
  clear hW
  refine (hmacOf_any K kl hK hKb hkl kb ko kcap hkcap hkcap2 [D] [.slice a dl dcap] 1 1 w.heap.size 0 W (fun j hj => (HB.out.cell (p := ⟨kb, ko + j, none⟩) (World.block_lt_of_cell? _ _ (HKC.out j hj))).trans (HKC.out j hj)) (by have := HB.out.size; omega) HPP (by simp; omega) (HT.out.later HB.out (Nat.le_refl _)) R (by rw [show [D].flatten = D by simp]; exact HR)).mono ?_
  rintro e w1 ⟨rfl, hb1⟩
  have B1 : Hid (Below w.heap.size w w1) := HB.out.trans (hb1.mono HB.out.size)
  have HN1 : Hid ((w1.alloc (.cells (Iv .u8 (zeroL 32)) 23)).heap[w1.heap.size]? = some (.cells (Iv .u8 (zeroL 32)) 23)) := heap_alloc_new _ _
  clear hb1 HB HPP HV HKC
  go_wp2_with (refine wpList_put_row rfl 23 _ _ rfl w1.heap.size (Iv .u8 R) rfl rfl _ _ HN1.out (hi32.out R hRl) (hz32.out R hRl) (Iv_one _ _) ?_)
  intro w2 hP2
  have B2 : Hid (Below w.heap.size w w2) := hP2.below _ _ (B1.out.alloc B1.out.size _) B1.out.size
  have A1 : Hid (w2.heap[w1.heap.size]? = some (.cells (Iv .u8 R) 23)) := hP2.here
  have hs2 : w1.heap.size < w2.heap.size := by rw [hP2.size]; simp
  have hg1 := B1.out.size
  obtain ⟨gr, hgr⟩ : ∃ x, x = w1.heap.size := ⟨_, rfl⟩
  rw [← hgr] at A1 hs2 hg1 ⊢
  clear hP2 HN1 B1 hgr
  go_wp2_with fail
  obtain ⟨W3, hW3, g0, g1, g2, hs3, hB3⟩ := alloc3 w2 (.cells (Iv .u8 (zeroL (32 * n))) 23) (.cells #[.int .u8 1] 5) (.cells #[.slice (some ⟨w2.heap.size + 1, 0, none⟩) 1 1] 22)
  rw [hW3]
  clear hW3
  have B3 : Hid (Below w.heap.size w W3) := B2.out.trans (hB3.mono B2.out.size)
  have C1 : Hid _ := (hB3.block gr (by omega)).trans A1.out
  have hg2 := B2.out.size
  obtain ⟨gk, hgk⟩ : ∃ x, x = w2.heap.size := ⟨_, rfl⟩
  rw [← hgk] at g0 g1 g2 hs3 hs2 hg2 ⊢
  have G0 : Hid _ := g0
  have HPP : Parts W3 (gk + 1 + 1) 0 1 [.slice (some ⟨gk + 1, 0, none⟩) 1 1] [[1]] := Parts.row1 g2 (partOk_row (zs := [1]) g1 (by intro i; match i with | 0 => exact ⟨by decide, by decide⟩ | i + 1 => simp) (by decide))
  clear hgk g0 g1 g2 hB3 B2 A1
  refine (hmacOf_any R 32 hRl hRb (by decide) gr 0 32 (Nat.le_refl _) (by decide) [[1]] _ 1 1 (gk + 1 + 1) 0 W3 (fun j hj => by rw [Nat.zero_add]; exact RowAt.cell (show RowAt W3 _ .u8 R _ from C1.out) j (by omega)) (by omega) HPP (by simp) (HT.out.later B3.out (Nat.le_refl _)) (kdfK R 0) (fun x hx => by rw [← hx]; rfl)).mono ?_
  rintro e w4 ⟨rfl, hb4⟩
  have B4 : Hid (Below w.heap.size w w4) := B3.out.trans (hb4.mono B3.out.size)
  have D0 : Hid (w4.heap[gk]? = some (.cells ((kdfRow R n 0).map (Value.int .u8)).toArray 23)) := (hb4.block gk (by omega)).trans G0.out
  have D1 : Hid _ := (hb4.block gr (by omega)).trans C1.out
  have hs4 : gk < w4.heap.size := by have := hb4.size; omega
  clear hb4 HPP B3 C1 G0
  have hiK : Hid (∀ k, (Tryd.prog.info? 23).map (·.size) = some ((kdfK R k).map (Value.int .u8)).length) := fun k => by rw [List.length_map, kdfK_length]; exact infoBB32
  have hfK : Hid (∀ k, k < n → 32 * k + ((kdfK R k).map (Value.int .u8)).length ≤ ((kdfRow R n k).map (Value.int .u8)).length) := fun k hk => by rw [List.length_map, kdfK_length, List.length_map, kdfRow_length R n k (by omega)]; omega
  have hp0 : (0 < n) = True := by simp; omega
  go_wp2_with (refine wpList_put_part rfl 23 _ _ rfl gk 0 ((kdfK R 0).map (Value.int .u8)) rfl rfl ((kdfRow R n 0).map (Value.int .u8)) 23 D0.out ((kdfRow R n 1).map (Value.int .u8)) (hiK.out 0) (hfK.out 0 (by omega)) (by simp [Value.oneCell']) (kdfRow_putV R n 0 (by omega)) ?_)
  intro w5 hP5
  have B5 : Hid (Below w.heap.size w w5) := hP5.below _ _ B4.out (by omega)
  have E0 : Hid (w5.heap[gk]? = some (.cells (Iv .u8 (kdfRow R n 1)) 23)) := hP5.here
  have E1 : Hid (w5.heap[gr]? = some (.cells (Iv .u8 R) 23)) := (hP5.far gr (by omega)).trans D1.out
  have hs5 : gk < w5.heap.size := by rw [hP5.size]; exact hs4
  clear hP5 B4 D0 D1
  go_wp2_with fail
  go_loopw [9] (fun i wr => ∃ k : Nat, 1 ≤ k ∧ k ≤ n ∧ i = .int .i64 k ∧ Below w.heap.size w wr ∧ wr.heap[gr]? = some (.cells (Iv .u8 R) 23) ∧ wr.heap[gk]? = some (.cells (Iv .u8 (kdfRow R n k)) 23)) (fun i _ => 3 - (intOf i).toNat)
  case atStart => exact ⟨1, Nat.le_refl _, hn1, rfl, B5.out, E1.out, E0.out⟩
  case round =>
    obtain ⟨k, hk1, hk2, rfl, hbr, hr1, hr0⟩ := hrel
    clear B5 E0 E1
    by_cases hlt : k < n
    · have hc : (k = 1 ∧ n = 2) ∨ (k = 1 ∧ n = 3) ∨ (k = 2 ∧ n = 3) := by omega
      rcases hc with ⟨rfl, rfl⟩ | ⟨rfl, rfl⟩ | ⟨rfl, rfl⟩
      · have RB : Hid _ := hbr
        have R1 : Hid _ := hr1
        have R0 : Hid (wr.heap[gk]? = some (.cells ((kdfRow R 2 1).map (Value.int .u8)).toArray 23)) := hr0
        have hsr : gk < wr.heap.size := (Array.getElem?_eq_some_iff.1 hr0).1
        clear hbr hr1 hr0
        go_wp2_with fail
        have S0 : ∃ x : Bel wr.heap.size wr, wr.drew = x.w := ⟨⟨wr.drew, below_drews (Below.refl _ _) 1⟩, rfl⟩
        refine wp_region_late2 11 15 (fun w' => ∃ x : Bel wr.heap.size wr, w' = x.w) [(.held, [0, 1, 2, 3, 4, 5, 6, 7, 8, 9, 10]), (.tail, [11]), (.tail, [12]), (.tail, [13]), (.tail, [14]), (.last, [15])] mixedB (by kernel_rfl) S0 ?_
        simp only [wpRuns2, opsAt_cons, opsAt_nil, nthOp_zero, nthOp_succ, List.cons_append, List.nil_append]
        refine quietV rfl (.slice (some ⟨gk, 0, none⟩) 2 2) (fun W' => by kernel_rfl) ?_
        simp only [Act.put, List.setIfInBounds_toArray, List.set_cons_succ, List.set_cons_zero]
        refine quietV rfl (.int .i64 ((1 : Nat) : Int)) (fun W' => by kernel_rfl) ?_
        simp only [Act.put, List.setIfInBounds_toArray, List.set_cons_succ, List.set_cons_zero]
        refine quietV rfl (.slice (some ⟨gr, 0, none⟩) 32 32) (fun W' => by kernel_rfl) ?_
        simp only [Act.put, List.setIfInBounds_toArray, List.set_cons_succ, List.set_cons_zero]
        refine quietV rfl (.slice (some ⟨gk, 0, none⟩) 2 2) (fun W' => by kernel_rfl) ?_
        simp only [Act.put, List.setIfInBounds_toArray, List.set_cons_succ, List.set_cons_zero]
        refine quietV rfl (.int .i64 ((1 : Nat) : Int)) (fun W' => by kernel_rfl) ?_
        simp only [Act.put, List.setIfInBounds_toArray, List.set_cons_succ, List.set_cons_zero]
        refine quietV rfl (.int .i64 0) (fun W' => by kernel_rfl) ?_
        simp only [Act.put, List.setIfInBounds_toArray, List.set_cons_succ, List.set_cons_zero]
        refine quietV rfl (.pointer (some ⟨gk, 0, none⟩)) (fun W' => by kernel_rfl) ?_
        simp only [Act.put, List.setIfInBounds_toArray, List.set_cons_succ, List.set_cons_zero]
        refine quietV rfl (.slice (some ⟨gk, 0, none⟩) 32 32) (fun W' => by kernel_rfl) ?_
        simp only [Act.put, List.setIfInBounds_toArray, List.set_cons_succ, List.set_cons_zero]
        refine quietV rfl (.int .i64 ((1 : Nat) : Int)) (fun W' => by kernel_rfl) ?_
        simp only [Act.put, List.setIfInBounds_toArray, List.set_cons_succ, List.set_cons_zero]
        refine quietV rfl (.int .i64 2) (fun W' => by kernel_rfl) ?_
        simp only [Act.put, List.setIfInBounds_toArray, List.set_cons_succ, List.set_cons_zero]
        refine quietV rfl (.int .u8 2) (fun W' => by kernel_rfl) ?_
        simp only [Act.put, List.setIfInBounds_toArray, List.set_cons_succ, List.set_cons_zero]
        refine wpQuiet_nil ?_
        go_wp2_with fail
        refine ⟨⟨⟨_, below_drews ((Below.refl _ _).alloc (Nat.le_refl _) _) 1⟩, rfl⟩, ?_⟩
        go_wp2_with fail
        refine ⟨⟨⟨_, below_drews (((Below.refl _ _).alloc (Nat.le_refl _) _).alloc (by simp) _) 1⟩, rfl⟩, ?_⟩
        go_wp2_with fail
        have HP2 : Parts ((wr.drew.alloc (.cells #[.int .u8 2] 5)).alloc (.cells #[.slice (some ⟨gk, 0, none⟩) 32 32, .slice (some ⟨wr.heap.size, 0, none⟩) 1 1] 22)) (wr.drew.alloc (.cells #[.int .u8 2] 5)).heap.size 0 2 [.slice (some ⟨gk, 0, none⟩) 32 32, .slice (some ⟨wr.heap.size, 0, none⟩) 1 1] [kdfK R 0, [2]] :=
          Parts.two (PartOk.later (kdf_partOk (k := 0) (show wr.drew.heap[gk]? = _ from R0.out) (by decide)) ((Below.refl wr.drew.heap.size wr.drew).alloc (Nat.le_refl _) _) (Nat.le_refl _)) (partOk_row (zs := [2]) (heap_alloc_new wr.drew _) (by intro i; match i with | 0 => exact ⟨by decide, by decide⟩ | i + 1 => simp) (by decide))
        rw [World.size_alloc] at HP2
        obtain ⟨V, hV⟩ : ∃ x, x = ((wr.alloc (.cells #[.int .u8 2] 5)).alloc (.cells #[.slice (some ⟨gk, 0, none⟩) 32 32, .slice (some ⟨wr.heap.size, 0, none⟩) 1 1] 22)).drew := ⟨_, rfl⟩
        have HP3 : Hid (Parts V (wr.heap.size + 1) 0 2 [.slice (some ⟨gk, 0, none⟩) 32 32, .slice (some ⟨wr.heap.size, 0, none⟩) 1 1] [kdfK R 0, [2]]) := by show Parts _ _ _ _ _ _; rw [hV]; exact HP2
        have VB : Hid (Below wr.heap.size wr V) := by show Below _ _ _; rw [hV]; exact below_drews (((Below.refl _ _).alloc (Nat.le_refl _) _).alloc (by simp) _) 1
        rw [← hV]
        clear hV HP2
        have V0 : Hid _ := (VB.out.block gk hsr).trans R0.out
        have V1 : Hid (V.heap[gr]? = some (.cells (Iv .u8 R) 23)) := (VB.out.block gr (by omega)).trans R1.out
        have VW : Hid (Below w.heap.size w V) := RB.out.trans (VB.out.mono RB.out.size)
        have hsV : gk < V.heap.size := by have := VB.out.size; omega
        have HVB : Hid _ := VB.out
        clear VB RB R1 R0 S0
        refine (hmacOf_any R 32 hRl hRb (by decide) gr 0 32 (Nat.le_refl _) (by decide) [kdfK R 0, [2]] _ 2 2 (wr.heap.size + 1) 0 V (fun j hj => by rw [Nat.zero_add]; exact RowAt.cell (show RowAt V _ .u8 R _ from V1.out) j (by omega)) (by omega) HP3.out (by simp [kdfK_length]) (HT.out.later VW.out (Nat.le_refl _)) (kdfK R 1) (fun x hx => by rw [← hx]; simp [kdfK])).mono ?_
        rintro e w6 ⟨rfl, hb6⟩
        have X0 : Hid _ := (hb6.block gk hsV).trans V0.out
        have X1 : Hid _ := (hb6.block gr (by omega)).trans V1.out
        have XB : Hid (Below w.heap.size w w6) := VW.out.trans (hb6.mono VW.out.size)
        have HBB : Hid (Below wr.heap.size wr w6) := HVB.out.trans (hb6.mono HVB.out.size)
        clear hb6 HP3 V0 V1 VW HVB
        go_wp2_with fail
        refine ⟨⟨⟨_, HBB.out⟩, rfl⟩, ?_⟩
        go_wp2_with fail
        refine ⟨⟨⟨_, HBB.out⟩, rfl⟩, ?_⟩
        refine wpList_put_part rfl 23 (.tmp 47) (.tmp 46) rfl gk 32 ((kdfK R 1).map (Value.int .u8)) rfl rfl ((kdfRow R 2 1).map (Value.int .u8)) 23 X0.out ((kdfRow R 2 2).map (Value.int .u8)) (hiK.out 1) (hfK.out 1 (by decide)) (by simp [Value.oneCell']) (kdfRow_putV R 2 1 (by decide)) ?_
        intro w7 hP7
        simp only [Act.put]
        have Y0 : Hid (w7.heap[gk]? = some (.cells (Iv .u8 (kdfRow R 2 2)) 23)) := hP7.here
        have Y1 : Hid (w7.heap[gr]? = some (.cells (Iv .u8 R) 23)) := (hP7.far gr (by omega)).trans X1.out
        have YB : Hid (Below w.heap.size w w7) := hP7.below _ _ XB.out (by omega)
        clear hP7 X0 X1 XB HBB
        go_wp2_with fail
        refine last_normal ?_
        go_wp2_with fail
        go_roundw
        case rel => exact ⟨_, _, _, _, _, _, _, _, _, _, _, _, _, _, _, _, _, _, _, _, _, ⟨2, by decide, by decide, rfl, YB.out, Y1.out, Y0.out⟩, rfl⟩
        case measure => simp [intOf]
      · have RB : Hid _ := hbr
        have R1 : Hid _ := hr1
        have R0 : Hid (wr.heap[gk]? = some (.cells ((kdfRow R 3 1).map (Value.int .u8)).toArray 23)) := hr0
        have hsr : gk < wr.heap.size := (Array.getElem?_eq_some_iff.1 hr0).1
        clear hbr hr1 hr0
        go_wp2_with fail
        have S0 : ∃ x : Bel wr.heap.size wr, wr.drew = x.w := ⟨⟨wr.drew, below_drews (Below.refl _ _) 1⟩, rfl⟩
        refine wp_region_late2 11 15 (fun w' => ∃ x : Bel wr.heap.size wr, w' = x.w) [(.held, [0, 1, 2, 3, 4, 5, 6, 7, 8, 9, 10]), (.tail, [11]), (.tail, [12]), (.tail, [13]), (.tail, [14]), (.last, [15])] mixedB (by kernel_rfl) S0 ?_
        simp only [wpRuns2, opsAt_cons, opsAt_nil, nthOp_zero, nthOp_succ, List.cons_append, List.nil_append]
        refine quietV rfl (.slice (some ⟨gk, 0, none⟩) 3 3) (fun W' => by kernel_rfl) ?_
        simp only [Act.put, List.setIfInBounds_toArray, List.set_cons_succ, List.set_cons_zero]
        refine quietV rfl (.int .i64 ((1 : Nat) : Int)) (fun W' => by kernel_rfl) ?_
        simp only [Act.put, List.setIfInBounds_toArray, List.set_cons_succ, List.set_cons_zero]
        refine quietV rfl (.slice (some ⟨gr, 0, none⟩) 32 32) (fun W' => by kernel_rfl) ?_
        simp only [Act.put, List.setIfInBounds_toArray, List.set_cons_succ, List.set_cons_zero]
        refine quietV rfl (.slice (some ⟨gk, 0, none⟩) 3 3) (fun W' => by kernel_rfl) ?_
        simp only [Act.put, List.setIfInBounds_toArray, List.set_cons_succ, List.set_cons_zero]
        refine quietV rfl (.int .i64 ((1 : Nat) : Int)) (fun W' => by kernel_rfl) ?_
        simp only [Act.put, List.setIfInBounds_toArray, List.set_cons_succ, List.set_cons_zero]
        refine quietV rfl (.int .i64 0) (fun W' => by kernel_rfl) ?_
        simp only [Act.put, List.setIfInBounds_toArray, List.set_cons_succ, List.set_cons_zero]
        refine quietV rfl (.pointer (some ⟨gk, 0, none⟩)) (fun W' => by kernel_rfl) ?_
        simp only [Act.put, List.setIfInBounds_toArray, List.set_cons_succ, List.set_cons_zero]
        refine quietV rfl (.slice (some ⟨gk, 0, none⟩) 32 32) (fun W' => by kernel_rfl) ?_
        simp only [Act.put, List.setIfInBounds_toArray, List.set_cons_succ, List.set_cons_zero]
        refine quietV rfl (.int .i64 ((1 : Nat) : Int)) (fun W' => by kernel_rfl) ?_
        simp only [Act.put, List.setIfInBounds_toArray, List.set_cons_succ, List.set_cons_zero]
        refine quietV rfl (.int .i64 2) (fun W' => by kernel_rfl) ?_
        simp only [Act.put, List.setIfInBounds_toArray, List.set_cons_succ, List.set_cons_zero]
        refine quietV rfl (.int .u8 2) (fun W' => by kernel_rfl) ?_
        simp only [Act.put, List.setIfInBounds_toArray, List.set_cons_succ, List.set_cons_zero]
        refine wpQuiet_nil ?_
        go_wp2_with fail
        refine ⟨⟨⟨_, below_drews ((Below.refl _ _).alloc (Nat.le_refl _) _) 1⟩, rfl⟩, ?_⟩
        go_wp2_with fail
        refine ⟨⟨⟨_, below_drews (((Below.refl _ _).alloc (Nat.le_refl _) _).alloc (by simp) _) 1⟩, rfl⟩, ?_⟩
        go_wp2_with fail
        have HP2 : Parts ((wr.drew.alloc (.cells #[.int .u8 2] 5)).alloc (.cells #[.slice (some ⟨gk, 0, none⟩) 32 32, .slice (some ⟨wr.heap.size, 0, none⟩) 1 1] 22)) (wr.drew.alloc (.cells #[.int .u8 2] 5)).heap.size 0 2 [.slice (some ⟨gk, 0, none⟩) 32 32, .slice (some ⟨wr.heap.size, 0, none⟩) 1 1] [kdfK R 0, [2]] :=
          Parts.two (PartOk.later (kdf_partOk (k := 0) (show wr.drew.heap[gk]? = _ from R0.out) (by decide)) ((Below.refl wr.drew.heap.size wr.drew).alloc (Nat.le_refl _) _) (Nat.le_refl _)) (partOk_row (zs := [2]) (heap_alloc_new wr.drew _) (by intro i; match i with | 0 => exact ⟨by decide, by decide⟩ | i + 1 => simp) (by decide))
        rw [World.size_alloc] at HP2
        obtain ⟨V, hV⟩ : ∃ x, x = ((wr.alloc (.cells #[.int .u8 2] 5)).alloc (.cells #[.slice (some ⟨gk, 0, none⟩) 32 32, .slice (some ⟨wr.heap.size, 0, none⟩) 1 1] 22)).drew := ⟨_, rfl⟩
        have HP3 : Hid (Parts V (wr.heap.size + 1) 0 2 [.slice (some ⟨gk, 0, none⟩) 32 32, .slice (some ⟨wr.heap.size, 0, none⟩) 1 1] [kdfK R 0, [2]]) := by show Parts _ _ _ _ _ _; rw [hV]; exact HP2
        have VB : Hid (Below wr.heap.size wr V) := by show Below _ _ _; rw [hV]; exact below_drews (((Below.refl _ _).alloc (Nat.le_refl _) _).alloc (by simp) _) 1
        rw [← hV]
        clear hV HP2
        have V0 : Hid _ := (VB.out.block gk hsr).trans R0.out
        have V1 : Hid (V.heap[gr]? = some (.cells (Iv .u8 R) 23)) := (VB.out.block gr (by omega)).trans R1.out
        have VW : Hid (Below w.heap.size w V) := RB.out.trans (VB.out.mono RB.out.size)
        have hsV : gk < V.heap.size := by have := VB.out.size; omega
        have HVB : Hid _ := VB.out
        clear VB RB R1 R0 S0
        refine (hmacOf_any R 32 hRl hRb (by decide) gr 0 32 (Nat.le_refl _) (by decide) [kdfK R 0, [2]] _ 2 2 (wr.heap.size + 1) 0 V (fun j hj => by rw [Nat.zero_add]; exact RowAt.cell (show RowAt V _ .u8 R _ from V1.out) j (by omega)) (by omega) HP3.out (by simp [kdfK_length]) (HT.out.later VW.out (Nat.le_refl _)) (kdfK R 1) (fun x hx => by rw [← hx]; simp [kdfK])).mono ?_
        rintro e w6 ⟨rfl, hb6⟩
        have X0 : Hid _ := (hb6.block gk hsV).trans V0.out
        have X1 : Hid _ := (hb6.block gr (by omega)).trans V1.out
        have XB : Hid (Below w.heap.size w w6) := VW.out.trans (hb6.mono VW.out.size)
        have HBB : Hid (Below wr.heap.size wr w6) := HVB.out.trans (hb6.mono HVB.out.size)
        clear hb6 HP3 V0 V1 VW HVB
        go_wp2_with fail
        refine ⟨⟨⟨_, HBB.out⟩, rfl⟩, ?_⟩
        go_wp2_with fail
        refine ⟨⟨⟨_, HBB.out⟩, rfl⟩, ?_⟩
        refine wpList_put_part rfl 23 (.tmp 47) (.tmp 46) rfl gk 32 ((kdfK R 1).map (Value.int .u8)) rfl rfl ((kdfRow R 3 1).map (Value.int .u8)) 23 X0.out ((kdfRow R 3 2).map (Value.int .u8)) (hiK.out 1) (hfK.out 1 (by decide)) (by simp [Value.oneCell']) (kdfRow_putV R 3 1 (by decide)) ?_
        intro w7 hP7
        simp only [Act.put]
        have Y0 : Hid (w7.heap[gk]? = some (.cells (Iv .u8 (kdfRow R 3 2)) 23)) := hP7.here
        have Y1 : Hid (w7.heap[gr]? = some (.cells (Iv .u8 R) 23)) := (hP7.far gr (by omega)).trans X1.out
        have YB : Hid (Below w.heap.size w w7) := hP7.below _ _ XB.out (by omega)
        clear hP7 X0 X1 XB HBB
        go_wp2_with fail
        refine last_normal ?_
        go_wp2_with fail
        go_roundw
        case rel => exact ⟨_, _, _, _, _, _, _, _, _, _, _, _, _, _, _, _, _, _, _, _, _, ⟨2, by decide, by decide, rfl, YB.out, Y1.out, Y0.out⟩, rfl⟩
        case measure => simp [intOf]
      · have RB : Hid _ := hbr
        have R1 : Hid _ := hr1
        have R0 : Hid (wr.heap[gk]? = some (.cells ((kdfRow R 3 2).map (Value.int .u8)).toArray 23)) := hr0
        have hsr : gk < wr.heap.size := (Array.getElem?_eq_some_iff.1 hr0).1
        clear hbr hr1 hr0
        go_wp2_with fail
        have S0 : ∃ x : Bel wr.heap.size wr, wr.drew = x.w := ⟨⟨wr.drew, below_drews (Below.refl _ _) 1⟩, rfl⟩
        refine wp_region_late2 11 15 (fun w' => ∃ x : Bel wr.heap.size wr, w' = x.w) [(.held, [0, 1, 2, 3, 4, 5, 6, 7, 8, 9, 10]), (.tail, [11]), (.tail, [12]), (.tail, [13]), (.tail, [14]), (.last, [15])] mixedB (by kernel_rfl) S0 ?_
        simp only [wpRuns2, opsAt_cons, opsAt_nil, nthOp_zero, nthOp_succ, List.cons_append, List.nil_append]
        refine quietV rfl (.slice (some ⟨gk, 0, none⟩) 3 3) (fun W' => by kernel_rfl) ?_
        simp only [Act.put, List.setIfInBounds_toArray, List.set_cons_succ, List.set_cons_zero]
        refine quietV rfl (.int .i64 ((2 : Nat) : Int)) (fun W' => by kernel_rfl) ?_
        simp only [Act.put, List.setIfInBounds_toArray, List.set_cons_succ, List.set_cons_zero]
        refine quietV rfl (.slice (some ⟨gr, 0, none⟩) 32 32) (fun W' => by kernel_rfl) ?_
        simp only [Act.put, List.setIfInBounds_toArray, List.set_cons_succ, List.set_cons_zero]
        refine quietV rfl (.slice (some ⟨gk, 0, none⟩) 3 3) (fun W' => by kernel_rfl) ?_
        simp only [Act.put, List.setIfInBounds_toArray, List.set_cons_succ, List.set_cons_zero]
        refine quietV rfl (.int .i64 ((2 : Nat) : Int)) (fun W' => by kernel_rfl) ?_
        simp only [Act.put, List.setIfInBounds_toArray, List.set_cons_succ, List.set_cons_zero]
        refine quietV rfl (.int .i64 1) (fun W' => by kernel_rfl) ?_
        simp only [Act.put, List.setIfInBounds_toArray, List.set_cons_succ, List.set_cons_zero]
        refine quietV rfl (.pointer (some ⟨gk, 32, none⟩)) (fun W' => by kernel_rfl) ?_
        simp only [Act.put, List.setIfInBounds_toArray, List.set_cons_succ, List.set_cons_zero]
        refine quietV rfl (.slice (some ⟨gk, 32, none⟩) 32 32) (fun W' => by kernel_rfl) ?_
        simp only [Act.put, List.setIfInBounds_toArray, List.set_cons_succ, List.set_cons_zero]
        refine quietV rfl (.int .i64 ((2 : Nat) : Int)) (fun W' => by kernel_rfl) ?_
        simp only [Act.put, List.setIfInBounds_toArray, List.set_cons_succ, List.set_cons_zero]
        refine quietV rfl (.int .i64 3) (fun W' => by kernel_rfl) ?_
        simp only [Act.put, List.setIfInBounds_toArray, List.set_cons_succ, List.set_cons_zero]
        refine quietV rfl (.int .u8 3) (fun W' => by kernel_rfl) ?_
        simp only [Act.put, List.setIfInBounds_toArray, List.set_cons_succ, List.set_cons_zero]
        refine wpQuiet_nil ?_
        go_wp2_with fail
        refine ⟨⟨⟨_, below_drews ((Below.refl _ _).alloc (Nat.le_refl _) _) 1⟩, rfl⟩, ?_⟩
        go_wp2_with fail
        refine ⟨⟨⟨_, below_drews (((Below.refl _ _).alloc (Nat.le_refl _) _).alloc (by simp) _) 1⟩, rfl⟩, ?_⟩
        go_wp2_with fail
        have HP2 : Parts ((wr.drew.alloc (.cells #[.int .u8 3] 5)).alloc (.cells #[.slice (some ⟨gk, 32, none⟩) 32 32, .slice (some ⟨wr.heap.size, 0, none⟩) 1 1] 22)) (wr.drew.alloc (.cells #[.int .u8 3] 5)).heap.size 0 2 [.slice (some ⟨gk, 32, none⟩) 32 32, .slice (some ⟨wr.heap.size, 0, none⟩) 1 1] [kdfK R 1, [3]] :=
          Parts.two (PartOk.later (kdf_partOk (k := 1) (show wr.drew.heap[gk]? = _ from R0.out) (by decide)) ((Below.refl wr.drew.heap.size wr.drew).alloc (Nat.le_refl _) _) (Nat.le_refl _)) (partOk_row (zs := [3]) (heap_alloc_new wr.drew _) (by intro i; match i with | 0 => exact ⟨by decide, by decide⟩ | i + 1 => simp) (by decide))
        rw [World.size_alloc] at HP2
        obtain ⟨V, hV⟩ : ∃ x, x = ((wr.alloc (.cells #[.int .u8 3] 5)).alloc (.cells #[.slice (some ⟨gk, 32, none⟩) 32 32, .slice (some ⟨wr.heap.size, 0, none⟩) 1 1] 22)).drew := ⟨_, rfl⟩
        have HP3 : Hid (Parts V (wr.heap.size + 1) 0 2 [.slice (some ⟨gk, 32, none⟩) 32 32, .slice (some ⟨wr.heap.size, 0, none⟩) 1 1] [kdfK R 1, [3]]) := by show Parts _ _ _ _ _ _; rw [hV]; exact HP2
        have VB : Hid (Below wr.heap.size wr V) := by show Below _ _ _; rw [hV]; exact below_drews (((Below.refl _ _).alloc (Nat.le_refl _) _).alloc (by simp) _) 1
        rw [← hV]
        clear hV HP2
        have V0 : Hid _ := (VB.out.block gk hsr).trans R0.out
        have V1 : Hid (V.heap[gr]? = some (.cells (Iv .u8 R) 23)) := (VB.out.block gr (by omega)).trans R1.out
        have VW : Hid (Below w.heap.size w V) := RB.out.trans (VB.out.mono RB.out.size)
        have hsV : gk < V.heap.size := by have := VB.out.size; omega
        have HVB : Hid _ := VB.out
        clear VB RB R1 R0 S0
        refine (hmacOf_any R 32 hRl hRb (by decide) gr 0 32 (Nat.le_refl _) (by decide) [kdfK R 1, [3]] _ 2 2 (wr.heap.size + 1) 0 V (fun j hj => by rw [Nat.zero_add]; exact RowAt.cell (show RowAt V _ .u8 R _ from V1.out) j (by omega)) (by omega) HP3.out (by simp [kdfK_length]) (HT.out.later VW.out (Nat.le_refl _)) (kdfK R 2) (fun x hx => by rw [← hx]; simp [kdfK])).mono ?_
        rintro e w6 ⟨rfl, hb6⟩
        have X0 : Hid _ := (hb6.block gk hsV).trans V0.out
        have X1 : Hid _ := (hb6.block gr (by omega)).trans V1.out
        have XB : Hid (Below w.heap.size w w6) := VW.out.trans (hb6.mono VW.out.size)
        have HBB : Hid (Below wr.heap.size wr w6) := HVB.out.trans (hb6.mono HVB.out.size)
        clear hb6 HP3 V0 V1 VW HVB
        go_wp2_with fail
        refine ⟨⟨⟨_, HBB.out⟩, rfl⟩, ?_⟩
        go_wp2_with fail
        refine ⟨⟨⟨_, HBB.out⟩, rfl⟩, ?_⟩
        refine wpList_put_part rfl 23 (.tmp 47) (.tmp 46) rfl gk 64 ((kdfK R 2).map (Value.int .u8)) rfl rfl ((kdfRow R 3 2).map (Value.int .u8)) 23 X0.out ((kdfRow R 3 3).map (Value.int .u8)) (hiK.out 2) (hfK.out 2 (by decide)) (by simp [Value.oneCell']) (kdfRow_putV R 3 2 (by decide)) ?_
        intro w7 hP7
        simp only [Act.put]
        have Y0 : Hid (w7.heap[gk]? = some (.cells (Iv .u8 (kdfRow R 3 3)) 23)) := hP7.here
        have Y1 : Hid (w7.heap[gr]? = some (.cells (Iv .u8 R) 23)) := (hP7.far gr (by omega)).trans X1.out
        have YB : Hid (Below w.heap.size w w7) := hP7.below _ _ XB.out (by omega)
        clear hP7 X0 X1 XB HBB
        go_wp2_with fail
        refine last_normal ?_
        go_wp2_with fail
        go_roundw
        case rel => exact ⟨_, _, _, _, _, _, _, _, _, _, _, _, _, _, _, _, _, _, _, _, _, ⟨3, by decide, by decide, rfl, YB.out, Y1.out, Y0.out⟩, rfl⟩
        case measure => simp [intOf]
    · have hkn : k = n := by omega
      subst hkn
      have RB : Hid _ := hbr
      have R0 : Hid _ := hr0
      clear hbr hr1 hr0
      go_wp2
      go_ret
      exact ⟨gk, rfl, by omega, R0.out, RB.out⟩
end Go.Proofs.YtgpjdbkdnojbhaaDoor
namespace Go.Proofs.YtgpjdbkdnojbhaaDoor
open Go.RowKit
set_option linter.unusedVariables false
/-- A slice of arrays of 32 bytes that the function made: its bytes one behind the other. -/
def OutOk (w : World) (B : Nat) (o : Value) (xs : List Int) (k : Nat) : Prop :=
  (k = 0 ∧ xs = [] ∧ ∃ g, o = .slice (some ⟨g, 0, none⟩) 0 0) ∨ (1 ≤ k ∧ w.ownsRow B 23 32 o k (xs.map (Value.int .u8)))
theorem OutOk.later {w w' : World} {B : Nat} {o : Value} {xs : List Int} {k : Nat} (h : OutOk w B o xs k) (hb : Below w.heap.size w w') : OutOk w' B o xs k := by
  rcases h with h | ⟨h0, h1, h2⟩
  · exact .inl h
  · refine .inr ⟨h0, h1, h2.imp id ?_⟩
    rintro ⟨g, cap, cur, e1, e2, e3, e4⟩
    exact ⟨g, cap, cur, e1, e2, (hb.block g (Array.getElem?_eq_some_iff.1 e3).1).trans e3, e4⟩
theorem OutOk.lt {w : World} {B : Nat} {o : Value} {xs : List Int} {k : Nat} (h : OutOk w B o xs k) (hk : 1 ≤ k) {g : Nat} (e : some g = o.ownBlock) : g < w.heap.size := by
  rcases h with ⟨h, _⟩ | ⟨_, h⟩
  · omega
  · exact (h.lt g e.symm).2
theorem wpList_append_any {P : Program} {ops : Array Oper} {rest : List Oper} {o : Oper} {a : Act} {w : World} {Q : Exit → Act → World → Prop} (hgd : o.guard = none) (s x : Operand) (t : TypeId)
    (ho : o.op = .call { callee := .builtin .append, args := #[s, x], argTypes := #[t, t] }) (v u : Value) (hs : a.eval s = v) (hx : a.eval x = u) (v' : Value) (w' : World)
    (hr : (Builtin.append_ #[t, t] o.type #[v, u]).run P w = .ok v' w') (h : wpList P ops Q rest (a.put o.dst v') w') : wpList P ops Q (o :: rest) a w :=
  wpList_plain hgd fun _ hK => by
    unfold Oper.wp execOp
    simp only [ho, resolve, invoke, builtin, Sem.run_bind, Sem.run_pure, Result.andThen_ok, List.map_toArray, List.map_cons, List.map_nil, hs, hx, hr]
    exact hK _ _ h
theorem out_append {w : World} {B : Nat} {o : Value} {xs : List Int} {k : Nat} (h : OutOk w B o xs k) (hB : B ≤ w.heap.size) (hk : k ≤ 10) (gt : Nat) (t : List Int) (ht : t.length = 32) (hrow : w.heap[gt]? = some (.cells (Iv .u8 t) 23)) (c : Nat) (ty : TypeId) :
    ∃ v' w', (Builtin.append_ #[33, 33] ty #[o, .slice (some ⟨gt, 0, none⟩) 1 c]).run Tryd.prog w = .ok v' w' ∧ OutOk w' B v' (xs ++ t) (k + 1) ∧ Below B w w' ∧ ∀ j, j < w.heap.size → (1 ≤ k → some j ≠ o.ownBlock) → w'.heap[j]? = w.heap[j]? := by
  obtain ⟨i, hi⟩ := info_of_underlying Tryd.underlying23
  have h2 : (Tryd.prog.info? 23).map (fun i => (i.zero, i.size, i.bytes)) = some (some (.agg (Iv .u8 (zeroL 32))), 32, 32) := by kernel_rfl
  rw [hi] at h2
  simp only [Option.map_some, Option.some.injEq, Prod.mk.injEq] at h2
  obtain ⟨hz, hsz, hby⟩ := h2
  have hzc : (Value.agg (Iv .u8 (zeroL 32))).cells.size = 32 := by show (Iv .u8 (zeroL 32)).size = 32; rw [Iv_size]; rfl
  have hnews : ∀ j u, (t.map (Value.int .u8))[j]? = some u → w.cell? ((⟨gt, 0, none⟩ : Addr).add j) = some u := fun j u hu => by
    have hj : j < t.length := by simpa using (List.getElem?_eq_some_iff.1 hu).1
    have e := RowAt.cell (show RowAt w gt .u8 t _ from hrow) j hj
    have e2 : (⟨gt, 0, none⟩ : Addr).add j = ⟨gt, j, none⟩ := by unfold Addr.add; split <;> simp_all
    rw [e2, e, ← hu]
    simp [List.getD_eq_getElem?_getD, hj]
  rcases h with ⟨rfl, rfl, g, rfl⟩ | ⟨hk1, hown⟩
  · have hr := run_append_grow (P := Tryd.prog) w 33 ty 23 i _ Tryd.underlying33 hi hz ⟨g, 0, none⟩ 0 0 [] (by simp) (fun j v hv => by simp at hv) ⟨gt, 0, none⟩ 1 c (t.map (Value.int .u8)) (by rw [List.length_map, ht, hsz]) hnews (by decide) (by decide) (by rw [hby]; decide)
    refine ⟨_, _, hr, .inr ⟨by decide, by simp [ht], .inr ⟨w.heap.size, _, _, rfl, hB, heap_alloc_new w.drew _, grownCap_ge _ _ _ _, grownCap_le_maxLen _ _ _ _ (by decide), ?_, ?_⟩⟩, ⟨rfl, rfl, rfl, by simp, fun k hk => heap_alloc_old w.drew _ (Nat.lt_of_lt_of_le hk hB)⟩, fun j hj _ => heap_alloc_old w.drew _ hj⟩
    · simp only [Array.size_append, List.size_toArray, size_zeroCells, hzc, List.length_map, ht, List.length_nil]
      have := grownCap_ge w (0 + 1) 0 23
      omega
    · simp only [Array.toList_append, List.nil_append]
      have e : (0 + 1) * 32 = (t.map (Value.int .u8)).length := by rw [List.length_map, ht]
      rw [e]
      exact List.take_left
  · obtain ⟨v', w', hr, ho, hg, _⟩ := run_append_own (P := Tryd.prog) w B 33 ty 23 i _ 32 32 Tryd.underlying33 hi hz hsz hby hzc (by decide) o k _ hown ⟨gt, 0, none⟩ 1 c (t.map (Value.int .u8)) (by rw [List.length_map, ht]) hnews (by simp [Value.oneCell']) (by unfold maxLen; omega) (by omega) hB
    refine ⟨v', w', hr, .inr ⟨by omega, by rw [List.map_append]; exact ho⟩, ⟨hg.os, hg.tape, hg.output, hg.size, fun j hj => hg.block j (Nat.lt_of_lt_of_le hj hB) ?_⟩, fun j hj hne => hg.block j hj (hne hk1)⟩
    intro e
    have := hown.lt j e.symm
    omega
theorem fill32 (t : List Int) (ht : t.length = 32) : Instr.fill (fun i => some (i * 32, 32)) ((Array.range (1 * 32)).map ((Value.agg (Iv .u8 (zeroL 32))).cells[· % (Value.agg (Iv .u8 (zeroL 32))).cells.size]!)) [(0, .agg (Iv .u8 t))] = some (Iv .u8 t) := by
  match t, ht with
  | [a0, a1, a2, a3, a4, a5, a6, a7, a8, a9, a10, a11, a12, a13, a14, a15, a16, a17, a18, a19, a20, a21, a22, a23, a24, a25, a26, a27, a28, a29, a30, a31], _ =>
    show Instr.fill _ _ _ = some _
    kernel_rfl
theorem wpList_build32 {ops : Array Oper} {rest : List Oper} {o : Oper} {a : Act} {w : World} {Q : Exit → Act → World → Prop} (hg : o.guard = none) (x : Operand) (ho : o.op = .buildSlice 33 1 #[(0, x)]) (t : List Int) (ht : t.length = 32) (hx : a.eval x = .agg (Iv .u8 t))
    (h : wpList Tryd.prog ops Q rest (a.put o.dst (.slice (some ⟨w.heap.size, 0, none⟩) 1 1)) (w.alloc (.cells (Iv .u8 t) 23))) : wpList Tryd.prog ops Q (o :: rest) a w := by
  obtain ⟨i, hi⟩ := info_of_underlying Tryd.underlying23
  have h2 : (Tryd.prog.info? 23).map (fun i => (i.zero, i.size, i.bytes)) = some (some (.agg (Iv .u8 (zeroL 32))), 32, 32) := by kernel_rfl
  rw [hi] at h2
  simp only [Option.map_some, Option.some.injEq, Prod.mk.injEq] at h2
  obtain ⟨hz, hsz, hby⟩ := h2
  refine wpList_buildSlice hg 33 23 1 #[(0, x)] ho (Iv .u8 t) i _ Tryd.underlying33 hi hz (by rw [hsz]; decide) (by rw [hsz]; decide) ?_ h
  rw [hsz]
  simp only [List.map_toArray, List.map_cons, List.map_nil, hx]
  exact fill32 t ht
def befL (R : List Int) : Nat → List Int
  | 0 => []
  | k + 1 => kdfK R k
theorem befL_next (R : List Int) (k : Nat) : hmacB R (befL R k ++ [(k : Int) + 1]) = kdfK R k := by
  cases k with
  | zero => rfl
  | succ k =>
    have e : ((k + 1 : Nat) : Int) + 1 = (k : Int) + 2 := by omega
    rw [e]
    rfl
theorem befL_length (R : List Int) (k : Nat) : (befL R k).length ≤ 32 := by
  cases k with
  | zero => exact Nat.zero_le _
  | succ k => exact Nat.le_of_eq (kdfK_length R k)
theorem befL_bytes (R : List Int) (k : Nat) : Bytes (befL R k) := by
  cases k with
  | zero => intro i; simp [befL]
  | succ k => exact kdfK_bytes R k
set_option maxRecDepth 10000 in
set_option maxHeartbeats 2000000 in
theorem specKdf_any (K D : List Int) (kl dl : Nat) (hK : K.length = kl) (hKb : Bytes K) (hkl : kl ≤ 5000000) (kb ko kcap db dO dcap : Nat) (w : World) (hkc : ∀ j, j < kl → w.cell? ⟨kb, ko + j, none⟩ = some (.int .u8 (K.getD j 0))) (hD : D.length = dl) (hdl : dl ≤ 5000000) (hDb : Bytes D) (hdb : db < w.heap.size) (hDr : ∀ j, j < dl → w.cell? ⟨db, dO + j, none⟩ = some (.int .u8 (D.getD j 0))) (n : Nat) (hn1 : 1 ≤ n) (hn2 : n ≤ 3) (R : List Int) (HR : Hid (∀ x, hmacB K D = x → x = R)) :
    Calls Tryd.prog 21 #[.int .i64 n, .slice (some ⟨kb, ko, none⟩) kl kcap, .slice (some ⟨db, dO, none⟩) dl dcap] w fun e w' => ∃ o B, e = .returned o ∧ w.heap.size ≤ B ∧ OutOk w' B o (kdfL R n) n ∧ Below w.heap.size w w' := by
  have hzb := zeroB32
  have HKC : Hid _ := hkc
  have HDR : Hid _ := hDr
  clear hkc hDr
  have h1 : ((n : Int) < 1) = False := by simp; omega
  have h2 : (3 < (n : Int)) = False := by simp; omega
  have hRl : R.length = 32 := by rw [← HR.out _ rfl]; exact hmacB_length _ _
  have hRb : Bytes R := by rw [← HR.out _ rfl]; exact hashB_bytes _
  have hi32 : Hid (∀ X : List Int, X.length = 32 → (Tryd.prog.info? 23).map (·.size) = some (Iv .u8 X).size) := fun X hX => by rw [Iv_size, hX]; exact infoBB32
  have hz32 : Hid (∀ X : List Int, X.length = 32 → (Iv .u8 (zeroL 32)).size = (Iv .u8 X).size) := fun X hX => by rw [Iv_size, Iv_size, hX]; rfl
  go_enter Tryd.func21, Tryd.ntmps21
  go_wp2_with fail
  obtain ⟨W, hW⟩ : ∃ X, X = w.alloc (.cells #[] 23) := ⟨_, rfl⟩
  have HB : Hid (Below w.heap.size w W) := by show Below _ _ _; rw [hW]; exact (Below.refl _ _).alloc (Nat.le_refl _) _
  have hsW : W.heap.size = w.heap.size + 1 := by rw [hW]; simp
  rw [← hW]
  clear hW
  refine (specHmac_any K D kl dl hK hKb hkl kb ko kcap db dO dcap W (fun j hj => (HB.out.cell (p := ⟨kb, ko + j, none⟩) (World.block_lt_of_cell? _ _ (HKC.out j hj))).trans (HKC.out j hj)) hD hdl hDb (by omega) (fun j hj => (HB.out.cell (p := ⟨db, dO + j, none⟩) (World.block_lt_of_cell? _ _ (HDR.out j hj))).trans (HDR.out j hj)) R HR).mono ?_
  rintro e w1 ⟨rfl, hb1⟩
  have B1 : Hid (Below w.heap.size w w1) := HB.out.trans (hb1.mono HB.out.size)
  have HN1 : Hid ((w1.alloc (.cells (Iv .u8 (zeroL 32)) 23)).heap[w1.heap.size]? = some (.cells (Iv .u8 (zeroL 32)) 23)) := heap_alloc_new _ _
  clear hb1 HB HKC HDR
  go_wp2_with (refine wpList_put_row rfl 23 _ _ rfl w1.heap.size (Iv .u8 R) rfl rfl _ _ HN1.out (hi32.out R hRl) (hz32.out R hRl) (Iv_one _ _) ?_)
  intro w2 hP2
  have B2 : Hid (Below w.heap.size w w2) := hP2.below _ _ (B1.out.alloc B1.out.size _) B1.out.size
  have A1 : Hid (w2.heap[w1.heap.size]? = some (.cells (Iv .u8 R) 23)) := hP2.here
  have hs2 : w1.heap.size < w2.heap.size := by rw [hP2.size]; simp
  have hg1 := B1.out.size
  obtain ⟨gr, hgr⟩ : ∃ x, x = w1.heap.size := ⟨_, rfl⟩
  rw [← hgr] at A1 hs2 hg1 ⊢
  clear hP2 HN1 B1 hgr
  have LE : Hid (Lies (w2.alloc (.cells #[] 5)) w2.heap.size 0 []) := ⟨by simp, fun j hj => by simp at hj⟩
  have B3 : Hid (Below w.heap.size w (w2.alloc (.cells #[] 5))) := B2.out.alloc B2.out.size _
  have A3 : Hid ((w2.alloc (.cells #[] 5)).heap[gr]? = some (.cells (Iv .u8 R) 23)) := (heap_alloc_old _ _ hs2).trans A1.out
  go_wp2_with fail
  go_loopw [7, 9, 10] (fun o b i wr => ∃ (k gb c : Nat), k ≤ n ∧ i = .int .i64 ((k : Int) + 1) ∧ Below w.heap.size w wr ∧ wr.heap[gr]? = some (.cells (Iv .u8 R) 23) ∧ OutOk wr (gr + 1) o (kdfL R k) k ∧ b = .slice (some ⟨gb, 0, none⟩) (befL R k).length c ∧ Lies wr gb 0 (befL R k)) (fun _ _ i _ => 4 - (intOf i).toNat)
  case atStart => exact ⟨0, _, _, Nat.zero_le _, rfl, B3.out, A3.out, .inl ⟨rfl, rfl, _, rfl⟩, rfl, LE.out⟩
  case round =>
    obtain ⟨k, gb, c, hk, rfl, hbr, hr1, hout, rfl, hlies⟩ := hrel
    clear B2 A1 LE B3 A3
    have RB : Hid _ := hbr
    have R1 : Hid _ := hr1
    have RO : Hid (OutOk wr (gr + 1) u7 (kdfL R k) k) := hout
    have RL : Hid (Lies wr gb 0 (befL R k)) := hlies
    have hsr : gr < wr.heap.size := (Array.getElem?_eq_some_iff.1 hr1).1
    clear hbr hr1 hout hlies
    obtain ⟨q, hq⟩ : ∃ q : Int, (k : Int) + 1 = q := ⟨_, rfl⟩
    have hq1 : 1 ≤ q := by omega
    have hq2 : q ≤ 4 := by omega
    have hbl := befL_length R k
    have hbb := befL_bytes R k
    have HBN : Hid (hmacB R (befL R k ++ [q]) = kdfK R k) := by show _ = _; rw [← hq]; exact befL_next R k
    obtain ⟨L, hL⟩ : ∃ L, befL R k = L := ⟨_, rfl⟩
    rw [hL] at RL hbl hbb HBN
    rw [hq, hL]
    have HQ : Hid _ := hq
    clear hq hL
    by_cases hlt : k < n
    · have hle : q ≤ (n : Int) := by have := HQ.out; omega
      have hle' : (q ≤ (n : Int)) = True := by simp [hle]
      go_wp2_with (refine wpList_load_row rfl 23 _ rfl gr rfl _ (Iv .u8 R) _ _ R1.out Tryd.underlying23 rfl (hi32.out R hRl) ?_)
      refine (l1Of32_any R hRl wr).mono ?_
      rintro e w3 ⟨x, rfl, hox, hb3⟩
      obtain ⟨gx, cx, rfl, hgx, hlx, hcx1, hcx2⟩ := hox.lies
      have hgx' : gx < w3.heap.size := hlx.1
      have XB : Hid (Below w.heap.size w w3) := RB.out.trans (hb3.mono RB.out.size)
      have X1 : Hid _ := (hb3.block gr hsr).trans R1.out
      have XO : Hid (OutOk w3 (gr + 1) u7 (kdfL R k) k) := RO.out.later hb3
      have XL : Hid (Lies w3 gb 0 L) := RL.out.later hb3 RL.out.1
      have XX : Hid (Lies w3 gx 0 R) := hlx
      have hgb : gb < w3.heap.size := XL.out.1
      have hsx : gr < w3.heap.size := by have := hb3.size; omega
      clear hox hb3 hlx RB R1 RO RL
      go_wp2_with fail
      have HB4 : Below w3.heap.size w3 (w3.alloc (.cells #[.int .u8 q] 5)) := (Below.refl _ _).alloc (Nat.le_refl _) _
      have hq8 : Bytes [q] := by intro i; match i with | 0 => exact ⟨by show 0 ≤ q; omega, by show q ≤ 255; omega⟩ | i + 1 => simp
      obtain ⟨W4, hW4⟩ : ∃ X, X = w3.alloc (.cells #[.int .u8 q] 5) := ⟨_, rfl⟩
      have LQ : Hid (Lies W4 w3.heap.size 0 [q]) := ⟨by rw [hW4]; simp, fun j hj => by
        obtain rfl : j = 0 := by simpa using hj
        have hh : W4.heap[w3.heap.size]? = some (.cells #[.int .u8 q] 5) := by rw [hW4]; exact heap_alloc_new _ _
        rw [cell_of_row _ _ _ _ _ _ hh]; rfl⟩
      rw [← hW4] at HB4 ⊢
      clear hW4
      have YB : Hid (Below w.heap.size w W4) := XB.out.trans (HB4.mono XB.out.size)
      have Y1 : Hid _ := (HB4.block gr hsx).trans X1.out
      have YO : Hid (OutOk W4 (gr + 1) u7 (kdfL R k) k) := XO.out.later HB4
      have YL : Hid (Lies W4 gb 0 L) := XL.out.later HB4 hgb
      have YX : Hid (Lies W4 gx 0 R) := XX.out.later HB4 hgx'
      have hs4 := HB4.size
      clear HB4 XB X1 XO XL XX
      refine (l1Join_any gb 0 c w3.heap.size 0 1 L [q] L.length 1 rfl rfl (by omega) (by simp) W4 YL.out LQ.out).mono ?_
      rintro e w5 ⟨x, rfl, hoy, hb5⟩
      obtain ⟨gy, cy, rfl, hgy, hly, hcy1, hcy2⟩ := hoy.lies
      have hll : (L ++ [q]).length = L.length + 1 := by simp
      rw [hll]
      have ZB : Hid (Below w.heap.size w w5) := YB.out.trans (hb5.mono YB.out.size)
      have Z1 : Hid _ := (hb5.block gr (by omega)).trans Y1.out
      have ZO : Hid (OutOk w5 (gr + 1) u7 (kdfL R k) k) := YO.out.later hb5
      have ZX : Hid (Lies w5 gx 0 R) := YX.out.later hb5 (by omega)
      have ZY : Hid (Lies w5 gy 0 (L ++ [q])) := hly
      have hs5 := hb5.size
      clear hoy hb5 hly YB Y1 YO YL YX LQ
      go_wp2_with fail
      refine (specHmac_any R (L ++ [q]) 32 (L.length + 1) hRl hRb (by decide) gx 0 cx gy 0 cy w5 (fun j hj => ZX.out.2 j (by omega)) hll (by omega) (bytes_append hbb hq8) ZY.out.1 (fun j hj => ZY.out.2 j (by omega)) (kdfK R k) (fun x hx => by rw [← hx]; exact HBN.out)).mono ?_
      rintro e w6 ⟨rfl, hb6⟩
      have VB : Hid (Below w.heap.size w w6) := ZB.out.trans (hb6.mono ZB.out.size)
      have V1 : Hid _ := (hb6.block gr (by omega)).trans Z1.out
      have VO : Hid (OutOk w6 (gr + 1) u7 (kdfL R k) k) := ZO.out.later hb6
      have hs6 := hb6.size
      have HN6 : Hid ((w6.alloc (.cells (Iv .u8 (zeroL 32)) 23)).heap[w6.heap.size]? = some (.cells (Iv .u8 (zeroL 32)) 23)) := heap_alloc_new _ _
      clear hb6 ZB Z1 ZO ZX ZY
      go_wp2_with (refine wpList_put_row rfl 23 _ _ rfl w6.heap.size (Iv .u8 (kdfK R k)) rfl rfl _ _ HN6.out (hi32.out _ (kdfK_length R k)) (hz32.out _ (kdfK_length R k)) (Iv_one _ _) ?_)
      intro w7 hP7
      have UB : Hid (Below w.heap.size w w7) := hP7.below _ _ (VB.out.alloc VB.out.size _) VB.out.size
      have HW7 : Below w6.heap.size w6 w7 := hP7.below _ _ ((Below.refl _ _).alloc (Nat.le_refl _) _) (Nat.le_refl _)
      have U1 : Hid _ := (HW7.block gr (by omega)).trans V1.out
      have UO : Hid (OutOk w7 (gr + 1) u7 (kdfL R k) k) := VO.out.later HW7
      have GO : Hid (1 ≤ k → ∀ {g : Nat}, some g = u7.ownBlock → g < w6.heap.size) := fun h1 g e => OutOk.lt VO.out h1 e
      have UT : Hid (w7.heap[w6.heap.size]? = some (.cells (Iv .u8 (kdfK R k)) 23)) := hP7.here
      have hs7 : w6.heap.size < w7.heap.size := by rw [hP7.size]; simp
      obtain ⟨gt, hgt⟩ : ∃ x, x = w6.heap.size := ⟨_, rfl⟩
      rw [← hgt] at UT hs7 hs6 GO ⊢
      clear hP7 HW7 HN6 VB V1 VO hgt
      go_wp2_with (first
        | refine wpList_load_row rfl 23 _ rfl gt rfl _ (Iv .u8 (kdfK R k)) _ _ UT.out Tryd.underlying23 rfl (hi32.out _ (kdfK_length R k)) ?_
        | (refine wpList_build32 rfl (.tmp 37) rfl (kdfK R k) (kdfK_length R k) rfl (stop_here ?_)))
      refine hid_mk ?_
      have HB8 : Below w7.heap.size w7 (w7.alloc (.cells (Iv .u8 (kdfK R k)) 23)) := (Below.refl _ _).alloc (Nat.le_refl _) _
      have hs8 : (w7.alloc (.cells (Iv .u8 (kdfK R k)) 23)).heap.size = w7.heap.size + 1 := by simp
      have hlo : 1 ≤ k → some gt ≠ u7.ownBlock := fun h1 e => by have := GO.out h1 e; omega
      obtain ⟨v9, w9, hr9, ho9, hb9, hf9⟩ := out_append (OutOk.later UO.out HB8) (by omega) (by omega) w7.heap.size (kdfK R k) (kdfK_length R k) (heap_alloc_new _ _) 1 33
      refine wpList_append_any rfl (.tmp 36) (.tmp 38) 33 rfl u7 (.slice (some ⟨w7.heap.size, 0, none⟩) 1 1) rfl rfl v9 w9 hr9 ?_
      have TB : Hid (Below w.heap.size w w9) := (UB.out.alloc UB.out.size _).trans (hb9.mono (by omega))
      have T1 : Hid (w9.heap[gr]? = some (.cells (Iv .u8 R) 23)) := (hb9.block gr (by omega)).trans ((HB8.block gr (by omega)).trans U1.out)
      have TT : Hid (w9.heap[gt]? = some (.cells (Iv .u8 (kdfK R k)) 23)) := (hf9 gt (by omega) hlo).trans ((HB8.block gt hs7).trans UT.out)
      have TO : Hid (OutOk w9 (gr + 1) v9 (kdfL R (k + 1)) (k + 1)) := ho9
      have hs9 := hb9.size
      clear hr9 ho9 hb9 hf9 HB8 UB U1 UT UO GO
      simp only [Act.put]
      go_wp2_with (refine wpList_load_row rfl 23 _ rfl gt rfl _ (Iv .u8 (kdfK R k)) _ _ TT.out Tryd.underlying23 rfl (hi32.out _ (kdfK_length R k)) ?_)
      refine (l1Of32_any (kdfK R k) (kdfK_length R k) w9).mono ?_
      rintro e w10 ⟨x, rfl, hoz, hb10⟩
      obtain ⟨gz, cz, rfl, hgz, hlz, hcz1, hcz2⟩ := hoz.lies
      have SB : Hid (Below w.heap.size w w10) := TB.out.trans (hb10.mono TB.out.size)
      have S1 : Hid _ := (hb10.block gr (by omega)).trans T1.out
      have SO : Hid (OutOk w10 (gr + 1) v9 (kdfL R (k + 1)) (k + 1)) := OutOk.later TO.out hb10
      have SL : Hid (Lies w10 gz 0 (befL R (k + 1))) := hlz
      clear hoz hb10 hlz TB T1 TT TO
      go_wp2_with fail
      go_roundw
      case rel => exact ⟨k + 1, gz, cz, by omega, by rw [← HQ.out]; simp, SB.out, S1.out, SO.out, rfl, SL.out⟩
      case measure => simp [intOf]; omega
    · have hkn : k = n := by omega
      subst hkn
      have hle' : (q ≤ (k : Int)) = False := by have := HQ.out; simp; omega
      go_wp2
      go_ret
      exact ⟨_, gr + 1, rfl, by omega, RO.out, RB.out⟩
end Go.Proofs.YtgpjdbkdnojbhaaDoor
namespace Go.Proofs.YtgpjdbkdnojbhaaDoor
open Go.RowKit
set_option linter.unusedVariables false

def markI (k i : Nat) : Int := (((k + i : Nat) : Int)) % 256
/-- The world behind: block g's cells from 0 on hold the marks; other blocks are as they were. -/
structure Marked (w : World) (g n k : Nat) (W : World) : Prop where
  cells : ∀ j, j < n → W.cell? ⟨g, j, none⟩ = some (.int .u8 (markI k j))
  some : ∀ j, (w.cell? ⟨g, j, none⟩).isSome = true → (W.cell? ⟨g, j, none⟩).isSome = true
  froz : ∀ a, W.frozen? a = w.frozen? a
  far : ∀ b, b ≠ g → W.heap[b]? = w.heap[b]?
  size : W.heap.size = w.heap.size
  below : ∀ B a, Below B a w → B ≤ g → Below B a W
theorem marked_zero (w : World) (g k : Nat) : Marked w g 0 k w := ⟨fun j hj => absurd hj (Nat.not_lt_zero _), fun j h => h, fun a => rfl, fun b hb => rfl, rfl, fun B a h _ => h⟩
theorem marked_step {w W : World} {g n k : Nat} (h : Marked w g n k W) (hc : (w.cell? ⟨g, n, none⟩).isSome = true) : Marked w g (n + 1) k (W.setCell ⟨g, n, none⟩ (.int .u8 (markI k n))) := by
  obtain ⟨v, hv⟩ := Option.isSome_iff_exists.1 (h.some n hc)
  refine ⟨fun j hj => ?_, fun j hj => ?_, fun a => ?_, fun b hb => ?_, ?_, fun B a hB hg => ?_⟩
  · by_cases e : j = n
    · subst e
      exact World.cell?_setCell_same _ _ _ hv
    · rw [World.cell?_setCell_other _ _ _ _ (by intro e'; cases e'; exact e rfl)]
      exact h.cells j (by omega)
  · by_cases e : j = n
    · subst e
      rw [World.cell?_setCell_same _ _ _ hv]
      rfl
    · rw [World.cell?_setCell_other _ _ _ _ (by intro e'; cases e'; exact e rfl)]
      exact h.some j hj
  · rw [← h.froz a]
    exact World.frozen?_setCell _ _ _ _
  · rw [heap_setCell_other _ _ _ _ hb]
    exact h.far b hb
  · rw [← h.size]
    simp
  · exact (h.below B a hB hg).setCell (p := ⟨g, n, none⟩) hg _

set_option maxHeartbeats 1000000 in
theorem markByteS_any (g n cap k : Nat) (w : World) (hn : n ≤ 3000000) (hk : k ≤ 3000000)
    (hc : ∀ j, j < n → (w.cell? ⟨g, j, none⟩).isSome = true) (hf : ∀ j, j < n → w.frozen? ⟨g, j, none⟩ = false) :
    Calls Tryd.prog 24 #[.slice (some ⟨g, 0, none⟩) n cap, .int .i64 k] w fun e w' => e = .returned (.int .i64 ((k + n : Nat) : Int)) ∧ Marked w g n k w' := by
  have HC : Hid _ := hc
  have HF : Hid _ := hf
  clear hc hf
  go_enter Tryd.func24, Tryd.ntmps24
  go_wp2
  go_loopw [1, 5] (fun a i wr => ∃ (j z : Nat), j ≤ n ∧ z = k + j ∧ a = .int .i64 z ∧ i = .int .i64 j ∧ Marked w g j k wr) (fun _ i _ => n - (intOf i).toNat)
  case atStart => exact ⟨0, k, Nat.zero_le _, rfl, rfl, rfl, marked_zero w g k⟩
  case round =>
    obtain ⟨j, z, hj, hz, rfl, rfl, hM⟩ := hrel
    by_cases hlt : j < n
    · obtain ⟨v, hv⟩ := Option.isSome_iff_exists.1 (hM.some j (HC.out j hlt))
      have hfz : wr.frozen? ⟨g, j, none⟩ = false := (hM.froz _).trans (HF.out j hlt)
      have hs := marked_step hM (HC.out j hlt)
      have hmk : markI k j = (z : Int) % 256 := by rw [hz]; rfl
      rw [hmk] at hs
      have HS : Hid _ := hs
      have hz1 : z ≤ 6000000 := by omega
      have HZ : Hid (z = k + j) := hz
      clear hs hmk hz hM
      go_wp2
      go_roundw
      case rel => exact ⟨j + 1, z + 1, by omega, by have := HZ.out; omega, by go_num, by go_num, HS.out⟩
      case measure => simp [intOf]; omega
    · obtain rfl : j = n := by omega
      clear HC HF
      have HZ : Hid (z = k + j) := hz
      have HM : Hid _ := hM
      clear hz hM
      go_wp2
      go_ret
      exact ⟨by rw [HZ.out]; rfl, HM.out⟩
set_option maxHeartbeats 1000000 in
set_option maxRecDepth 10000 in
theorem markByteA32S_any (g n cap k : Nat) (w : World) (hn : n ≤ 3) (hnc : n ≤ cap) (hk : k ≤ 1000000)
    (hc : ∀ j, j < n * 32 → (w.cell? ⟨g, j, none⟩).isSome = true) (hf : ∀ j, j < n * 32 → w.frozen? ⟨g, j, none⟩ = false) :
    Calls Tryd.prog 25 #[.slice (some ⟨g, 0, none⟩) n cap, .int .i64 k] w fun e w' => e = .returned (.int .i64 ((k + n * 32 : Nat) : Int)) ∧ Marked w g (n * 32) k w' := by
  have HC : Hid _ := hc
  have HF : Hid _ := hf
  clear hc hf
  go_enter Tryd.func25, Tryd.ntmps25
  go_wp2
  go_loopw [1, 5] (fun a i wr => ∃ (j z : Nat), j ≤ n ∧ z = k + j * 32 ∧ a = .int .i64 z ∧ i = .int .i64 j ∧ Marked w g (j * 32) k wr) (fun _ i _ => n - (intOf i).toNat)
  case atStart => exact ⟨0, k, Nat.zero_le _, rfl, rfl, rfl, marked_zero w g k⟩
  case round =>
    obtain ⟨i, z, hi, hz, rfl, rfl, hM⟩ := hrel
    by_cases hlt : i < n
    · obtain ⟨W0, hW0⟩ : ∃ x, x = wr := ⟨_, rfl⟩
      rw [← hW0] at hM ⊢
      clear hW0 wr
      have HZ : Hid (z = k + i * 32) := hz
      have HM : Hid _ := hM
      clear hz hM
      go_wp2
      go_loopw [1, 6] (fun a i' wr => ∃ (j y : Nat), j ≤ 32 ∧ y = k + (i * 32 + j) ∧ a = .int .i64 y ∧ i' = .int .i64 j ∧ Marked w g (i * 32 + j) k wr) (fun _ i' _ => 32 - (intOf i').toNat)
      case atStart => exact ⟨0, z, Nat.zero_le _, by rw [HZ.out]; rfl, rfl, rfl, HM.out⟩
      case round =>
        obtain ⟨j, y, hj, hy, rfl, rfl, hM⟩ := hrel
        by_cases hlt2 : j < 32
        · obtain ⟨v, hv⟩ := Option.isSome_iff_exists.1 (hM.some (i * 32 + j) (HC.out (i * 32 + j) (by omega)))
          have hfz : wr.frozen? ⟨g, i * 32 + j, none⟩ = false := (hM.froz _).trans (HF.out _ (by omega))
          have hs := marked_step hM (HC.out (i * 32 + j) (by omega))
          have hmk : markI k (i * 32 + j) = (y : Int) % 256 := by rw [hy]; rfl
          rw [hmk] at hs
          have HS : Hid _ := hs
          have hz1 : y ≤ 2000000 := by omega
          have HY : Hid (y = k + (i * 32 + j)) := hy
          clear hs hmk hy hM
          go_wp2
          go_roundw
          case rel => exact ⟨j + 1, y + 1, by omega, by have := HY.out; omega, by go_num, by go_num, HS.out⟩
          case measure => simp [intOf]; omega
        · obtain rfl : j = 32 := by omega
          have HY : Hid (y = k + (i * 32 + 32)) := hy
          have HM2 : Hid (Marked w g ((i + 1) * 32) k wr) := by show Marked _ _ _ _ _; rw [show (i + 1) * 32 = i * 32 + 32 by omega]; exact hM
          clear hy hM
          go_wp2
          go_roundw
          case rel => exact ⟨i + 1, y, by omega, by have := HY.out; omega, rfl, by go_num, HM2.out⟩
          case measure => simp [intOf]; omega
    · obtain rfl : i = n := by omega
      clear HC HF
      have HZ : Hid (z = k + i * 32) := hz
      have HM : Hid _ := hM
      clear hz hM
      go_wp2
      go_ret
      exact ⟨by rw [HZ.out]; rfl, HM.out⟩
set_option maxHeartbeats 1000000 in
set_option maxRecDepth 10000 in
theorem heldByteA32S_any (g n cap k : Nat) (w : World) (hn : n ≤ 3) (hnc : n ≤ cap) (hk : k ≤ 1000000) (hc : ∀ j, j < n * 32 → w.cell? ⟨g, j, none⟩ = some (.int .u8 (markI k j))) :
    Calls Tryd.prog 26 #[.slice (some ⟨g, 0, none⟩) n cap, .int .i64 k] w fun e w' => e = .returned (.int .i64 ((k + n * 32 : Nat) : Int)) ∧ ∃ d, w' = w.drewN d := by
  have HC : Hid _ := hc
  clear hc
  go_enter Tryd.func26, Tryd.ntmps26
  go_wp2
  go_loopw [1, 5] (fun a i wr => ∃ (j z d : Nat), j ≤ n ∧ z = k + j * 32 ∧ a = .int .i64 z ∧ i = .int .i64 j ∧ wr = w.drewN d) (fun _ i _ => n - (intOf i).toNat)
  case atStart => exact ⟨0, k, 0, Nat.zero_le _, rfl, rfl, rfl, rfl⟩
  case round =>
    obtain ⟨i, z, d, hi, hz, rfl, rfl, rfl⟩ := hrel
    by_cases hlt : i < n
    · have HZ : Hid (z = k + i * 32) := hz
      clear hz
      go_wp2
      go_loopw [1, 6] (fun a i' wr => ∃ (j y d' : Nat), j ≤ 32 ∧ y = k + (i * 32 + j) ∧ a = .int .i64 y ∧ i' = .int .i64 j ∧ wr = w.drewN d') (fun _ i' _ => 32 - (intOf i').toNat)
      case atStart => exact ⟨0, z, d, Nat.zero_le _, by rw [HZ.out]; rfl, rfl, rfl, rfl⟩
      case round =>
        obtain ⟨j, y, d', hj, hy, rfl, rfl, rfl⟩ := hrel
        by_cases hlt2 : j < 32
        · have hcc := HC.out (i * 32 + j) (by omega)
          have hmk : markI k (i * 32 + j) = (y : Int) % 256 := by rw [hy]; rfl
          rw [hmk] at hcc
          have hz1 : y ≤ 2000000 := by omega
          have HY : Hid (y = k + (i * 32 + j)) := hy
          clear hmk hy
          go_wp2
          go_roundw
          case rel => exact ⟨j + 1, y + 1, d', by omega, by have := HY.out; omega, by go_num, by go_num, rfl⟩
          case measure => simp [intOf]; omega
        · obtain rfl : j = 32 := by omega
          have HY : Hid (y = k + (i * 32 + 32)) := hy
          clear hy
          go_wp2
          go_roundw
          case rel => exact ⟨i + 1, y, d', by omega, by have := HY.out; omega, rfl, by go_num, rfl⟩
          case measure => simp [intOf]; omega
    · obtain rfl : i = n := by omega
      clear HC
      have HZ : Hid (z = k + i * 32) := hz
      clear hz
      go_wp2
      go_ret
      exact ⟨by rw [HZ.out]; rfl, d, rfl⟩
end Go.Proofs.YtgpjdbkdnojbhaaDoor
namespace Go.Proofs.YtgpjdbkdnojbhaaDoor
open Go.RowKit
set_option linter.unusedVariables false
theorem wpQuiet_loadM {P : Program} {ops : Array Oper} {C : World → Prop} {Q : Act → Prop} {a : Act} {o : Oper} {rest : List Oper} (hgd : o.guard = none) (ty : TypeId) (x : Operand) (ho : o.op = .load ty x)
    (b f : Nat) (hx : a.eval x = .pointer (some ⟨b, f, none⟩)) (cs : List Value) (d : TypeDesc) (hS : ∀ w, C w → w.rangeAt b f cs)
    (hu : P.underlying ty = some d) (hd : d.isRow = true) (hi : (P.info? ty).map (·.size) = some cs.length)
    (h : wpQuiet P ops C Q rest (a.put o.dst (.agg cs.toArray))) : wpQuiet P ops C Q (o :: rest) a := by
  refine wpQuiet_wanted hgd (v := .agg cs.toArray) (fun w hw => ?_) h
  have e : (execOp a.eval o).run P w = .ok (.value (.agg cs.toArray)) w := by
    unfold execOp
    simp only [ho, hx, Instr.loadAt, Instr.sureAddr, Sem.run_bind, Sem.run_pure, Result.andThen_ok, run_loadVar_mid w b f ty cs d (hS w hw) hu hd hi]
  unfold Oper.quietAt
  rw [e]
  exact ⟨rfl, rfl⟩
/-- The bytes of a slice of arrays. -/
structure Keys (w : World) (g n : Nat) (L : List Int) : Prop where
  blk : 0 < n → g < w.heap.size
  cell : ∀ j, j < n * 32 → w.cell? ⟨g, j, none⟩ = some (.int .u8 (L.getD j 0))
theorem Keys.later {w w' : World} {g n B : Nat} {L : List Int} (h : Keys w g n L) (hb : Below B w w') (hB : w.heap.size ≤ B) : Keys w' g n L :=
  ⟨fun h0 => Nat.lt_of_lt_of_le (h.blk h0) hb.size, fun j hj => (hb.cell (p := ⟨g, j, none⟩) (Nat.lt_of_lt_of_le (h.blk (by omega)) hB)).trans (h.cell j hj)⟩
theorem Keys.range {w : World} {g n : Nat} {L : List Int} (h : Keys w g n L) (hL : L.length = n * 32) (o : Nat) (ho : o + 32 ≤ n * 32) : w.rangeAt g o ((partZ L o 32).map (Value.int .u8)) := by
  intro j v hj
  have hl : (partZ L o 32).length = 32 := partZ_length L o 32 (n * 32) hL ho
  have hlt : j < 32 := by have := (List.getElem?_eq_some_iff.1 hj).1; rw [List.length_map, hl] at this; exact this
  rw [h.cell (o + j) (by omega), ← hj]
  unfold partZ
  simp [List.getD_eq_getElem?_getD, hlt]
  rw [List.getElem?_eq_getElem (by omega)]
  rfl
set_option maxRecDepth 10000 in
set_option maxHeartbeats 2000000 in
theorem eqByteA32S_yes (n g1 c1 g2 c2 : Nat) (L : List Int) (hn : n ≤ 3) (hL : L.length = n * 32) (w : World) (hk1 : Keys w g1 n L) (hk2 : Keys w g2 n L) :
    Calls Tryd.prog 23 #[.slice (some ⟨g1, 0, none⟩) n c1, .slice (some ⟨g2, 0, none⟩) n c2] w fun e w' => e = .returned (.bool true) ∧ Below w.heap.size w w' := by
  have K1 : Hid _ := hk1
  have K2 : Hid _ := hk2
  clear hk1 hk2
  go_enter Tryd.func23, Tryd.ntmps23
  go_wp2_with fail
  go_loopw [5] (fun i wr => ∃ k : Nat, k ≤ n ∧ i = .int .i64 k ∧ Below w.heap.size w wr) (fun i _ => 3 - (intOf i).toNat)
  case atStart => exact ⟨0, Nat.zero_le _, rfl, Below.refl _ _⟩
  case round =>
    obtain ⟨k, hk, rfl, hbr⟩ := hrel
    by_cases hlt : k < n
    · have hc : (k = 0 ∧ n = 1) ∨ (k = 0 ∧ n = 2) ∨ (k = 1 ∧ n = 2) ∨ (k = 0 ∧ n = 3) ∨ (k = 1 ∧ n = 3) ∨ (k = 2 ∧ n = 3) := by omega
      rcases hc with ⟨rfl, rfl⟩ | ⟨rfl, rfl⟩ | ⟨rfl, rfl⟩ | ⟨rfl, rfl⟩ | ⟨rfl, rfl⟩ | ⟨rfl, rfl⟩
      · have HBR : Hid _ := hbr
        have hpl : (partZ L 0 32).length = 32 := partZ_length L 0 32 (1 * 32) hL (by decide)
        have hi : Hid ((Tryd.prog.info? 23).map (·.size) = some ((partZ L 0 32).map (Value.int .u8)).length) := by show _ = _; rw [List.length_map, hpl]; exact infoBB32
        clear hbr
        go_wp2_with fail
        refine wp_region_bel wr.heap.size wr mixedB (by kernel_rfl) (Below.refl _ _) ?_
        have r1 : ∀ w', (∃ x : Bel wr.heap.size wr, w' = x.w) → w'.rangeAt g1 0 ((partZ L 0 32).map (Value.int .u8)) := fun w' ⟨x, hx⟩ => by subst hx; exact (Keys.later (Keys.later K1.out HBR.out (Nat.le_refl _)) x.bel (Nat.le_refl _)).range hL 0 (by decide)
        have r2 : ∀ w', (∃ x : Bel wr.heap.size wr, w' = x.w) → w'.rangeAt g2 0 ((partZ L 0 32).map (Value.int .u8)) := fun w' ⟨x, hx⟩ => by subst hx; exact (Keys.later (Keys.later K2.out HBR.out (Nat.le_refl _)) x.bel (Nat.le_refl _)).range hL 0 (by decide)
        refine quietV rfl (.slice (some ⟨g1, 0, none⟩) 1 c1) (fun W' => by kernel_rfl) ?_
        simp only [Act.put, List.setIfInBounds_toArray, List.set_cons_succ, List.set_cons_zero]
        refine quietV rfl (.int .i64 ((0 : Nat) : Int)) (fun W' => by kernel_rfl) ?_
        simp only [Act.put, List.setIfInBounds_toArray, List.set_cons_succ, List.set_cons_zero]
        refine quietV rfl (.pointer (some ⟨g1, 0, none⟩)) (fun W' => by kernel_rfl) ?_
        simp only [Act.put, List.setIfInBounds_toArray, List.set_cons_succ, List.set_cons_zero]
        refine wpQuiet_loadM rfl 23 _ rfl g1 0 rfl ((partZ L 0 32).map (Value.int .u8)) _ r1 Tryd.underlying23 rfl hi.out ?_
        simp only [Act.put, List.setIfInBounds_toArray, List.set_cons_succ, List.set_cons_zero]
        refine quietV rfl (.slice (some ⟨g2, 0, none⟩) 1 c2) (fun W' => by kernel_rfl) ?_
        simp only [Act.put, List.setIfInBounds_toArray, List.set_cons_succ, List.set_cons_zero]
        refine quietV rfl (.int .i64 ((0 : Nat) : Int)) (fun W' => by kernel_rfl) ?_
        simp only [Act.put, List.setIfInBounds_toArray, List.set_cons_succ, List.set_cons_zero]
        refine quietV rfl (.pointer (some ⟨g2, 0, none⟩)) (fun W' => by kernel_rfl) ?_
        simp only [Act.put, List.setIfInBounds_toArray, List.set_cons_succ, List.set_cons_zero]
        refine wpQuiet_loadM rfl 23 _ rfl g2 0 rfl ((partZ L 0 32).map (Value.int .u8)) _ r2 Tryd.underlying23 rfl hi.out ?_
        simp only [Act.put, List.setIfInBounds_toArray, List.set_cons_succ, List.set_cons_zero]
        go_big_quiet_step (exact calls_bel _ (Nat.le_refl _) (eqByteA32_yes (partZ L 0 32) hpl _))
        refine quietV rfl (.bool false) (fun W' => by kernel_rfl) ?_
        simp only [Act.put, List.setIfInBounds_toArray, List.set_cons_succ, List.set_cons_zero]
        refine wpQuiet_nil ?_
        intro w1 hw1
        have HB1 : Hid (Below w.heap.size w w1) := HBR.out.trans (hw1.mono HBR.out.size)
        clear hw1 r1 r2 HBR
        go_wp2_with fail
        go_roundw
        case rel => first | exact ⟨1, by decide, rfl, HB1.out⟩ | exact ⟨_, _, _, _, _, _, _, _, _, _, _, _, _, _, _, _, _, _, ⟨1, by decide, rfl, HB1.out⟩, rfl⟩
        case measure => simp [intOf]
      · have HBR : Hid _ := hbr
        have hpl : (partZ L 0 32).length = 32 := partZ_length L 0 32 (2 * 32) hL (by decide)
        have hi : Hid ((Tryd.prog.info? 23).map (·.size) = some ((partZ L 0 32).map (Value.int .u8)).length) := by show _ = _; rw [List.length_map, hpl]; exact infoBB32
        clear hbr
        go_wp2_with fail
        refine wp_region_bel wr.heap.size wr mixedB (by kernel_rfl) (Below.refl _ _) ?_
        have r1 : ∀ w', (∃ x : Bel wr.heap.size wr, w' = x.w) → w'.rangeAt g1 0 ((partZ L 0 32).map (Value.int .u8)) := fun w' ⟨x, hx⟩ => by subst hx; exact (Keys.later (Keys.later K1.out HBR.out (Nat.le_refl _)) x.bel (Nat.le_refl _)).range hL 0 (by decide)
        have r2 : ∀ w', (∃ x : Bel wr.heap.size wr, w' = x.w) → w'.rangeAt g2 0 ((partZ L 0 32).map (Value.int .u8)) := fun w' ⟨x, hx⟩ => by subst hx; exact (Keys.later (Keys.later K2.out HBR.out (Nat.le_refl _)) x.bel (Nat.le_refl _)).range hL 0 (by decide)
        refine quietV rfl (.slice (some ⟨g1, 0, none⟩) 2 c1) (fun W' => by kernel_rfl) ?_
        simp only [Act.put, List.setIfInBounds_toArray, List.set_cons_succ, List.set_cons_zero]
        refine quietV rfl (.int .i64 ((0 : Nat) : Int)) (fun W' => by kernel_rfl) ?_
        simp only [Act.put, List.setIfInBounds_toArray, List.set_cons_succ, List.set_cons_zero]
        refine quietV rfl (.pointer (some ⟨g1, 0, none⟩)) (fun W' => by kernel_rfl) ?_
        simp only [Act.put, List.setIfInBounds_toArray, List.set_cons_succ, List.set_cons_zero]
        refine wpQuiet_loadM rfl 23 _ rfl g1 0 rfl ((partZ L 0 32).map (Value.int .u8)) _ r1 Tryd.underlying23 rfl hi.out ?_
        simp only [Act.put, List.setIfInBounds_toArray, List.set_cons_succ, List.set_cons_zero]
        refine quietV rfl (.slice (some ⟨g2, 0, none⟩) 2 c2) (fun W' => by kernel_rfl) ?_
        simp only [Act.put, List.setIfInBounds_toArray, List.set_cons_succ, List.set_cons_zero]
        refine quietV rfl (.int .i64 ((0 : Nat) : Int)) (fun W' => by kernel_rfl) ?_
        simp only [Act.put, List.setIfInBounds_toArray, List.set_cons_succ, List.set_cons_zero]
        refine quietV rfl (.pointer (some ⟨g2, 0, none⟩)) (fun W' => by kernel_rfl) ?_
        simp only [Act.put, List.setIfInBounds_toArray, List.set_cons_succ, List.set_cons_zero]
        refine wpQuiet_loadM rfl 23 _ rfl g2 0 rfl ((partZ L 0 32).map (Value.int .u8)) _ r2 Tryd.underlying23 rfl hi.out ?_
        simp only [Act.put, List.setIfInBounds_toArray, List.set_cons_succ, List.set_cons_zero]
        go_big_quiet_step (exact calls_bel _ (Nat.le_refl _) (eqByteA32_yes (partZ L 0 32) hpl _))
        refine quietV rfl (.bool false) (fun W' => by kernel_rfl) ?_
        simp only [Act.put, List.setIfInBounds_toArray, List.set_cons_succ, List.set_cons_zero]
        refine wpQuiet_nil ?_
        intro w1 hw1
        have HB1 : Hid (Below w.heap.size w w1) := HBR.out.trans (hw1.mono HBR.out.size)
        clear hw1 r1 r2 HBR
        go_wp2_with fail
        go_roundw
        case rel => first | exact ⟨1, by decide, rfl, HB1.out⟩ | exact ⟨_, _, _, _, _, _, _, _, _, _, _, _, _, _, _, _, _, _, ⟨1, by decide, rfl, HB1.out⟩, rfl⟩
        case measure => simp [intOf]
      · have HBR : Hid _ := hbr
        have hpl : (partZ L 32 32).length = 32 := partZ_length L 32 32 (2 * 32) hL (by decide)
        have hi : Hid ((Tryd.prog.info? 23).map (·.size) = some ((partZ L 32 32).map (Value.int .u8)).length) := by show _ = _; rw [List.length_map, hpl]; exact infoBB32
        clear hbr
        go_wp2_with fail
        refine wp_region_bel wr.heap.size wr mixedB (by kernel_rfl) (Below.refl _ _) ?_
        have r1 : ∀ w', (∃ x : Bel wr.heap.size wr, w' = x.w) → w'.rangeAt g1 32 ((partZ L 32 32).map (Value.int .u8)) := fun w' ⟨x, hx⟩ => by subst hx; exact (Keys.later (Keys.later K1.out HBR.out (Nat.le_refl _)) x.bel (Nat.le_refl _)).range hL 32 (by decide)
        have r2 : ∀ w', (∃ x : Bel wr.heap.size wr, w' = x.w) → w'.rangeAt g2 32 ((partZ L 32 32).map (Value.int .u8)) := fun w' ⟨x, hx⟩ => by subst hx; exact (Keys.later (Keys.later K2.out HBR.out (Nat.le_refl _)) x.bel (Nat.le_refl _)).range hL 32 (by decide)
        refine quietV rfl (.slice (some ⟨g1, 0, none⟩) 2 c1) (fun W' => by kernel_rfl) ?_
        simp only [Act.put, List.setIfInBounds_toArray, List.set_cons_succ, List.set_cons_zero]
        refine quietV rfl (.int .i64 ((1 : Nat) : Int)) (fun W' => by kernel_rfl) ?_
        simp only [Act.put, List.setIfInBounds_toArray, List.set_cons_succ, List.set_cons_zero]
        refine quietV rfl (.pointer (some ⟨g1, 32, none⟩)) (fun W' => by kernel_rfl) ?_
        simp only [Act.put, List.setIfInBounds_toArray, List.set_cons_succ, List.set_cons_zero]
        refine wpQuiet_loadM rfl 23 _ rfl g1 32 rfl ((partZ L 32 32).map (Value.int .u8)) _ r1 Tryd.underlying23 rfl hi.out ?_
        simp only [Act.put, List.setIfInBounds_toArray, List.set_cons_succ, List.set_cons_zero]
        refine quietV rfl (.slice (some ⟨g2, 0, none⟩) 2 c2) (fun W' => by kernel_rfl) ?_
        simp only [Act.put, List.setIfInBounds_toArray, List.set_cons_succ, List.set_cons_zero]
        refine quietV rfl (.int .i64 ((1 : Nat) : Int)) (fun W' => by kernel_rfl) ?_
        simp only [Act.put, List.setIfInBounds_toArray, List.set_cons_succ, List.set_cons_zero]
        refine quietV rfl (.pointer (some ⟨g2, 32, none⟩)) (fun W' => by kernel_rfl) ?_
        simp only [Act.put, List.setIfInBounds_toArray, List.set_cons_succ, List.set_cons_zero]
        refine wpQuiet_loadM rfl 23 _ rfl g2 32 rfl ((partZ L 32 32).map (Value.int .u8)) _ r2 Tryd.underlying23 rfl hi.out ?_
        simp only [Act.put, List.setIfInBounds_toArray, List.set_cons_succ, List.set_cons_zero]
        go_big_quiet_step (exact calls_bel _ (Nat.le_refl _) (eqByteA32_yes (partZ L 32 32) hpl _))
        refine quietV rfl (.bool false) (fun W' => by kernel_rfl) ?_
        simp only [Act.put, List.setIfInBounds_toArray, List.set_cons_succ, List.set_cons_zero]
        refine wpQuiet_nil ?_
        intro w1 hw1
        have HB1 : Hid (Below w.heap.size w w1) := HBR.out.trans (hw1.mono HBR.out.size)
        clear hw1 r1 r2 HBR
        go_wp2_with fail
        go_roundw
        case rel => first | exact ⟨2, by decide, rfl, HB1.out⟩ | exact ⟨_, _, _, _, _, _, _, _, _, _, _, _, _, _, _, _, _, _, ⟨2, by decide, rfl, HB1.out⟩, rfl⟩
        case measure => simp [intOf]
      · have HBR : Hid _ := hbr
        have hpl : (partZ L 0 32).length = 32 := partZ_length L 0 32 (3 * 32) hL (by decide)
        have hi : Hid ((Tryd.prog.info? 23).map (·.size) = some ((partZ L 0 32).map (Value.int .u8)).length) := by show _ = _; rw [List.length_map, hpl]; exact infoBB32
        clear hbr
        go_wp2_with fail
        refine wp_region_bel wr.heap.size wr mixedB (by kernel_rfl) (Below.refl _ _) ?_
        have r1 : ∀ w', (∃ x : Bel wr.heap.size wr, w' = x.w) → w'.rangeAt g1 0 ((partZ L 0 32).map (Value.int .u8)) := fun w' ⟨x, hx⟩ => by subst hx; exact (Keys.later (Keys.later K1.out HBR.out (Nat.le_refl _)) x.bel (Nat.le_refl _)).range hL 0 (by decide)
        have r2 : ∀ w', (∃ x : Bel wr.heap.size wr, w' = x.w) → w'.rangeAt g2 0 ((partZ L 0 32).map (Value.int .u8)) := fun w' ⟨x, hx⟩ => by subst hx; exact (Keys.later (Keys.later K2.out HBR.out (Nat.le_refl _)) x.bel (Nat.le_refl _)).range hL 0 (by decide)
        refine quietV rfl (.slice (some ⟨g1, 0, none⟩) 3 c1) (fun W' => by kernel_rfl) ?_
        simp only [Act.put, List.setIfInBounds_toArray, List.set_cons_succ, List.set_cons_zero]
        refine quietV rfl (.int .i64 ((0 : Nat) : Int)) (fun W' => by kernel_rfl) ?_
        simp only [Act.put, List.setIfInBounds_toArray, List.set_cons_succ, List.set_cons_zero]
        refine quietV rfl (.pointer (some ⟨g1, 0, none⟩)) (fun W' => by kernel_rfl) ?_
        simp only [Act.put, List.setIfInBounds_toArray, List.set_cons_succ, List.set_cons_zero]
        refine wpQuiet_loadM rfl 23 _ rfl g1 0 rfl ((partZ L 0 32).map (Value.int .u8)) _ r1 Tryd.underlying23 rfl hi.out ?_
        simp only [Act.put, List.setIfInBounds_toArray, List.set_cons_succ, List.set_cons_zero]
        refine quietV rfl (.slice (some ⟨g2, 0, none⟩) 3 c2) (fun W' => by kernel_rfl) ?_
        simp only [Act.put, List.setIfInBounds_toArray, List.set_cons_succ, List.set_cons_zero]
        refine quietV rfl (.int .i64 ((0 : Nat) : Int)) (fun W' => by kernel_rfl) ?_
        simp only [Act.put, List.setIfInBounds_toArray, List.set_cons_succ, List.set_cons_zero]
        refine quietV rfl (.pointer (some ⟨g2, 0, none⟩)) (fun W' => by kernel_rfl) ?_
        simp only [Act.put, List.setIfInBounds_toArray, List.set_cons_succ, List.set_cons_zero]
        refine wpQuiet_loadM rfl 23 _ rfl g2 0 rfl ((partZ L 0 32).map (Value.int .u8)) _ r2 Tryd.underlying23 rfl hi.out ?_
        simp only [Act.put, List.setIfInBounds_toArray, List.set_cons_succ, List.set_cons_zero]
        go_big_quiet_step (exact calls_bel _ (Nat.le_refl _) (eqByteA32_yes (partZ L 0 32) hpl _))
        refine quietV rfl (.bool false) (fun W' => by kernel_rfl) ?_
        simp only [Act.put, List.setIfInBounds_toArray, List.set_cons_succ, List.set_cons_zero]
        refine wpQuiet_nil ?_
        intro w1 hw1
        have HB1 : Hid (Below w.heap.size w w1) := HBR.out.trans (hw1.mono HBR.out.size)
        clear hw1 r1 r2 HBR
        go_wp2_with fail
        go_roundw
        case rel => first | exact ⟨1, by decide, rfl, HB1.out⟩ | exact ⟨_, _, _, _, _, _, _, _, _, _, _, _, _, _, _, _, _, _, ⟨1, by decide, rfl, HB1.out⟩, rfl⟩
        case measure => simp [intOf]
      · have HBR : Hid _ := hbr
        have hpl : (partZ L 32 32).length = 32 := partZ_length L 32 32 (3 * 32) hL (by decide)
        have hi : Hid ((Tryd.prog.info? 23).map (·.size) = some ((partZ L 32 32).map (Value.int .u8)).length) := by show _ = _; rw [List.length_map, hpl]; exact infoBB32
        clear hbr
        go_wp2_with fail
        refine wp_region_bel wr.heap.size wr mixedB (by kernel_rfl) (Below.refl _ _) ?_
        have r1 : ∀ w', (∃ x : Bel wr.heap.size wr, w' = x.w) → w'.rangeAt g1 32 ((partZ L 32 32).map (Value.int .u8)) := fun w' ⟨x, hx⟩ => by subst hx; exact (Keys.later (Keys.later K1.out HBR.out (Nat.le_refl _)) x.bel (Nat.le_refl _)).range hL 32 (by decide)
        have r2 : ∀ w', (∃ x : Bel wr.heap.size wr, w' = x.w) → w'.rangeAt g2 32 ((partZ L 32 32).map (Value.int .u8)) := fun w' ⟨x, hx⟩ => by subst hx; exact (Keys.later (Keys.later K2.out HBR.out (Nat.le_refl _)) x.bel (Nat.le_refl _)).range hL 32 (by decide)
        refine quietV rfl (.slice (some ⟨g1, 0, none⟩) 3 c1) (fun W' => by kernel_rfl) ?_
        simp only [Act.put, List.setIfInBounds_toArray, List.set_cons_succ, List.set_cons_zero]
        refine quietV rfl (.int .i64 ((1 : Nat) : Int)) (fun W' => by kernel_rfl) ?_
        simp only [Act.put, List.setIfInBounds_toArray, List.set_cons_succ, List.set_cons_zero]
        refine quietV rfl (.pointer (some ⟨g1, 32, none⟩)) (fun W' => by kernel_rfl) ?_
        simp only [Act.put, List.setIfInBounds_toArray, List.set_cons_succ, List.set_cons_zero]
        refine wpQuiet_loadM rfl 23 _ rfl g1 32 rfl ((partZ L 32 32).map (Value.int .u8)) _ r1 Tryd.underlying23 rfl hi.out ?_
        simp only [Act.put, List.setIfInBounds_toArray, List.set_cons_succ, List.set_cons_zero]
        refine quietV rfl (.slice (some ⟨g2, 0, none⟩) 3 c2) (fun W' => by kernel_rfl) ?_
        simp only [Act.put, List.setIfInBounds_toArray, List.set_cons_succ, List.set_cons_zero]
        refine quietV rfl (.int .i64 ((1 : Nat) : Int)) (fun W' => by kernel_rfl) ?_
        simp only [Act.put, List.setIfInBounds_toArray, List.set_cons_succ, List.set_cons_zero]
        refine quietV rfl (.pointer (some ⟨g2, 32, none⟩)) (fun W' => by kernel_rfl) ?_
        simp only [Act.put, List.setIfInBounds_toArray, List.set_cons_succ, List.set_cons_zero]
        refine wpQuiet_loadM rfl 23 _ rfl g2 32 rfl ((partZ L 32 32).map (Value.int .u8)) _ r2 Tryd.underlying23 rfl hi.out ?_
        simp only [Act.put, List.setIfInBounds_toArray, List.set_cons_succ, List.set_cons_zero]
        go_big_quiet_step (exact calls_bel _ (Nat.le_refl _) (eqByteA32_yes (partZ L 32 32) hpl _))
        refine quietV rfl (.bool false) (fun W' => by kernel_rfl) ?_
        simp only [Act.put, List.setIfInBounds_toArray, List.set_cons_succ, List.set_cons_zero]
        refine wpQuiet_nil ?_
        intro w1 hw1
        have HB1 : Hid (Below w.heap.size w w1) := HBR.out.trans (hw1.mono HBR.out.size)
        clear hw1 r1 r2 HBR
        go_wp2_with fail
        go_roundw
        case rel => first | exact ⟨2, by decide, rfl, HB1.out⟩ | exact ⟨_, _, _, _, _, _, _, _, _, _, _, _, _, _, _, _, _, _, ⟨2, by decide, rfl, HB1.out⟩, rfl⟩
        case measure => simp [intOf]
      · have HBR : Hid _ := hbr
        have hpl : (partZ L 64 32).length = 32 := partZ_length L 64 32 (3 * 32) hL (by decide)
        have hi : Hid ((Tryd.prog.info? 23).map (·.size) = some ((partZ L 64 32).map (Value.int .u8)).length) := by show _ = _; rw [List.length_map, hpl]; exact infoBB32
        clear hbr
        go_wp2_with fail
        refine wp_region_bel wr.heap.size wr mixedB (by kernel_rfl) (Below.refl _ _) ?_
        have r1 : ∀ w', (∃ x : Bel wr.heap.size wr, w' = x.w) → w'.rangeAt g1 64 ((partZ L 64 32).map (Value.int .u8)) := fun w' ⟨x, hx⟩ => by subst hx; exact (Keys.later (Keys.later K1.out HBR.out (Nat.le_refl _)) x.bel (Nat.le_refl _)).range hL 64 (by decide)
        have r2 : ∀ w', (∃ x : Bel wr.heap.size wr, w' = x.w) → w'.rangeAt g2 64 ((partZ L 64 32).map (Value.int .u8)) := fun w' ⟨x, hx⟩ => by subst hx; exact (Keys.later (Keys.later K2.out HBR.out (Nat.le_refl _)) x.bel (Nat.le_refl _)).range hL 64 (by decide)
        refine quietV rfl (.slice (some ⟨g1, 0, none⟩) 3 c1) (fun W' => by kernel_rfl) ?_
        simp only [Act.put, List.setIfInBounds_toArray, List.set_cons_succ, List.set_cons_zero]
        refine quietV rfl (.int .i64 ((2 : Nat) : Int)) (fun W' => by kernel_rfl) ?_
        simp only [Act.put, List.setIfInBounds_toArray, List.set_cons_succ, List.set_cons_zero]
        refine quietV rfl (.pointer (some ⟨g1, 64, none⟩)) (fun W' => by kernel_rfl) ?_
        simp only [Act.put, List.setIfInBounds_toArray, List.set_cons_succ, List.set_cons_zero]
        refine wpQuiet_loadM rfl 23 _ rfl g1 64 rfl ((partZ L 64 32).map (Value.int .u8)) _ r1 Tryd.underlying23 rfl hi.out ?_
        simp only [Act.put, List.setIfInBounds_toArray, List.set_cons_succ, List.set_cons_zero]
        refine quietV rfl (.slice (some ⟨g2, 0, none⟩) 3 c2) (fun W' => by kernel_rfl) ?_
        simp only [Act.put, List.setIfInBounds_toArray, List.set_cons_succ, List.set_cons_zero]
        refine quietV rfl (.int .i64 ((2 : Nat) : Int)) (fun W' => by kernel_rfl) ?_
        simp only [Act.put, List.setIfInBounds_toArray, List.set_cons_succ, List.set_cons_zero]
        refine quietV rfl (.pointer (some ⟨g2, 64, none⟩)) (fun W' => by kernel_rfl) ?_
        simp only [Act.put, List.setIfInBounds_toArray, List.set_cons_succ, List.set_cons_zero]
        refine wpQuiet_loadM rfl 23 _ rfl g2 64 rfl ((partZ L 64 32).map (Value.int .u8)) _ r2 Tryd.underlying23 rfl hi.out ?_
        simp only [Act.put, List.setIfInBounds_toArray, List.set_cons_succ, List.set_cons_zero]
        go_big_quiet_step (exact calls_bel _ (Nat.le_refl _) (eqByteA32_yes (partZ L 64 32) hpl _))
        refine quietV rfl (.bool false) (fun W' => by kernel_rfl) ?_
        simp only [Act.put, List.setIfInBounds_toArray, List.set_cons_succ, List.set_cons_zero]
        refine wpQuiet_nil ?_
        intro w1 hw1
        have HB1 : Hid (Below w.heap.size w w1) := HBR.out.trans (hw1.mono HBR.out.size)
        clear hw1 r1 r2 HBR
        go_wp2_with fail
        go_roundw
        case rel => first | exact ⟨3, by decide, rfl, HB1.out⟩ | exact ⟨_, _, _, _, _, _, _, _, _, _, _, _, _, _, _, _, _, _, ⟨3, by decide, rfl, HB1.out⟩, rfl⟩
        case measure => simp [intOf]
    · obtain rfl : k = n := by omega
      clear K1 K2
      go_wp2
      go_ret
      exact ⟨rfl, hbr⟩
end Go.Proofs.YtgpjdbkdnojbhaaDoor
namespace Go.Proofs.YtgpjdbkdnojbhaaDoor
open Go.ChangeShapes Go.WideShapes Go.ChangeAt Go.RowKit
set_option linter.unusedVariables false
theorem keys_of_cur {w : World} {g n : Nat} {cur : Array Value} {t : TypeId} {L : List Int} (h : w.heap[g]? = some (.cells cur t)) (hc : cur.toList.take (n * 32) = L.map (Value.int .u8)) (hL : L.length = n * 32) : Keys w g n L :=
  ⟨fun _ => (Array.getElem?_eq_some_iff.1 h).1, fun j hj => by
    rw [cell_of_row _ _ _ _ _ _ h]
    have e : (cur.toList.take (n * 32))[j]? = (L.map (Value.int .u8))[j]? := by rw [hc]
    rw [List.getElem?_take, if_pos hj, Array.getElem?_toList] at e
    rw [e]
    have hj' : j < L.length := by omega
    simp [List.getD_eq_getElem?_getD, hj']⟩
theorem froz_row {w : World} {g : Nat} {cur : Array Value} {t : TypeId} (h : w.heap[g]? = some (.cells cur t)) (j : Nat) : w.frozen? ⟨g, j, none⟩ = false := by simp [World.frozen?, h]
theorem isSome_row {w : World} {g : Nat} {zs : List Int} {t : TypeId} (h : w.heap[g]? = some (.cells (Iv .u8 zs) t)) (j : Nat) (hj : j < zs.length) : (w.cell? ⟨g, j, none⟩).isSome = true := by
  rw [RowAt.cell (show RowAt w g .u8 zs t from h) j hj]; rfl
theorem cur_of_kdfRow (R : List Int) (n : Nat) : (Iv .u8 (kdfRow R n n)).toList.take (n * 32) = (kdfL R n).map (Value.int .u8) := by
  have e : kdfRow R n n = kdfL R n := by unfold kdfRow zeroL; simp
  rw [e]
  show ((kdfL R n).map (Value.int .u8)).take (n * 32) = _
  exact List.take_of_length_le (by rw [List.length_map, kdfL_length]; omega)
set_option maxRecDepth 10000 in
set_option maxHeartbeats 4000000 in
theorem kdf_walk_some (K D : List Int) (hKb : Bytes K) (hDb : Bytes D) (hlk : K.length ≤ 1048576) (hle : D.length ≤ 1048576) (a1 : Option Addr) (cap1 : Nat) (a : Option Addr) (cap : Nat) (w : World) (ht : Tabs w) (n : Nat) (hn1 : 1 ≤ n) (hn2 : n ≤ 3)
    (hc1 : ∀ i, i < K.length → ∃ b o, a1 = some ⟨b, o, none⟩ ∧ b < w.heap.size ∧ w.cell? ⟨b, o + i, none⟩ = some (.int .u8 (K.getD i 0)))
    (hc : ∀ i, i < D.length → ∃ b o, a = some ⟨b, o, none⟩ ∧ b < w.heap.size ∧ w.cell? ⟨b, o + i, none⟩ = some (.int .u8 (D.getD i 0))) :
    Calls Tryd.prog 6 #[.int .i64 n, .slice a1 K.length cap1, .slice a D.length cap] w fun e w' => e = .returned (.bool true) ∧ Below w.heap.size w w' := by
  have HT : Hid _ := ht
  have HC : Hid (∀ W, Below w.heap.size w W → ∀ i, i < D.length → ∃ b o, a = some ⟨b, o, none⟩ ∧ b < W.heap.size ∧ W.cell? ⟨b, o + i, none⟩ = some (.int .u8 (D.getD i 0))) := fun W hW i hi => by
    obtain ⟨b, o, e1, e2, e3⟩ := hc i hi
    exact ⟨b, o, e1, by have := hW.size; omega, (hW.cell (p := ⟨b, o + i, none⟩) e2).trans e3⟩
  have HC1 : Hid (∀ W, Below w.heap.size w W → ∀ i, i < K.length → ∃ b o, a1 = some ⟨b, o, none⟩ ∧ b < W.heap.size ∧ W.cell? ⟨b, o + i, none⟩ = some (.int .u8 (K.getD i 0))) := fun W hW i hi => by
    obtain ⟨b, o, e1, e2, e3⟩ := hc1 i hi
    exact ⟨b, o, e1, by have := hW.size; omega, (hW.cell (p := ⟨b, o + i, none⟩) e2).trans e3⟩
  clear ht hc hc1
  obtain ⟨R, hR⟩ : ∃ x, hmacB K D = x := ⟨_, rfl⟩
  have HR : Hid (∀ x, hmacB K D = x → x = R) := fun x hx => by rw [← hx]; exact hR
  clear hR
  obtain ⟨L, hLd⟩ : ∃ x, kdfL R n = x := ⟨_, rfl⟩
  have hL : Hid (L.length = n * 32) := by show _ = _; rw [← hLd, kdfL_length]; omega
  have HLD : Hid (kdfL R n = L) := hLd
  obtain ⟨cg, hcgd⟩ : ∃ x, x = Iv .u8 (kdfRow R n n) := ⟨_, rfl⟩
  have HCG : Hid (cg.toList.take (n * 32) = L.map (Value.int .u8)) := by show _ = _; rw [hcgd, ← hLd]; exact cur_of_kdfRow R n
  have HCD : Hid (cg = Iv .u8 (kdfRow R n n)) := hcgd
  clear hLd hcgd
  have hbk : (1048576 < K.length) = False := by simp; omega
  have hbd : (1048576 < D.length) = False := by simp; omega
  go_enter Tryd.func6, Tryd.ntmps6
  have B_w : Hid (Below w.heap.size w w) := Below.refl _ _
  go_wp2_with fail
  refine (toByteS_any a1 K cap1 w hlk (HC1.out w B_w.out)).mono ?_
  rintro e w0 ⟨rfl, hw_w0⟩
  have B_w0 : Hid (Below w.heap.size w w0) := by show Below _ _ _; rw [hw_w0]; exact B_w.out.alloc B_w.out.size _
  have hs_w0 : w.heap.size < w0.heap.size := by rw [hw_w0]; simp
  have A0_w0 : Hid (w0.heap[w.heap.size]? = some (.cells (Iv .u8 K) 5)) := by show _ = _; rw [hw_w0]; exact heap_alloc_new _ _
  clear hw_w0
  go_wp2_with fail
  refine (toByteS_any a D cap w0 hle (HC.out w0 B_w0.out)).mono ?_
  rintro e w1 ⟨rfl, hw_w1⟩
  have B_w1 : Hid (Below w.heap.size w w1) := by show Below _ _ _; rw [hw_w1]; exact B_w0.out.alloc B_w0.out.size _
  have hs_w1 : w0.heap.size < w1.heap.size := by rw [hw_w1]; simp
  have A0_w1 : Hid (w1.heap[w.heap.size]? = some (.cells (Iv .u8 K) 5)) := by show _ = _; rw [hw_w1]; exact (heap_alloc_old _ _ (by omega)).trans A0_w0.out
  have A1_w1 : Hid (w1.heap[w0.heap.size]? = some (.cells (Iv .u8 D) 5)) := by show _ = _; rw [hw_w1]; exact heap_alloc_new _ _
  clear hw_w1
  clear A0_w0
  clear B_w0
  go_wp2_with fail
  refine (specKdf_any K D K.length D.length rfl hKb (by omega) w.heap.size 0 K.length w0.heap.size 0 D.length w1 (fun j hj => by rw [Nat.zero_add]; exact RowAt.cell (show RowAt w1 _ .u8 K _ from A0_w1.out) j hj) rfl (by omega) hDb ((Array.getElem?_eq_some_iff.1 A1_w1.out).1) (fun j hj => by rw [Nat.zero_add]; exact RowAt.cell (show RowAt w1 _ .u8 D _ from A1_w1.out) j hj) n hn1 hn2 R HR).mono ?_
  rintro e w2 ⟨o, BO, rfl, hBO, hO, hb_w2⟩
  obtain ⟨go, co, cur, rfl, hgo, hrow, hnc, hcm, hcs, htake⟩ : ∃ go co cur, o = .slice (some ⟨go, 0, none⟩) n co ∧ BO ≤ go ∧ w2.heap[go]? = some (.cells cur 23) ∧ n ≤ co ∧ co ≤ maxLen ∧ cur.size = co * 32 ∧ cur.toList.take (n * 32) = L.map (Value.int .u8) := by
    rcases hO with ⟨h, _⟩ | ⟨_, _, ⟨_, h⟩ | ⟨g, c, cu, e1, e2, e3, e4, e5, e6, e7⟩⟩
    · omega
    · omega
    · exact ⟨g, c, cu, e1, e2, e3, e4, e5, e6, by rw [e7, HLD.out]⟩
  have hlo : go < w2.heap.size := (Array.getElem?_eq_some_iff.1 hrow).1
  have B_w2 : Hid (Below w.heap.size w w2) := B_w1.out.trans (hb_w2.mono B_w1.out.size)
  have hs_w2 := hb_w2.size
  have A0_w2 : Hid (w2.heap[w.heap.size]? = some (.cells (Iv .u8 K) 5)) := (hb_w2.block _ (by omega)).trans A0_w1.out
  have A1_w2 : Hid (w2.heap[w0.heap.size]? = some (.cells (Iv .u8 D) 5)) := (hb_w2.block _ (by omega)).trans A1_w1.out
  have O_w2 : Hid (w2.heap[go]? = some (.cells cur 23)) := hrow
  have HCO : Hid (cur.toList.take (n * 32) = L.map (Value.int .u8)) := htake
  have hgow : w1.heap.size ≤ go := by omega
  clear hrow htake hcs hb_w2 B_w1
  clear A0_w1 A1_w1
  clear A0_w2
  clear A1_w2
  go_wp2_with fail
  refine (toByteS_any a1 K cap1 w2 hlk (HC1.out w2 B_w2.out)).mono ?_
  rintro e w3 ⟨rfl, hw_w3⟩
  have B_w3 : Hid (Below w.heap.size w w3) := by show Below _ _ _; rw [hw_w3]; exact B_w2.out.alloc B_w2.out.size _
  have hs_w3 : w2.heap.size < w3.heap.size := by rw [hw_w3]; simp
  have O_w3 : Hid (w3.heap[go]? = some (.cells cur 23)) := by show _ = _; rw [hw_w3]; exact (heap_alloc_old _ _ (by omega)).trans O_w2.out
  have X1_w3 : Hid (w3.heap[w2.heap.size]? = some (.cells (Iv .u8 K) 5)) := by show _ = _; rw [hw_w3]; exact heap_alloc_new _ _
  clear hw_w3
  clear O_w2
  clear B_w2
  go_wp2_with fail
  refine (toByteS_any a D cap w3 hle (HC.out w3 B_w3.out)).mono ?_
  rintro e w4 ⟨rfl, hw_w4⟩
  have B_w4 : Hid (Below w.heap.size w w4) := by show Below _ _ _; rw [hw_w4]; exact B_w3.out.alloc B_w3.out.size _
  have hs_w4 : w3.heap.size < w4.heap.size := by rw [hw_w4]; simp
  have O_w4 : Hid (w4.heap[go]? = some (.cells cur 23)) := by show _ = _; rw [hw_w4]; exact (heap_alloc_old _ _ (by omega)).trans O_w3.out
  have X1_w4 : Hid (w4.heap[w2.heap.size]? = some (.cells (Iv .u8 K) 5)) := by show _ = _; rw [hw_w4]; exact (heap_alloc_old _ _ (by omega)).trans X1_w3.out
  have X2_w4 : Hid (w4.heap[w3.heap.size]? = some (.cells (Iv .u8 D) 5)) := by show _ = _; rw [hw_w4]; exact heap_alloc_new _ _
  clear hw_w4
  clear O_w3 X1_w3
  clear B_w3
  go_wp2_with fail
  refine (implKdf_any K D K.length rfl hKb (by omega) (w2.heap.size) 0 K.length (Nat.le_refl _) (by omega) (some ⟨w3.heap.size, 0, none⟩) D.length D.length w4 (fun j hj => by rw [Nat.zero_add]; exact RowAt.cell (show RowAt w4 _ .u8 K _ from X1_w4.out) j hj) ((Array.getElem?_eq_some_iff.1 X1_w4.out).1) (partOk_row X2_w4.out hDb (by omega)) (by omega) (HT.out.later B_w4.out (Nat.le_refl _)) n hn1 hn2 R HR).mono ?_
  rintro e w5 ⟨gg, rfl, hg_gg, hr_gg, hb_w5⟩
  have hl_gg : gg < w5.heap.size := (Array.getElem?_eq_some_iff.1 hr_gg).1
  have B_w5 : Hid (Below w.heap.size w w5) := B_w4.out.trans (hb_w5.mono B_w4.out.size)
  have hs_w5 := hb_w5.size
  have O_w5 : Hid (w5.heap[go]? = some (.cells cur 23)) := (hb_w5.block _ (by omega)).trans O_w4.out
  have X1_w5 : Hid (w5.heap[w2.heap.size]? = some (.cells (Iv .u8 K) 5)) := (hb_w5.block _ (by omega)).trans X1_w4.out
  have X2_w5 : Hid (w5.heap[w3.heap.size]? = some (.cells (Iv .u8 D) 5)) := (hb_w5.block _ (by omega)).trans X2_w4.out
  have G_w5 : Hid (w5.heap[gg]? = some (.cells cg 23)) := by show _ = _; rw [HCD.out]; exact hr_gg
  clear hr_gg hb_w5 B_w4
  clear O_w4 X1_w4 X2_w4
  go_wp2_with fail
  refine (eqByteA32S_yes n gg n go co L hn2 hL.out w5 (keys_of_cur G_w5.out HCG.out hL.out) (keys_of_cur O_w5.out HCO.out hL.out)).mono ?_
  rintro e w6 ⟨rfl, hb_w6⟩
  have B_w6 : Hid (Below w.heap.size w w6) := B_w5.out.trans (hb_w6.mono B_w5.out.size)
  have hs_w6 := hb_w6.size
  have O_w6 : Hid (w6.heap[go]? = some (.cells cur 23)) := (hb_w6.block _ (by omega)).trans O_w5.out
  have X1_w6 : Hid (w6.heap[w2.heap.size]? = some (.cells (Iv .u8 K) 5)) := (hb_w6.block _ (by omega)).trans X1_w5.out
  have X2_w6 : Hid (w6.heap[w3.heap.size]? = some (.cells (Iv .u8 D) 5)) := (hb_w6.block _ (by omega)).trans X2_w5.out
  have G_w6 : Hid (w6.heap[gg]? = some (.cells cg 23)) := (hb_w6.block _ (by omega)).trans G_w5.out
  clear hb_w6 B_w5
  clear O_w5 X1_w5 X2_w5 G_w5
  go_wp2_with fail
  refine (toByteS_any a1 K cap1 w6 hlk (HC1.out w6 B_w6.out)).mono ?_
  rintro e w7 ⟨rfl, hw_w7⟩
  have B_w7 : Hid (Below w.heap.size w w7) := by show Below _ _ _; rw [hw_w7]; exact B_w6.out.alloc B_w6.out.size _
  have hs_w7 : w6.heap.size < w7.heap.size := by rw [hw_w7]; simp
  have O_w7 : Hid (w7.heap[go]? = some (.cells cur 23)) := by show _ = _; rw [hw_w7]; exact (heap_alloc_old _ _ (by omega)).trans O_w6.out
  have X1_w7 : Hid (w7.heap[w2.heap.size]? = some (.cells (Iv .u8 K) 5)) := by show _ = _; rw [hw_w7]; exact (heap_alloc_old _ _ (by omega)).trans X1_w6.out
  have X2_w7 : Hid (w7.heap[w3.heap.size]? = some (.cells (Iv .u8 D) 5)) := by show _ = _; rw [hw_w7]; exact (heap_alloc_old _ _ (by omega)).trans X2_w6.out
  have G_w7 : Hid (w7.heap[gg]? = some (.cells cg 23)) := by show _ = _; rw [hw_w7]; exact (heap_alloc_old _ _ (by omega)).trans G_w6.out
  have Y1_w7 : Hid (w7.heap[w6.heap.size]? = some (.cells (Iv .u8 K) 5)) := by show _ = _; rw [hw_w7]; exact heap_alloc_new _ _
  clear hw_w7
  clear O_w6 X1_w6 X2_w6 G_w6
  clear B_w6
  go_wp2_with fail
  refine (eqByteS_yes (w2.heap.size) (w6.heap.size) K _ _ w7 hlk (fun j hj => RowAt.cell (show RowAt w7 _ .u8 K _ from X1_w7.out) j hj) (fun j hj => RowAt.cell (show RowAt w7 _ .u8 K _ from Y1_w7.out) j hj)).mono ?_
  rintro e w8 ⟨rfl, d_w8, hd_w8⟩
  have B_w8 : Hid (Below w.heap.size w w8) := by show Below _ _ _; rw [hd_w8]; exact below_drews B_w7.out _
  have hs_w8 : w7.heap.size ≤ w8.heap.size := by rw [hd_w8]; exact Nat.le_refl _
  have O_w8 : Hid (w8.heap[go]? = some (.cells cur 23)) := by show _ = _; rw [hd_w8]; exact O_w7.out
  have X1_w8 : Hid (w8.heap[w2.heap.size]? = some (.cells (Iv .u8 K) 5)) := by show _ = _; rw [hd_w8]; exact X1_w7.out
  have X2_w8 : Hid (w8.heap[w3.heap.size]? = some (.cells (Iv .u8 D) 5)) := by show _ = _; rw [hd_w8]; exact X2_w7.out
  have G_w8 : Hid (w8.heap[gg]? = some (.cells cg 23)) := by show _ = _; rw [hd_w8]; exact G_w7.out
  have Y1_w8 : Hid (w8.heap[w6.heap.size]? = some (.cells (Iv .u8 K) 5)) := by show _ = _; rw [hd_w8]; exact Y1_w7.out
  clear hd_w8
  clear O_w7 X1_w7 X2_w7 G_w7 Y1_w7
  clear B_w7
  go_wp2_with fail
  refine (toByteS_any a D cap w8 hle (HC.out w8 B_w8.out)).mono ?_
  rintro e w9 ⟨rfl, hw_w9⟩
  have B_w9 : Hid (Below w.heap.size w w9) := by show Below _ _ _; rw [hw_w9]; exact B_w8.out.alloc B_w8.out.size _
  have hs_w9 : w8.heap.size < w9.heap.size := by rw [hw_w9]; simp
  have O_w9 : Hid (w9.heap[go]? = some (.cells cur 23)) := by show _ = _; rw [hw_w9]; exact (heap_alloc_old _ _ (by omega)).trans O_w8.out
  have X1_w9 : Hid (w9.heap[w2.heap.size]? = some (.cells (Iv .u8 K) 5)) := by show _ = _; rw [hw_w9]; exact (heap_alloc_old _ _ (by omega)).trans X1_w8.out
  have X2_w9 : Hid (w9.heap[w3.heap.size]? = some (.cells (Iv .u8 D) 5)) := by show _ = _; rw [hw_w9]; exact (heap_alloc_old _ _ (by omega)).trans X2_w8.out
  have G_w9 : Hid (w9.heap[gg]? = some (.cells cg 23)) := by show _ = _; rw [hw_w9]; exact (heap_alloc_old _ _ (by omega)).trans G_w8.out
  have Y1_w9 : Hid (w9.heap[w6.heap.size]? = some (.cells (Iv .u8 K) 5)) := by show _ = _; rw [hw_w9]; exact (heap_alloc_old _ _ (by omega)).trans Y1_w8.out
  have Y2_w9 : Hid (w9.heap[w8.heap.size]? = some (.cells (Iv .u8 D) 5)) := by show _ = _; rw [hw_w9]; exact heap_alloc_new _ _
  clear hw_w9
  clear O_w8 X1_w8 X2_w8 G_w8 Y1_w8
  clear B_w8
  go_wp2_with fail
  refine (eqByteS_yes (w3.heap.size) (w8.heap.size) D _ _ w9 hle (fun j hj => RowAt.cell (show RowAt w9 _ .u8 D _ from X2_w9.out) j hj) (fun j hj => RowAt.cell (show RowAt w9 _ .u8 D _ from Y2_w9.out) j hj)).mono ?_
  rintro e w10 ⟨rfl, d_w10, hd_w10⟩
  have B_w10 : Hid (Below w.heap.size w w10) := by show Below _ _ _; rw [hd_w10]; exact below_drews B_w9.out _
  have hs_w10 : w9.heap.size ≤ w10.heap.size := by rw [hd_w10]; exact Nat.le_refl _
  have O_w10 : Hid (w10.heap[go]? = some (.cells cur 23)) := by show _ = _; rw [hd_w10]; exact O_w9.out
  have X1_w10 : Hid (w10.heap[w2.heap.size]? = some (.cells (Iv .u8 K) 5)) := by show _ = _; rw [hd_w10]; exact X1_w9.out
  have X2_w10 : Hid (w10.heap[w3.heap.size]? = some (.cells (Iv .u8 D) 5)) := by show _ = _; rw [hd_w10]; exact X2_w9.out
  have G_w10 : Hid (w10.heap[gg]? = some (.cells cg 23)) := by show _ = _; rw [hd_w10]; exact G_w9.out
  have Y1_w10 : Hid (w10.heap[w6.heap.size]? = some (.cells (Iv .u8 K) 5)) := by show _ = _; rw [hd_w10]; exact Y1_w9.out
  have Y2_w10 : Hid (w10.heap[w8.heap.size]? = some (.cells (Iv .u8 D) 5)) := by show _ = _; rw [hd_w10]; exact Y2_w9.out
  clear hd_w10
  clear O_w9 X1_w9 X2_w9 G_w9 Y1_w9 Y2_w9
  clear B_w9
  go_wp2_with fail
  refine (markByteS_any w2.heap.size K.length K.length 1 w10 (by omega) (by omega) (fun j hj => isSome_row X1_w10.out j hj) (fun j _ => froz_row X1_w10.out j)).mono ?_
  rintro e w11 ⟨rfl, hM_w11⟩
  have B_w11 : Hid (Below w.heap.size w w11) := hM_w11.below _ _ B_w10.out (by omega)
  have hs_w11 : w10.heap.size ≤ w11.heap.size := by rw [hM_w11.size]; exact Nat.le_refl _
  clear X1_w10
  have O_w11 : Hid (w11.heap[go]? = some (.cells cur 23)) := (hM_w11.far _ (by omega)).trans O_w10.out
  have X2_w11 : Hid (w11.heap[w3.heap.size]? = some (.cells (Iv .u8 D) 5)) := (hM_w11.far _ (by omega)).trans X2_w10.out
  have G_w11 : Hid (w11.heap[gg]? = some (.cells cg 23)) := (hM_w11.far _ (by omega)).trans G_w10.out
  have Y1_w11 : Hid (w11.heap[w6.heap.size]? = some (.cells (Iv .u8 K) 5)) := (hM_w11.far _ (by omega)).trans Y1_w10.out
  have Y2_w11 : Hid (w11.heap[w8.heap.size]? = some (.cells (Iv .u8 D) 5)) := (hM_w11.far _ (by omega)).trans Y2_w10.out
  clear hM_w11 B_w10
  clear O_w10 X2_w10 G_w10 Y1_w10 Y2_w10
  go_wp2_with fail
  refine (markByteS_any w3.heap.size D.length D.length (1 + K.length) w11 (by omega) (by omega) (fun j hj => isSome_row X2_w11.out j hj) (fun j _ => froz_row X2_w11.out j)).mono ?_
  rintro e w12 ⟨rfl, hM_w12⟩
  have B_w12 : Hid (Below w.heap.size w w12) := hM_w12.below _ _ B_w11.out (by omega)
  have hs_w12 : w11.heap.size ≤ w12.heap.size := by rw [hM_w12.size]; exact Nat.le_refl _
  clear X2_w11
  have O_w12 : Hid (w12.heap[go]? = some (.cells cur 23)) := (hM_w12.far _ (by omega)).trans O_w11.out
  have G_w12 : Hid (w12.heap[gg]? = some (.cells cg 23)) := (hM_w12.far _ (by omega)).trans G_w11.out
  have Y1_w12 : Hid (w12.heap[w6.heap.size]? = some (.cells (Iv .u8 K) 5)) := (hM_w12.far _ (by omega)).trans Y1_w11.out
  have Y2_w12 : Hid (w12.heap[w8.heap.size]? = some (.cells (Iv .u8 D) 5)) := (hM_w12.far _ (by omega)).trans Y2_w11.out
  clear hM_w12 B_w11
  clear O_w11 G_w11 Y1_w11 Y2_w11
  obtain ⟨q, hq⟩ : ∃ q : Nat, q = 1 + K.length + D.length := ⟨_, rfl⟩
  rw [← hq]
  clear hq
  go_wp2_with fail
  refine (eqByteA32S_yes n gg n go co L hn2 hL.out w12 (keys_of_cur G_w12.out HCG.out hL.out) (keys_of_cur O_w12.out HCO.out hL.out)).mono ?_
  rintro e w13 ⟨rfl, hb_w13⟩
  have B_w13 : Hid (Below w.heap.size w w13) := B_w12.out.trans (hb_w13.mono B_w12.out.size)
  have hs_w13 := hb_w13.size
  have O_w13 : Hid (w13.heap[go]? = some (.cells cur 23)) := (hb_w13.block _ (by omega)).trans O_w12.out
  have G_w13 : Hid (w13.heap[gg]? = some (.cells cg 23)) := (hb_w13.block _ (by omega)).trans G_w12.out
  have Y1_w13 : Hid (w13.heap[w6.heap.size]? = some (.cells (Iv .u8 K) 5)) := (hb_w13.block _ (by omega)).trans Y1_w12.out
  have Y2_w13 : Hid (w13.heap[w8.heap.size]? = some (.cells (Iv .u8 D) 5)) := (hb_w13.block _ (by omega)).trans Y2_w12.out
  clear hb_w13 B_w12
  clear O_w12 G_w12 Y1_w12 Y2_w12
  go_wp2_with fail
  refine (markByteA32S_any gg n n 1 w13 hn2 (Nat.le_refl _) (by decide) (fun j hj => by rw [(keys_of_cur G_w13.out HCG.out hL.out).cell j hj]; rfl) (fun j _ => froz_row G_w13.out j)).mono ?_
  rintro e w14 ⟨rfl, hM_w14⟩
  have MK : Hid (∀ j, j < n * 32 → w14.cell? ⟨gg, j, none⟩ = some (.int .u8 (markI 1 j))) := hM_w14.cells
  have B_w14 : Hid (Below w.heap.size w w14) := hM_w14.below _ _ B_w13.out (by omega)
  have hs_w14 : w13.heap.size ≤ w14.heap.size := by rw [hM_w14.size]; exact Nat.le_refl _
  clear G_w13
  have O_w14 : Hid (w14.heap[go]? = some (.cells cur 23)) := (hM_w14.far _ (by omega)).trans O_w13.out
  have Y1_w14 : Hid (w14.heap[w6.heap.size]? = some (.cells (Iv .u8 K) 5)) := (hM_w14.far _ (by omega)).trans Y1_w13.out
  have Y2_w14 : Hid (w14.heap[w8.heap.size]? = some (.cells (Iv .u8 D) 5)) := (hM_w14.far _ (by omega)).trans Y2_w13.out
  clear hM_w14 B_w13
  clear O_w13 Y1_w13 Y2_w13
  obtain ⟨p, hp⟩ : ∃ p : Nat, 1 + n * 32 = p := ⟨_, rfl⟩
  rw [hp]
  have HPP : Hid _ := hp
  clear hp
  go_wp2_with fail
  refine (heldByteA32S_any gg n n 1 w14 hn2 (Nat.le_refl _) (by decide) MK.out).mono ?_
  rintro e w15 ⟨rfl, d_w15, hd_w15⟩
  have B_w15 : Hid (Below w.heap.size w w15) := by show Below _ _ _; rw [hd_w15]; exact below_drews B_w14.out _
  have hs_w15 : w14.heap.size ≤ w15.heap.size := by rw [hd_w15]; exact Nat.le_refl _
  have O_w15 : Hid (w15.heap[go]? = some (.cells cur 23)) := by show _ = _; rw [hd_w15]; exact O_w14.out
  have Y1_w15 : Hid (w15.heap[w6.heap.size]? = some (.cells (Iv .u8 K) 5)) := by show _ = _; rw [hd_w15]; exact Y1_w14.out
  have Y2_w15 : Hid (w15.heap[w8.heap.size]? = some (.cells (Iv .u8 D) 5)) := by show _ = _; rw [hd_w15]; exact Y2_w14.out
  clear hd_w15
  clear O_w14 Y1_w14 Y2_w14
  clear B_w14
  clear MK
  rw [HPP.out]
  clear HPP
  go_wp2_with fail
  refine (toByteS_any a1 K cap1 w15 hlk (HC1.out w15 B_w15.out)).mono ?_
  rintro e w16 ⟨rfl, hw_w16⟩
  have B_w16 : Hid (Below w.heap.size w w16) := by show Below _ _ _; rw [hw_w16]; exact B_w15.out.alloc B_w15.out.size _
  have hs_w16 : w15.heap.size < w16.heap.size := by rw [hw_w16]; simp
  have O_w16 : Hid (w16.heap[go]? = some (.cells cur 23)) := by show _ = _; rw [hw_w16]; exact (heap_alloc_old _ _ (by omega)).trans O_w15.out
  have Y1_w16 : Hid (w16.heap[w6.heap.size]? = some (.cells (Iv .u8 K) 5)) := by show _ = _; rw [hw_w16]; exact (heap_alloc_old _ _ (by omega)).trans Y1_w15.out
  have Y2_w16 : Hid (w16.heap[w8.heap.size]? = some (.cells (Iv .u8 D) 5)) := by show _ = _; rw [hw_w16]; exact (heap_alloc_old _ _ (by omega)).trans Y2_w15.out
  have Z1_w16 : Hid (w16.heap[w15.heap.size]? = some (.cells (Iv .u8 K) 5)) := by show _ = _; rw [hw_w16]; exact heap_alloc_new _ _
  clear hw_w16
  clear O_w15 Y1_w15 Y2_w15
  clear B_w15
  go_wp2_with fail
  refine (toByteS_any a D cap w16 hle (HC.out w16 B_w16.out)).mono ?_
  rintro e w17 ⟨rfl, hw_w17⟩
  have B_w17 : Hid (Below w.heap.size w w17) := by show Below _ _ _; rw [hw_w17]; exact B_w16.out.alloc B_w16.out.size _
  have hs_w17 : w16.heap.size < w17.heap.size := by rw [hw_w17]; simp
  have O_w17 : Hid (w17.heap[go]? = some (.cells cur 23)) := by show _ = _; rw [hw_w17]; exact (heap_alloc_old _ _ (by omega)).trans O_w16.out
  have Y1_w17 : Hid (w17.heap[w6.heap.size]? = some (.cells (Iv .u8 K) 5)) := by show _ = _; rw [hw_w17]; exact (heap_alloc_old _ _ (by omega)).trans Y1_w16.out
  have Y2_w17 : Hid (w17.heap[w8.heap.size]? = some (.cells (Iv .u8 D) 5)) := by show _ = _; rw [hw_w17]; exact (heap_alloc_old _ _ (by omega)).trans Y2_w16.out
  have Z1_w17 : Hid (w17.heap[w15.heap.size]? = some (.cells (Iv .u8 K) 5)) := by show _ = _; rw [hw_w17]; exact (heap_alloc_old _ _ (by omega)).trans Z1_w16.out
  have Z2_w17 : Hid (w17.heap[w16.heap.size]? = some (.cells (Iv .u8 D) 5)) := by show _ = _; rw [hw_w17]; exact heap_alloc_new _ _
  clear hw_w17
  clear O_w16 Y1_w16 Y2_w16 Z1_w16
  clear B_w16
  go_wp2_with fail
  refine (implKdf_any K D K.length rfl hKb (by omega) (w15.heap.size) 0 K.length (Nat.le_refl _) (by omega) (some ⟨w16.heap.size, 0, none⟩) D.length D.length w17 (fun j hj => by rw [Nat.zero_add]; exact RowAt.cell (show RowAt w17 _ .u8 K _ from Z1_w17.out) j hj) ((Array.getElem?_eq_some_iff.1 Z1_w17.out).1) (partOk_row Z2_w17.out hDb (by omega)) (by omega) (HT.out.later B_w17.out (Nat.le_refl _)) n hn1 hn2 R HR).mono ?_
  rintro e w18 ⟨gh, rfl, hg_gh, hr_gh, hb_w18⟩
  have hl_gh : gh < w18.heap.size := (Array.getElem?_eq_some_iff.1 hr_gh).1
  have B_w18 : Hid (Below w.heap.size w w18) := B_w17.out.trans (hb_w18.mono B_w17.out.size)
  have hs_w18 := hb_w18.size
  have O_w18 : Hid (w18.heap[go]? = some (.cells cur 23)) := (hb_w18.block _ (by omega)).trans O_w17.out
  have Y1_w18 : Hid (w18.heap[w6.heap.size]? = some (.cells (Iv .u8 K) 5)) := (hb_w18.block _ (by omega)).trans Y1_w17.out
  have Y2_w18 : Hid (w18.heap[w8.heap.size]? = some (.cells (Iv .u8 D) 5)) := (hb_w18.block _ (by omega)).trans Y2_w17.out
  have Z1_w18 : Hid (w18.heap[w15.heap.size]? = some (.cells (Iv .u8 K) 5)) := (hb_w18.block _ (by omega)).trans Z1_w17.out
  have Z2_w18 : Hid (w18.heap[w16.heap.size]? = some (.cells (Iv .u8 D) 5)) := (hb_w18.block _ (by omega)).trans Z2_w17.out
  have H_w18 : Hid (w18.heap[gh]? = some (.cells cg 23)) := by show _ = _; rw [HCD.out]; exact hr_gh
  clear hr_gh hb_w18 B_w17
  clear O_w17 Y1_w17 Y2_w17 Z1_w17 Z2_w17
  go_wp2_with fail
  refine (eqByteA32S_yes n gh n go co L hn2 hL.out w18 (keys_of_cur H_w18.out HCG.out hL.out) (keys_of_cur O_w18.out HCO.out hL.out)).mono ?_
  rintro e w19 ⟨rfl, hb_w19⟩
  have B_w19 : Hid (Below w.heap.size w w19) := B_w18.out.trans (hb_w19.mono B_w18.out.size)
  have hs_w19 := hb_w19.size
  have O_w19 : Hid (w19.heap[go]? = some (.cells cur 23)) := (hb_w19.block _ (by omega)).trans O_w18.out
  have Y1_w19 : Hid (w19.heap[w6.heap.size]? = some (.cells (Iv .u8 K) 5)) := (hb_w19.block _ (by omega)).trans Y1_w18.out
  have Y2_w19 : Hid (w19.heap[w8.heap.size]? = some (.cells (Iv .u8 D) 5)) := (hb_w19.block _ (by omega)).trans Y2_w18.out
  have Z1_w19 : Hid (w19.heap[w15.heap.size]? = some (.cells (Iv .u8 K) 5)) := (hb_w19.block _ (by omega)).trans Z1_w18.out
  have Z2_w19 : Hid (w19.heap[w16.heap.size]? = some (.cells (Iv .u8 D) 5)) := (hb_w19.block _ (by omega)).trans Z2_w18.out
  have H_w19 : Hid (w19.heap[gh]? = some (.cells cg 23)) := (hb_w19.block _ (by omega)).trans H_w18.out
  clear hb_w19 B_w18
  clear O_w18 Y1_w18 Y2_w18 Z1_w18 Z2_w18 H_w18
  go_wp2
  go_ret
  exact ⟨rfl, B_w19.out⟩
end Go.Proofs.YtgpjdbkdnojbhaaDoor
namespace Go.Proofs.YtgpjdbkdnojbhaaDoor
open Go.ChangeShapes Go.WideShapes Go.ChangeAt Go.RowKit
set_option linter.unusedVariables false
theorem implKdf_nil (q : Int) (h : q < 1 ∨ 3 < q) (v1 v2 : Value) (w : World) : Calls Tryd.prog 22 #[.int .i64 q, v1, v2] w fun e w' => e = .returned (.slice none 0 0) ∧ w' = w := by
  by_cases h1 : q < 1
  · have e1 : (q < 1) = True := by simp [h1]
    go_enter Tryd.func22, Tryd.ntmps22
    go_wp2
    go_ret
    exact ⟨rfl, rfl⟩
  · have e1 : (q < 1) = False := by simp [h1]
    have e2 : (3 < q) = True := by simp; omega
    go_enter Tryd.func22, Tryd.ntmps22
    go_wp2
    go_ret
    exact ⟨rfl, rfl⟩
theorem specKdf_nil (q : Int) (h : q < 1 ∨ 3 < q) (v1 v2 : Value) (w : World) : Calls Tryd.prog 21 #[.int .i64 q, v1, v2] w fun e w' => e = .returned (.slice none 0 0) ∧ w' = w := by
  by_cases h1 : q < 1
  · have e1 : (q < 1) = True := by simp [h1]
    go_enter Tryd.func21, Tryd.ntmps21
    go_wp2
    go_ret
    exact ⟨rfl, rfl⟩
  · have e1 : (q < 1) = False := by simp [h1]
    have e2 : (3 < q) = True := by simp; omega
    go_enter Tryd.func21, Tryd.ntmps21
    go_wp2
    go_ret
    exact ⟨rfl, rfl⟩
theorem eqByteA32S_nil (w : World) : Calls Tryd.prog 23 #[.slice none 0 0, .slice none 0 0] w fun e w' => e = .returned (.bool true) ∧ w' = w := by
  go_enter Tryd.func23, Tryd.ntmps23
  go_wp2
  go_loopw [5] (fun i wr => i = .int .i64 0 ∧ wr = w) (fun _ _ => 0)
  case atStart => exact ⟨rfl, rfl⟩
  case round =>
    obtain ⟨rfl, rfl⟩ := hrel
    go_wp2
    go_ret
    exact ⟨rfl, rfl⟩
theorem markByteA32S_nil (w : World) : Calls Tryd.prog 25 #[.slice none 0 0, .int .i64 1] w fun e w' => e = .returned (.int .i64 1) ∧ w' = w := by
  go_enter Tryd.func25, Tryd.ntmps25
  go_wp2
  go_loopw [1, 5] (fun k i wr => k = .int .i64 1 ∧ i = .int .i64 0 ∧ wr = w) (fun _ _ _ => 0)
  case atStart => exact ⟨rfl, rfl, rfl⟩
  case round =>
    obtain ⟨rfl, rfl, rfl⟩ := hrel
    go_wp2
    go_ret
    exact ⟨rfl, rfl⟩
theorem heldByteA32S_nil (w : World) : Calls Tryd.prog 26 #[.slice none 0 0, .int .i64 1] w fun e w' => e = .returned (.int .i64 1) ∧ w' = w := by
  go_enter Tryd.func26, Tryd.ntmps26
  go_wp2
  go_loopw [1, 5] (fun k i wr => k = .int .i64 1 ∧ i = .int .i64 0 ∧ wr = w) (fun _ _ _ => 0)
  case atStart => exact ⟨rfl, rfl, rfl⟩
  case round =>
    obtain ⟨rfl, rfl, rfl⟩ := hrel
    go_wp2
    go_ret
    exact ⟨rfl, rfl⟩
set_option maxRecDepth 10000 in
set_option maxHeartbeats 4000000 in
theorem kdf_walk_nil (K D : List Int) (hKb : Bytes K) (hDb : Bytes D) (hlk : K.length ≤ 1048576) (hle : D.length ≤ 1048576) (a1 : Option Addr) (cap1 : Nat) (a : Option Addr) (cap : Nat) (w : World) (nI : Int) (hn : nI < 1 ∨ 3 < nI)
    (hc1 : ∀ i, i < K.length → ∃ b o, a1 = some ⟨b, o, none⟩ ∧ b < w.heap.size ∧ w.cell? ⟨b, o + i, none⟩ = some (.int .u8 (K.getD i 0)))
    (hc : ∀ i, i < D.length → ∃ b o, a = some ⟨b, o, none⟩ ∧ b < w.heap.size ∧ w.cell? ⟨b, o + i, none⟩ = some (.int .u8 (D.getD i 0))) :
    Calls Tryd.prog 6 #[.int .i64 nI, .slice a1 K.length cap1, .slice a D.length cap] w fun e w' => e = .returned (.bool true) ∧ Below w.heap.size w w' := by
  have HC : Hid (∀ W, Below w.heap.size w W → ∀ i, i < D.length → ∃ b o, a = some ⟨b, o, none⟩ ∧ b < W.heap.size ∧ W.cell? ⟨b, o + i, none⟩ = some (.int .u8 (D.getD i 0))) := fun W hW i hi => by
    obtain ⟨b, o, e1, e2, e3⟩ := hc i hi
    exact ⟨b, o, e1, by have := hW.size; omega, (hW.cell (p := ⟨b, o + i, none⟩) e2).trans e3⟩
  have HC1 : Hid (∀ W, Below w.heap.size w W → ∀ i, i < K.length → ∃ b o, a1 = some ⟨b, o, none⟩ ∧ b < W.heap.size ∧ W.cell? ⟨b, o + i, none⟩ = some (.int .u8 (K.getD i 0))) := fun W hW i hi => by
    obtain ⟨b, o, e1, e2, e3⟩ := hc1 i hi
    exact ⟨b, o, e1, by have := hW.size; omega, (hW.cell (p := ⟨b, o + i, none⟩) e2).trans e3⟩
  have HNI : Hid _ := hn
  clear hc hc1 hn
  have hbk : (1048576 < K.length) = False := by simp; omega
  have hbd : (1048576 < D.length) = False := by simp; omega
  go_enter Tryd.func6, Tryd.ntmps6
  have B_w : Hid (Below w.heap.size w w) := Below.refl _ _
  go_wp2_with fail
  refine (toByteS_any a1 K cap1 w hlk (HC1.out w B_w.out)).mono ?_
  rintro e w0 ⟨rfl, hw_w0⟩
  have B_w0 : Hid (Below w.heap.size w w0) := by show Below _ _ _; rw [hw_w0]; exact B_w.out.alloc B_w.out.size _
  have hs_w0 : w.heap.size < w0.heap.size := by rw [hw_w0]; simp
  have A0_w0 : Hid (w0.heap[w.heap.size]? = some (.cells (Iv .u8 K) 5)) := by show _ = _; rw [hw_w0]; exact heap_alloc_new _ _
  clear hw_w0
  go_wp2_with fail
  refine (toByteS_any a D cap w0 hle (HC.out w0 B_w0.out)).mono ?_
  rintro e w1 ⟨rfl, hw_w1⟩
  have B_w1 : Hid (Below w.heap.size w w1) := by show Below _ _ _; rw [hw_w1]; exact B_w0.out.alloc B_w0.out.size _
  have hs_w1 : w0.heap.size < w1.heap.size := by rw [hw_w1]; simp
  have A0_w1 : Hid (w1.heap[w.heap.size]? = some (.cells (Iv .u8 K) 5)) := by show _ = _; rw [hw_w1]; exact (heap_alloc_old _ _ (by omega)).trans A0_w0.out
  have A1_w1 : Hid (w1.heap[w0.heap.size]? = some (.cells (Iv .u8 D) 5)) := by show _ = _; rw [hw_w1]; exact heap_alloc_new _ _
  clear hw_w1
  clear A0_w0
  clear B_w0
  go_wp2_with fail
  refine (specKdf_nil nI HNI.out _ _ w1).mono ?_
  rintro e wx ⟨rfl, hwx⟩
  replace hwx := hwx.symm
  subst hwx
  clear A0_w1
  clear A1_w1
  go_wp2_with fail
  refine (toByteS_any a1 K cap1 w1 hlk (HC1.out w1 B_w1.out)).mono ?_
  rintro e w3 ⟨rfl, hw_w3⟩
  have B_w3 : Hid (Below w.heap.size w w3) := by show Below _ _ _; rw [hw_w3]; exact B_w1.out.alloc B_w1.out.size _
  have hs_w3 : w1.heap.size < w3.heap.size := by rw [hw_w3]; simp
  have X1_w3 : Hid (w3.heap[w1.heap.size]? = some (.cells (Iv .u8 K) 5)) := by show _ = _; rw [hw_w3]; exact heap_alloc_new _ _
  clear hw_w3
  clear B_w1
  go_wp2_with fail
  refine (toByteS_any a D cap w3 hle (HC.out w3 B_w3.out)).mono ?_
  rintro e w4 ⟨rfl, hw_w4⟩
  have B_w4 : Hid (Below w.heap.size w w4) := by show Below _ _ _; rw [hw_w4]; exact B_w3.out.alloc B_w3.out.size _
  have hs_w4 : w3.heap.size < w4.heap.size := by rw [hw_w4]; simp
  have X1_w4 : Hid (w4.heap[w1.heap.size]? = some (.cells (Iv .u8 K) 5)) := by show _ = _; rw [hw_w4]; exact (heap_alloc_old _ _ (by omega)).trans X1_w3.out
  have X2_w4 : Hid (w4.heap[w3.heap.size]? = some (.cells (Iv .u8 D) 5)) := by show _ = _; rw [hw_w4]; exact heap_alloc_new _ _
  clear hw_w4
  clear X1_w3
  clear B_w3
  go_wp2_with fail
  refine (implKdf_nil nI HNI.out _ _ w4).mono ?_
  rintro e wx ⟨rfl, hwx⟩
  replace hwx := hwx.symm
  subst hwx
  go_wp2_with fail
  refine (eqByteA32S_nil w4).mono ?_
  rintro e wx ⟨rfl, hwx⟩
  replace hwx := hwx.symm
  subst hwx
  go_wp2_with fail
  refine (toByteS_any a1 K cap1 w4 hlk (HC1.out w4 B_w4.out)).mono ?_
  rintro e w7 ⟨rfl, hw_w7⟩
  have B_w7 : Hid (Below w.heap.size w w7) := by show Below _ _ _; rw [hw_w7]; exact B_w4.out.alloc B_w4.out.size _
  have hs_w7 : w4.heap.size < w7.heap.size := by rw [hw_w7]; simp
  have X1_w7 : Hid (w7.heap[w1.heap.size]? = some (.cells (Iv .u8 K) 5)) := by show _ = _; rw [hw_w7]; exact (heap_alloc_old _ _ (by omega)).trans X1_w4.out
  have X2_w7 : Hid (w7.heap[w3.heap.size]? = some (.cells (Iv .u8 D) 5)) := by show _ = _; rw [hw_w7]; exact (heap_alloc_old _ _ (by omega)).trans X2_w4.out
  have Y1_w7 : Hid (w7.heap[w4.heap.size]? = some (.cells (Iv .u8 K) 5)) := by show _ = _; rw [hw_w7]; exact heap_alloc_new _ _
  clear hw_w7
  clear X1_w4 X2_w4
  clear B_w4
  go_wp2_with fail
  refine (eqByteS_yes (w1.heap.size) (w4.heap.size) K _ _ w7 hlk (fun j hj => RowAt.cell (show RowAt w7 _ .u8 K _ from X1_w7.out) j hj) (fun j hj => RowAt.cell (show RowAt w7 _ .u8 K _ from Y1_w7.out) j hj)).mono ?_
  rintro e w8 ⟨rfl, d_w8, hd_w8⟩
  have B_w8 : Hid (Below w.heap.size w w8) := by show Below _ _ _; rw [hd_w8]; exact below_drews B_w7.out _
  have hs_w8 : w7.heap.size ≤ w8.heap.size := by rw [hd_w8]; exact Nat.le_refl _
  have X1_w8 : Hid (w8.heap[w1.heap.size]? = some (.cells (Iv .u8 K) 5)) := by show _ = _; rw [hd_w8]; exact X1_w7.out
  have X2_w8 : Hid (w8.heap[w3.heap.size]? = some (.cells (Iv .u8 D) 5)) := by show _ = _; rw [hd_w8]; exact X2_w7.out
  have Y1_w8 : Hid (w8.heap[w4.heap.size]? = some (.cells (Iv .u8 K) 5)) := by show _ = _; rw [hd_w8]; exact Y1_w7.out
  clear hd_w8
  clear X1_w7 X2_w7 Y1_w7
  clear B_w7
  go_wp2_with fail
  refine (toByteS_any a D cap w8 hle (HC.out w8 B_w8.out)).mono ?_
  rintro e w9 ⟨rfl, hw_w9⟩
  have B_w9 : Hid (Below w.heap.size w w9) := by show Below _ _ _; rw [hw_w9]; exact B_w8.out.alloc B_w8.out.size _
  have hs_w9 : w8.heap.size < w9.heap.size := by rw [hw_w9]; simp
  have X1_w9 : Hid (w9.heap[w1.heap.size]? = some (.cells (Iv .u8 K) 5)) := by show _ = _; rw [hw_w9]; exact (heap_alloc_old _ _ (by omega)).trans X1_w8.out
  have X2_w9 : Hid (w9.heap[w3.heap.size]? = some (.cells (Iv .u8 D) 5)) := by show _ = _; rw [hw_w9]; exact (heap_alloc_old _ _ (by omega)).trans X2_w8.out
  have Y1_w9 : Hid (w9.heap[w4.heap.size]? = some (.cells (Iv .u8 K) 5)) := by show _ = _; rw [hw_w9]; exact (heap_alloc_old _ _ (by omega)).trans Y1_w8.out
  have Y2_w9 : Hid (w9.heap[w8.heap.size]? = some (.cells (Iv .u8 D) 5)) := by show _ = _; rw [hw_w9]; exact heap_alloc_new _ _
  clear hw_w9
  clear X1_w8 X2_w8 Y1_w8
  clear B_w8
  go_wp2_with fail
  refine (eqByteS_yes (w3.heap.size) (w8.heap.size) D _ _ w9 hle (fun j hj => RowAt.cell (show RowAt w9 _ .u8 D _ from X2_w9.out) j hj) (fun j hj => RowAt.cell (show RowAt w9 _ .u8 D _ from Y2_w9.out) j hj)).mono ?_
  rintro e w10 ⟨rfl, d_w10, hd_w10⟩
  have B_w10 : Hid (Below w.heap.size w w10) := by show Below _ _ _; rw [hd_w10]; exact below_drews B_w9.out _
  have hs_w10 : w9.heap.size ≤ w10.heap.size := by rw [hd_w10]; exact Nat.le_refl _
  have X1_w10 : Hid (w10.heap[w1.heap.size]? = some (.cells (Iv .u8 K) 5)) := by show _ = _; rw [hd_w10]; exact X1_w9.out
  have X2_w10 : Hid (w10.heap[w3.heap.size]? = some (.cells (Iv .u8 D) 5)) := by show _ = _; rw [hd_w10]; exact X2_w9.out
  have Y1_w10 : Hid (w10.heap[w4.heap.size]? = some (.cells (Iv .u8 K) 5)) := by show _ = _; rw [hd_w10]; exact Y1_w9.out
  have Y2_w10 : Hid (w10.heap[w8.heap.size]? = some (.cells (Iv .u8 D) 5)) := by show _ = _; rw [hd_w10]; exact Y2_w9.out
  clear hd_w10
  clear X1_w9 X2_w9 Y1_w9 Y2_w9
  clear B_w9
  go_wp2_with fail
  refine (markByteS_any w1.heap.size K.length K.length 1 w10 (by omega) (by omega) (fun j hj => isSome_row X1_w10.out j hj) (fun j _ => froz_row X1_w10.out j)).mono ?_
  rintro e w11 ⟨rfl, hM_w11⟩
  have B_w11 : Hid (Below w.heap.size w w11) := hM_w11.below _ _ B_w10.out (by omega)
  have hs_w11 : w10.heap.size ≤ w11.heap.size := by rw [hM_w11.size]; exact Nat.le_refl _
  clear X1_w10
  have X2_w11 : Hid (w11.heap[w3.heap.size]? = some (.cells (Iv .u8 D) 5)) := (hM_w11.far _ (by omega)).trans X2_w10.out
  have Y1_w11 : Hid (w11.heap[w4.heap.size]? = some (.cells (Iv .u8 K) 5)) := (hM_w11.far _ (by omega)).trans Y1_w10.out
  have Y2_w11 : Hid (w11.heap[w8.heap.size]? = some (.cells (Iv .u8 D) 5)) := (hM_w11.far _ (by omega)).trans Y2_w10.out
  clear hM_w11 B_w10
  clear X2_w10 Y1_w10 Y2_w10
  go_wp2_with fail
  refine (markByteS_any w3.heap.size D.length D.length (1 + K.length) w11 (by omega) (by omega) (fun j hj => isSome_row X2_w11.out j hj) (fun j _ => froz_row X2_w11.out j)).mono ?_
  rintro e w12 ⟨rfl, hM_w12⟩
  have B_w12 : Hid (Below w.heap.size w w12) := hM_w12.below _ _ B_w11.out (by omega)
  have hs_w12 : w11.heap.size ≤ w12.heap.size := by rw [hM_w12.size]; exact Nat.le_refl _
  clear X2_w11
  have Y1_w12 : Hid (w12.heap[w4.heap.size]? = some (.cells (Iv .u8 K) 5)) := (hM_w12.far _ (by omega)).trans Y1_w11.out
  have Y2_w12 : Hid (w12.heap[w8.heap.size]? = some (.cells (Iv .u8 D) 5)) := (hM_w12.far _ (by omega)).trans Y2_w11.out
  clear hM_w12 B_w11
  clear Y1_w11 Y2_w11
  obtain ⟨q, hq⟩ : ∃ q : Nat, q = 1 + K.length + D.length := ⟨_, rfl⟩
  rw [← hq]
  clear hq
  go_wp2_with fail
  refine (eqByteA32S_nil w12).mono ?_
  rintro e wx ⟨rfl, hwx⟩
  replace hwx := hwx.symm
  subst hwx
  go_wp2_with fail
  refine (markByteA32S_nil w12).mono ?_
  rintro e wx ⟨rfl, hwx⟩
  replace hwx := hwx.symm
  subst hwx
  go_wp2_with fail
  refine (heldByteA32S_nil w12).mono ?_
  rintro e wx ⟨rfl, hwx⟩
  replace hwx := hwx.symm
  subst hwx
  go_wp2_with fail
  refine (toByteS_any a1 K cap1 w12 hlk (HC1.out w12 B_w12.out)).mono ?_
  rintro e w16 ⟨rfl, hw_w16⟩
  have B_w16 : Hid (Below w.heap.size w w16) := by show Below _ _ _; rw [hw_w16]; exact B_w12.out.alloc B_w12.out.size _
  have hs_w16 : w12.heap.size < w16.heap.size := by rw [hw_w16]; simp
  have Y1_w16 : Hid (w16.heap[w4.heap.size]? = some (.cells (Iv .u8 K) 5)) := by show _ = _; rw [hw_w16]; exact (heap_alloc_old _ _ (by omega)).trans Y1_w12.out
  have Y2_w16 : Hid (w16.heap[w8.heap.size]? = some (.cells (Iv .u8 D) 5)) := by show _ = _; rw [hw_w16]; exact (heap_alloc_old _ _ (by omega)).trans Y2_w12.out
  have Z1_w16 : Hid (w16.heap[w12.heap.size]? = some (.cells (Iv .u8 K) 5)) := by show _ = _; rw [hw_w16]; exact heap_alloc_new _ _
  clear hw_w16
  clear Y1_w12 Y2_w12
  clear B_w12
  go_wp2_with fail
  refine (toByteS_any a D cap w16 hle (HC.out w16 B_w16.out)).mono ?_
  rintro e w17 ⟨rfl, hw_w17⟩
  have B_w17 : Hid (Below w.heap.size w w17) := by show Below _ _ _; rw [hw_w17]; exact B_w16.out.alloc B_w16.out.size _
  have hs_w17 : w16.heap.size < w17.heap.size := by rw [hw_w17]; simp
  have Y1_w17 : Hid (w17.heap[w4.heap.size]? = some (.cells (Iv .u8 K) 5)) := by show _ = _; rw [hw_w17]; exact (heap_alloc_old _ _ (by omega)).trans Y1_w16.out
  have Y2_w17 : Hid (w17.heap[w8.heap.size]? = some (.cells (Iv .u8 D) 5)) := by show _ = _; rw [hw_w17]; exact (heap_alloc_old _ _ (by omega)).trans Y2_w16.out
  have Z1_w17 : Hid (w17.heap[w12.heap.size]? = some (.cells (Iv .u8 K) 5)) := by show _ = _; rw [hw_w17]; exact (heap_alloc_old _ _ (by omega)).trans Z1_w16.out
  have Z2_w17 : Hid (w17.heap[w16.heap.size]? = some (.cells (Iv .u8 D) 5)) := by show _ = _; rw [hw_w17]; exact heap_alloc_new _ _
  clear hw_w17
  clear Y1_w16 Y2_w16 Z1_w16
  clear B_w16
  go_wp2_with fail
  refine (implKdf_nil nI HNI.out _ _ w17).mono ?_
  rintro e wx ⟨rfl, hwx⟩
  replace hwx := hwx.symm
  subst hwx
  go_wp2_with fail
  refine (eqByteA32S_nil w17).mono ?_
  rintro e wx ⟨rfl, hwx⟩
  replace hwx := hwx.symm
  subst hwx
  go_wp2
  go_ret
  exact ⟨rfl, B_w17.out⟩
set_option maxRecDepth 10000 in
set_option maxHeartbeats 2000000 in
theorem kdf_walk (K D : List Int) (kl m : Nat) (hK : K.length = kl) (hm : D.length = m) (hKb : Bytes K) (hDb : Bytes D) (a1 : Option Addr) (cap1 : Nat) (a : Option Addr) (cap : Nat) (w : World) (ht : Tabs w) (nI : Int)
    (hc1 : ∀ i, i < kl → ∃ b o, a1 = some ⟨b, o, none⟩ ∧ b < w.heap.size ∧ w.cell? ⟨b, o + i, none⟩ = some (.int .u8 (K.getD i 0)))
    (hc : ∀ i, i < m → ∃ b o, a = some ⟨b, o, none⟩ ∧ b < w.heap.size ∧ w.cell? ⟨b, o + i, none⟩ = some (.int .u8 (D.getD i 0))) :
    Calls Tryd.prog 6 #[.int .i64 nI, .slice a1 kl cap1, .slice a m cap] w fun e w' => e = .returned (.bool true) ∧ Below w.heap.size w w' := by
  subst hm
  subst hK
  by_cases hbig1 : 1048576 < K.length
  · have hb1 : (1048576 < K.length) = True := by simp; omega
    clear hc hc1 ht
    go_enter Tryd.func6, Tryd.ntmps6
    go_wp2
    go_ret
    exact ⟨rfl, Below.refl _ _⟩
  by_cases hbig : 1048576 < D.length
  · have hbk : (1048576 < K.length) = False := by simp; omega
    have hb1 : (1048576 < D.length) = True := by simp; omega
    clear hc hc1 ht
    go_enter Tryd.func6, Tryd.ntmps6
    go_wp2
    go_ret
    exact ⟨rfl, Below.refl _ _⟩
  by_cases hn : nI < 1 ∨ 3 < nI
  · exact kdf_walk_nil K D hKb hDb (by omega) (by omega) a1 cap1 a cap w nI hn hc1 hc
  · obtain ⟨n, rfl⟩ : ∃ n : Nat, nI = n := ⟨nI.toNat, by omega⟩
    exact kdf_walk_some K D hKb hDb (by omega) (by omega) a1 cap1 a cap w ht n (by omega) (by omega) hc1 hc
end Go.Proofs.YtgpjdbkdnojbhaaDoor
