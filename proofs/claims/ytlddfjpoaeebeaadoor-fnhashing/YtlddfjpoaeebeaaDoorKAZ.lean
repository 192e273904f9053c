import Derived.Test.YtlddfjpoaeebeaaDoorBVZ
import Derived.Laws.MakeOwn
/- 'Kdf': the program's. -/
namespace Go.Proofs.YtlddfjpoaeebeaaDoor
open Go.RowKit
set_option linter.unusedVariables false
theorem quietV {P : Program} {ops : Array Oper} {C : World → Prop} {Q : Act → Prop} {a : Act} {o : Oper} {rest : List Oper} (hgd : o.guard = none) (v : Value) (he : ∀ w, (execOp a.eval o).run P w = .ok (.value v) w) (h : wpQuiet P ops C Q rest (a.put o.dst v)) : wpQuiet P ops C Q (o :: rest) a := by
  refine wpQuiet_wanted hgd (v := v) (fun w hw => ?_) h
  unfold Oper.quietAt
  rw [he w]
  exact ⟨rfl, rfl⟩
def kdfK (R : List Int) : Nat → List Int
  | 0 => hmacB R [1]
  | j + 1 => hmacB R (kdfK R j ++ [(j : Int) + 2])
theorem kdfK_length (R : List Int) (j : Nat) : (kdfK R j).length = 32 := by cases j <;> exact hmacB_length _ _
def kdfL (R : List Int) : Nat → List Int
  | 0 => []
  | k + 1 => kdfL R k ++ kdfK R k
theorem kdfL_length (R : List Int) : ∀ k, (kdfL R k).length = 32 * k
  | 0 => rfl
  | k + 1 => by rw [kdfL, List.length_append, kdfL_length R k, kdfK_length]; omega
def kdfRow (R : List Int) (n k : Nat) : List Int := kdfL R k ++ zeroL (32 * (n - k))
theorem kdfRow_length (R : List Int) (n k : Nat) (h : k ≤ n) : (kdfRow R n k).length = 32 * n := by rw [kdfRow, List.length_append, kdfL_length]; simp [zeroL]; omega
theorem kdfRow_put (R : List Int) (n k : Nat) (h : k < n) : (kdfRow R n k).take (32 * k) ++ kdfK R k ++ (kdfRow R n k).drop (32 * k + 32) = kdfRow R n (k + 1) := by
  have e1 : (kdfRow R n k).take (32 * k) = kdfL R k := by
    unfold kdfRow
    rw [List.take_append_of_le_length (by rw [kdfL_length]; omega), List.take_of_length_le (by rw [kdfL_length]; omega)]
  have e2 : (kdfRow R n k).drop (32 * k + 32) = zeroL (32 * (n - (k + 1))) := by
    unfold kdfRow zeroL
    rw [List.drop_append, List.drop_eq_nil_of_le (by rw [kdfL_length]; omega), List.nil_append, List.drop_replicate, kdfL_length]
    congr 1
    omega
  rw [e1, e2]
  rfl
theorem kdfRow_putV (R : List Int) (n k : Nat) (h : k < n) : ((kdfRow R n k).map (Value.int .u8)).take (32 * k) ++ (kdfK R k).map (Value.int .u8) ++ ((kdfRow R n k).map (Value.int .u8)).drop (32 * k + ((kdfK R k).map (Value.int .u8)).length) = (kdfRow R n (k + 1)).map (Value.int .u8) := by
  rw [List.length_map, kdfK_length, ← kdfRow_put R n k h, List.map_append, List.map_append, List.map_take, List.map_drop]
theorem kdfRow_last (R : List Int) (n k : Nat) (h : k < n) (j : Nat) (hj : j < 32) : (kdfRow R n (k + 1)).getD (32 * k + j) 0 = (kdfK R k).getD j 0 := by
  have hl := kdfL_length R k
  have hk := kdfK_length R k
  unfold kdfRow kdfL
  simp only [List.getD_eq_getElem?_getD]
  rw [List.append_assoc, List.getElem?_append_right (by omega), List.getElem?_append_left (by omega)]
  congr 2
  omega
theorem kdfK_bytes (R : List Int) (k : Nat) : Bytes (kdfK R k) := by cases k <;> exact hashB_bytes _
theorem kdf_partOk {w : World} {g : Nat} {R : List Int} {n k : Nat} {t : TypeId} (h : w.heap[g]? = some (.cells (Iv .u8 (kdfRow R n (k + 1))) t)) (hk : k < n) : PartOk w (.slice (some ⟨g, 32 * k, none⟩) 32 32) (kdfK R k) :=
  ⟨_, _, _, rfl, kdfK_length R k, Nat.le_refl _, by decide, kdfK_bytes R k, .inr ⟨g, 32 * k, rfl, fun j hj => by
    rw [← kdfRow_last R n k hk j hj]
    exact RowAt.cell (show RowAt w g .u8 _ t from h) (32 * k + j) (by rw [kdfRow_length R n (k + 1) (by omega)]; omega)⟩⟩
theorem made_zero (m : Nat) : madeCells (Iv .u8 (zeroL 32)) m = Iv .u8 (zeroL m) := by
  have hs : (Iv .u8 (zeroL 32)).size = 32 := by rw [Iv_size]; rfl
  apply Array.ext
  · rw [size_madeCells, Iv_size]; simp [zeroL]
  · intro i h1 h2
    have hi : i < m := by rw [size_madeCells] at h1; exact h1
    have e2 := Iv_get .u8 (zeroL m) i (by simp [zeroL]; exact hi)
    rw [Array.getElem?_eq_getElem h2, Option.some.injEq] at e2
    rw [e2]
    simp only [madeCells, Array.getElem_map, Array.getElem_range]
    have hj : i % (Iv .u8 (zeroL 32)).size < (Iv .u8 (zeroL 32)).size := Nat.mod_lt _ (by rw [hs]; decide)
    rw [getElem!_pos (Iv .u8 (zeroL 32)) _ hj]
    have hz : ∀ j (h : j < (zeroL 32).length), (zeroL 32)[j] = 0 := fun j h => by unfold zeroL; exact List.getElem_replicate _
    have hz2 : ∀ (h : i < (zeroL m).length), (zeroL m)[i] = 0 := fun h => by unfold zeroL; exact List.getElem_replicate _
    obtain ⟨j, hjd⟩ : ∃ j, j = i % (Iv .u8 (zeroL 32)).size := ⟨_, rfl⟩
    have hj' : j < (zeroL 32).length := by rw [hjd]; rw [Iv_size] at hj ⊢; exact hj
    have e3 := Iv_get .u8 (zeroL 32) j hj'
    simp only [← hjd] at hj ⊢
    rw [Array.getElem?_eq_getElem hj, Option.some.injEq] at e3
    rw [e3, hz, hz2]
theorem make32 (n : Nat) (h : n ≤ 3) (w : World) : (Instr.makeSlice 33 (.int .i64 n) (.int .i64 n)).run Tryd.prog w = .ok (.slice (some ⟨w.heap.size, 0, none⟩) n n) (w.alloc (.cells (Iv .u8 (zeroL (32 * n))) 23)) := by
  obtain ⟨i, hi⟩ := info_of_underlying Tryd.underlying23
  have h2 : (Tryd.prog.info? 23).map (fun i => (i.zero, i.size, i.bytes)) = some (some (.agg (Iv .u8 (zeroL 32))), 32, 32) := by kernel_rfl
  rw [hi] at h2
  simp only [Option.map_some, Option.some.injEq, Prod.mk.injEq] at h2
  rw [run_makeSlice (P := Tryd.prog) w _ _ i _ Tryd.underlying33 hi h2.1 .i64 .i64 n n (by omega) (by omega) (by rw [h2.2.1]; simp; omega) (by rw [h2.2.2]; omega) (by omega), h2.2.1]
  show Result.ok _ (w.alloc (.cells (madeCells (Iv .u8 (zeroL 32)) _) _)) = _
  rw [made_zero, Int.toNat_natCast, Nat.mul_comm]
set_option maxRecDepth 10000 in
set_option maxHeartbeats 2000000 in
theorem implKdf_any (K D : List Int) (kl : Nat) (hK : K.length = kl) (hKb : Bytes K) (hkl : kl ≤ 5000000) (kb ko kcap : Nat) (hkcap : kl ≤ kcap) (hkcap2 : kcap ≤ 9223372036854775807) (a : Option Addr) (dl dcap : Nat) (w : World) (hkc : ∀ j, j < kl → w.cell? ⟨kb, ko + j, none⟩ = some (.int .u8 (K.getD j 0))) (hkbs : kb < w.heap.size) (hv : PartOk w (.slice a dl dcap) D) (hlen : D.length ≤ 5000000) (ht : Tabs w) (n : Nat) (hn1 : 1 ≤ n) (hn2 : n ≤ 3) (R : List Int) (HR : Hid (∀ x, hmacB K D = x → x = R)) :
    Calls Tryd.prog 19 #[.int .i64 n, .slice (some ⟨kb, ko, none⟩) kl kcap, .slice a dl dcap] w fun e w' => ∃ g, e = .returned (.slice (some ⟨g, 0, none⟩) n n) ∧ w.heap.size ≤ g ∧ w'.heap[g]? = some (.cells (Iv .u8 (kdfRow R n n)) 23) ∧ Below w.heap.size w w' := by
  have hzb := zeroB32
  have hmk := make32 n hn2
  have HT : Hid _ := ht
  have HKC : Hid _ := hkc
  have HV : Hid _ := hv
  clear hkc hv ht
  have h1 : ((n : Int) < 1) = False := by simp; omega
  have h2 : (3 < (n : Int)) = False := by simp; omega
  have hRl : R.length = 32 := by rw [← HR.out _ rfl]; exact hmacB_length _ _
  have hRb : Bytes R := by rw [← HR.out _ rfl]; exact hashB_bytes _
  have hi32 : Hid (∀ X : List Int, X.length = 32 → (Tryd.prog.info? 23).map (·.size) = some (Iv .u8 X).size) := fun X hX => by rw [Iv_size, hX]; exact infoBB32
  have hz32 : Hid (∀ X : List Int, X.length = 32 → (Iv .u8 (zeroL 32)).size = (Iv .u8 X).size) := fun X hX => by rw [Iv_size, Iv_size, hX]; rfl
  go_enter Tryd.func19, Tryd.ntmps19
  go_wp2_with fail
  have HPP : Parts (w.alloc (.cells #[.slice a dl dcap] 22)) w.heap.size 0 1 [.slice a dl dcap] [D] := Parts.one HV.out
  obtain ⟨W, hW⟩ : ∃ X, X = w.alloc (.cells #[.slice a dl dcap] 22) := ⟨_, rfl⟩
  have HB : Hid (Below w.heap.size w W) := by show Below _ _ _; rw [hW]; exact (Below.refl _ _).alloc (Nat.le_refl _) _
  rw [← hW] at HPP ⊢
  clear hW
  refine (hmacOf_any K kl hK hKb hkl kb ko kcap hkcap hkcap2 [D] [.slice a dl dcap] 1 1 w.heap.size 0 W (fun j hj => (HB.out.cell (p := ⟨kb, ko + j, none⟩) (World.block_lt_of_cell? _ _ (HKC.out j hj))).trans (HKC.out j hj)) (by have := HB.out.size; omega) HPP (by simp; omega) (HT.out.later HB.out (Nat.le_refl _)) R (by rw [show [D].flatten = D by simp]; exact HR)).mono ?_
  rintro e w1 ⟨rfl, hb1⟩
  have B1 : Hid (Below w.heap.size w w1) := HB.out.trans (hb1.mono HB.out.size)
  have HN1 : Hid ((w1.alloc (.cells (Iv .u8 (zeroL 32)) 23)).heap[w1.heap.size]? = some (.cells (Iv .u8 (zeroL 32)) 23)) := heap_alloc_new _ _
  clear hb1 HB HPP HV HKC
  go_wp2_with (refine wpList_put_row rfl 23 _ _ rfl w1.heap.size (Iv .u8 R) rfl rfl _ _ HN1.out (hi32.out R hRl) (hz32.out R hRl) (Iv_one _ _) ?_)
  intro w2 hP2
  have B2 : Hid (Below w.heap.size w w2) := hP2.below _ _ (B1.out.alloc B1.out.size _) B1.out.size
  have A1 : Hid (w2.heap[w1.heap.size]? = some (.cells (Iv .u8 R) 23)) := hP2.here
  have hs2 : w1.heap.size < w2.heap.size := by rw [hP2.size]; simp
  have hg1 := B1.out.size
  obtain ⟨gr, hgr⟩ : ∃ x, x = w1.heap.size := ⟨_, rfl⟩
  rw [← hgr] at A1 hs2 hg1 ⊢
  clear hP2 HN1 B1 hgr
  go_wp2_with fail
  obtain ⟨W3, hW3, g0, g1, g2, hs3, hB3⟩ := alloc3 w2 (.cells (Iv .u8 (zeroL (32 * n))) 23) (.cells #[.int .u8 1] 5) (.cells #[.slice (some ⟨w2.heap.size + 1, 0, none⟩) 1 1] 22)
  rw [hW3]
  clear hW3
  have B3 : Hid (Below w.heap.size w W3) := B2.out.trans (hB3.mono B2.out.size)
  have C1 : Hid _ := (hB3.block gr (by omega)).trans A1.out
  have hg2 := B2.out.size
  obtain ⟨gk, hgk⟩ : ∃ x, x = w2.heap.size := ⟨_, rfl⟩
  rw [← hgk] at g0 g1 g2 hs3 hs2 hg2 ⊢
  have G0 : Hid _ := g0
  have HPP : Parts W3 (gk + 1 + 1) 0 1 [.slice (some ⟨gk + 1, 0, none⟩) 1 1] [[1]] := Parts.row1 g2 (partOk_row (zs := [1]) g1 (by intro i; match i with | 0 => exact ⟨by decide, by decide⟩ | i + 1 => simp) (by decide))
  clear hgk g0 g1 g2 hB3 B2 A1
  refine (hmacOf_any R 32 hRl hRb (by decide) gr 0 32 (Nat.le_refl _) (by decide) [[1]] _ 1 1 (gk + 1 + 1) 0 W3 (fun j hj => by rw [Nat.zero_add]; exact RowAt.cell (show RowAt W3 _ .u8 R _ from C1.out) j (by omega)) (by omega) HPP (by simp) (HT.out.later B3.out (Nat.le_refl _)) (kdfK R 0) (fun x hx => by rw [← hx]; rfl)).mono ?_
  rintro e w4 ⟨rfl, hb4⟩
  have B4 : Hid (Below w.heap.size w w4) := B3.out.trans (hb4.mono B3.out.size)
  have D0 : Hid (w4.heap[gk]? = some (.cells ((kdfRow R n 0).map (Value.int .u8)).toArray 23)) := (hb4.block gk (by omega)).trans G0.out
  have D1 : Hid _ := (hb4.block gr (by omega)).trans C1.out
  have hs4 : gk < w4.heap.size := by have := hb4.size; omega
  clear hb4 HPP B3 C1 G0
  have hiK : Hid (∀ k, (Tryd.prog.info? 23).map (·.size) = some ((kdfK R k).map (Value.int .u8)).length) := fun k => by rw [List.length_map, kdfK_length]; exact infoBB32
  have hfK : Hid (∀ k, k < n → 32 * k + ((kdfK R k).map (Value.int .u8)).length ≤ ((kdfRow R n k).map (Value.int .u8)).length) := fun k hk => by rw [List.length_map, kdfK_length, List.length_map, kdfRow_length R n k (by omega)]; omega
  have hp0 : (0 < n) = True := by simp; omega
  go_wp2_with (refine wpList_put_part rfl 23 _ _ rfl gk 0 ((kdfK R 0).map (Value.int .u8)) rfl rfl ((kdfRow R n 0).map (Value.int .u8)) 23 D0.out ((kdfRow R n 1).map (Value.int .u8)) (hiK.out 0) (hfK.out 0 (by omega)) (by simp [Value.oneCell']) (kdfRow_putV R n 0 (by omega)) ?_)
  intro w5 hP5
  have B5 : Hid (Below w.heap.size w w5) := hP5.below _ _ B4.out (by omega)
  have E0 : Hid (w5.heap[gk]? = some (.cells (Iv .u8 (kdfRow R n 1)) 23)) := hP5.here
  have E1 : Hid (w5.heap[gr]? = some (.cells (Iv .u8 R) 23)) := (hP5.far gr (by omega)).trans D1.out
  have hs5 : gk < w5.heap.size := by rw [hP5.size]; exact hs4
  clear hP5 B4 D0 D1
  go_wp2_with fail
  go_loopw [9] (fun i wr => ∃ k : Nat, 1 ≤ k ∧ k ≤ n ∧ i = .int .i64 k ∧ Below w.heap.size w wr ∧ wr.heap[gr]? = some (.cells (Iv .u8 R) 23) ∧ wr.heap[gk]? = some (.cells (Iv .u8 (kdfRow R n k)) 23)) (fun i _ => 3 - (intOf i).toNat)
  case atStart => exact ⟨1, Nat.le_refl _, hn1, rfl, B5.out, E1.out, E0.out⟩
  case round =>
    obtain ⟨k, hk1, hk2, rfl, hbr, hr1, hr0⟩ := hrel
    clear B5 E0 E1
    by_cases hlt : k < n
    · have hc : (k = 1 ∧ n = 2) ∨ (k = 1 ∧ n = 3) ∨ (k = 2 ∧ n = 3) := by omega
      rcases hc with ⟨rfl, rfl⟩ | ⟨rfl, rfl⟩ | ⟨rfl, rfl⟩
      · have RB : Hid _ := hbr
        have R1 : Hid _ := hr1
        have R0 : Hid (wr.heap[gk]? = some (.cells ((kdfRow R 2 1).map (Value.int .u8)).toArray 23)) := hr0
        have hsr : gk < wr.heap.size := (Array.getElem?_eq_some_iff.1 hr0).1
        clear hbr hr1 hr0
        go_wp2_with fail
        have S0 : ∃ x : Bel wr.heap.size wr, wr.drew = x.w := ⟨⟨wr.drew, below_drews (Below.refl _ _) 1⟩, rfl⟩
        refine wp_region_late2 11 15 (fun w' => ∃ x : Bel wr.heap.size wr, w' = x.w) [(.held, [0, 1, 2, 3, 4, 5, 6, 7, 8, 9, 10]), (.tail, [11]), (.tail, [12]), (.tail, [13]), (.tail, [14]), (.last, [15])] mixedB (by kernel_rfl) S0 ?_
        simp only [wpRuns2, opsAt_cons, opsAt_nil, nthOp_zero, nthOp_succ, List.cons_append, List.nil_append]
        refine quietV rfl (.slice (some ⟨gk, 0, none⟩) 2 2) (fun W' => by kernel_rfl) ?_
        simp only [Act.put, List.setIfInBounds_toArray, List.set_cons_succ, List.set_cons_zero]
        refine quietV rfl (.int .i64 ((1 : Nat) : Int)) (fun W' => by kernel_rfl) ?_
        simp only [Act.put, List.setIfInBounds_toArray, List.set_cons_succ, List.set_cons_zero]
        refine quietV rfl (.slice (some ⟨gr, 0, none⟩) 32 32) (fun W' => by kernel_rfl) ?_
        simp only [Act.put, List.setIfInBounds_toArray, List.set_cons_succ, List.set_cons_zero]
        refine quietV rfl (.slice (some ⟨gk, 0, none⟩) 2 2) (fun W' => by kernel_rfl) ?_
        simp only [Act.put, List.setIfInBounds_toArray, List.set_cons_succ, List.set_cons_zero]
        refine quietV rfl (.int .i64 ((1 : Nat) : Int)) (fun W' => by kernel_rfl) ?_
        simp only [Act.put, List.setIfInBounds_toArray, List.set_cons_succ, List.set_cons_zero]
        refine quietV rfl (.int .i64 0) (fun W' => by kernel_rfl) ?_
        simp only [Act.put, List.setIfInBounds_toArray, List.set_cons_succ, List.set_cons_zero]
        refine quietV rfl (.pointer (some ⟨gk, 0, none⟩)) (fun W' => by kernel_rfl) ?_
        simp only [Act.put, List.setIfInBounds_toArray, List.set_cons_succ, List.set_cons_zero]
        refine quietV rfl (.slice (some ⟨gk, 0, none⟩) 32 32) (fun W' => by kernel_rfl) ?_
        simp only [Act.put, List.setIfInBounds_toArray, List.set_cons_succ, List.set_cons_zero]
        refine quietV rfl (.int .i64 ((1 : Nat) : Int)) (fun W' => by kernel_rfl) ?_
        simp only [Act.put, List.setIfInBounds_toArray, List.set_cons_succ, List.set_cons_zero]
        refine quietV rfl (.int .i64 2) (fun W' => by kernel_rfl) ?_
        simp only [Act.put, List.setIfInBounds_toArray, List.set_cons_succ, List.set_cons_zero]
        refine quietV rfl (.int .u8 2) (fun W' => by kernel_rfl) ?_
        simp only [Act.put, List.setIfInBounds_toArray, List.set_cons_succ, List.set_cons_zero]
        refine wpQuiet_nil ?_
        go_wp2_with fail
        refine ⟨⟨⟨_, below_drews ((Below.refl _ _).alloc (Nat.le_refl _) _) 1⟩, rfl⟩, ?_⟩
        go_wp2_with fail
        refine ⟨⟨⟨_, below_drews (((Below.refl _ _).alloc (Nat.le_refl _) _).alloc (by simp) _) 1⟩, rfl⟩, ?_⟩
        go_wp2_with fail
        have HP2 : Parts ((wr.drew.alloc (.cells #[.int .u8 2] 5)).alloc (.cells #[.slice (some ⟨gk, 0, none⟩) 32 32, .slice (some ⟨wr.heap.size, 0, none⟩) 1 1] 22)) (wr.drew.alloc (.cells #[.int .u8 2] 5)).heap.size 0 2 [.slice (some ⟨gk, 0, none⟩) 32 32, .slice (some ⟨wr.heap.size, 0, none⟩) 1 1] [kdfK R 0, [2]] :=
          Parts.two (PartOk.later (kdf_partOk (k := 0) (show wr.drew.heap[gk]? = _ from R0.out) (by decide)) ((Below.refl wr.drew.heap.size wr.drew).alloc (Nat.le_refl _) _) (Nat.le_refl _)) (partOk_row (zs := [2]) (heap_alloc_new wr.drew _) (by intro i; match i with | 0 => exact ⟨by decide, by decide⟩ | i + 1 => simp) (by decide))
        rw [World.size_alloc] at HP2
        obtain ⟨V, hV⟩ : ∃ x, x = ((wr.alloc (.cells #[.int .u8 2] 5)).alloc (.cells #[.slice (some ⟨gk, 0, none⟩) 32 32, .slice (some ⟨wr.heap.size, 0, none⟩) 1 1] 22)).drew := ⟨_, rfl⟩
        have HP3 : Hid (Parts V (wr.heap.size + 1) 0 2 [.slice (some ⟨gk, 0, none⟩) 32 32, .slice (some ⟨wr.heap.size, 0, none⟩) 1 1] [kdfK R 0, [2]]) := by show Parts _ _ _ _ _ _; rw [hV]; exact HP2
        have VB : Hid (Below wr.heap.size wr V) := by show Below _ _ _; rw [hV]; exact below_drews (((Below.refl _ _).alloc (Nat.le_refl _) _).alloc (by simp) _) 1
        rw [← hV]
        clear hV HP2
        have V0 : Hid _ := (VB.out.block gk hsr).trans R0.out
        have V1 : Hid (V.heap[gr]? = some (.cells (Iv .u8 R) 23)) := (VB.out.block gr (by omega)).trans R1.out
        have VW : Hid (Below w.heap.size w V) := RB.out.trans (VB.out.mono RB.out.size)
        have hsV : gk < V.heap.size := by have := VB.out.size; omega
        have HVB : Hid _ := VB.out
        clear VB RB R1 R0 S0
        refine (hmacOf_any R 32 hRl hRb (by decide) gr 0 32 (Nat.le_refl _) (by decide) [kdfK R 0, [2]] _ 2 2 (wr.heap.size + 1) 0 V (fun j hj => by rw [Nat.zero_add]; exact RowAt.cell (show RowAt V _ .u8 R _ from V1.out) j (by omega)) (by omega) HP3.out (by simp [kdfK_length]) (HT.out.later VW.out (Nat.le_refl _)) (kdfK R 1) (fun x hx => by rw [← hx]; simp [kdfK])).mono ?_
        rintro e w6 ⟨rfl, hb6⟩
        have X0 : Hid _ := (hb6.block gk hsV).trans V0.out
        have X1 : Hid _ := (hb6.block gr (by omega)).trans V1.out
        have XB : Hid (Below w.heap.size w w6) := VW.out.trans (hb6.mono VW.out.size)
        have HBB : Hid (Below wr.heap.size wr w6) := HVB.out.trans (hb6.mono HVB.out.size)
        clear hb6 HP3 V0 V1 VW HVB
        go_wp2_with fail
        refine ⟨⟨⟨_, HBB.out⟩, rfl⟩, ?_⟩
        go_wp2_with fail
        refine ⟨⟨⟨_, HBB.out⟩, rfl⟩, ?_⟩
        refine wpList_put_part rfl 23 (.tmp 47) (.tmp 46) rfl gk 32 ((kdfK R 1).map (Value.int .u8)) rfl rfl ((kdfRow R 2 1).map (Value.int .u8)) 23 X0.out ((kdfRow R 2 2).map (Value.int .u8)) (hiK.out 1) (hfK.out 1 (by decide)) (by simp [Value.oneCell']) (kdfRow_putV R 2 1 (by decide)) ?_
        intro w7 hP7
        simp only [Act.put]
        have Y0 : Hid (w7.heap[gk]? = some (.cells (Iv .u8 (kdfRow R 2 2)) 23)) := hP7.here
        have Y1 : Hid (w7.heap[gr]? = some (.cells (Iv .u8 R) 23)) := (hP7.far gr (by omega)).trans X1.out
        have YB : Hid (Below w.heap.size w w7) := hP7.below _ _ XB.out (by omega)
        clear hP7 X0 X1 XB HBB
        go_wp2_with fail
        refine last_normal ?_
        go_wp2_with fail
        go_roundw
        case rel => exact ⟨_, _, _, _, _, _, _, _, _, _, _, _, _, _, _, _, _, _, _, _, _, ⟨2, by decide, by decide, rfl, YB.out, Y1.out, Y0.out⟩, rfl⟩
        case measure => simp [intOf]
      · have RB : Hid _ := hbr
        have R1 : Hid _ := hr1
        have R0 : Hid (wr.heap[gk]? = some (.cells ((kdfRow R 3 1).map (Value.int .u8)).toArray 23)) := hr0
        have hsr : gk < wr.heap.size := (Array.getElem?_eq_some_iff.1 hr0).1
        clear hbr hr1 hr0
        go_wp2_with fail
        have S0 : ∃ x : Bel wr.heap.size wr, wr.drew = x.w := ⟨⟨wr.drew, below_drews (Below.refl _ _) 1⟩, rfl⟩
        refine wp_region_late2 11 15 (fun w' => ∃ x : Bel wr.heap.size wr, w' = x.w) [(.held, [0, 1, 2, 3, 4, 5, 6, 7, 8, 9, 10]), (.tail, [11]), (.tail, [12]), (.tail, [13]), (.tail, [14]), (.last, [15])] mixedB (by kernel_rfl) S0 ?_
        simp only [wpRuns2, opsAt_cons, opsAt_nil, nthOp_zero, nthOp_succ, List.cons_append, List.nil_append]
        refine quietV rfl (.slice (some ⟨gk, 0, none⟩) 3 3) (fun W' => by kernel_rfl) ?_
        simp only [Act.put, List.setIfInBounds_toArray, List.set_cons_succ, List.set_cons_zero]
        refine quietV rfl (.int .i64 ((1 : Nat) : Int)) (fun W' => by kernel_rfl) ?_
        simp only [Act.put, List.setIfInBounds_toArray, List.set_cons_succ, List.set_cons_zero]
        refine quietV rfl (.slice (some ⟨gr, 0, none⟩) 32 32) (fun W' => by kernel_rfl) ?_
        simp only [Act.put, List.setIfInBounds_toArray, List.set_cons_succ, List.set_cons_zero]
        refine quietV rfl (.slice (some ⟨gk, 0, none⟩) 3 3) (fun W' => by kernel_rfl) ?_
        simp only [Act.put, List.setIfInBounds_toArray, List.set_cons_succ, List.set_cons_zero]
        refine quietV rfl (.int .i64 ((1 : Nat) : Int)) (fun W' => by kernel_rfl) ?_
        simp only [Act.put, List.setIfInBounds_toArray, List.set_cons_succ, List.set_cons_zero]
        refine quietV rfl (.int .i64 0) (fun W' => by kernel_rfl) ?_
        simp only [Act.put, List.setIfInBounds_toArray, List.set_cons_succ, List.set_cons_zero]
        refine quietV rfl (.pointer (some ⟨gk, 0, none⟩)) (fun W' => by kernel_rfl) ?_
        simp only [Act.put, List.setIfInBounds_toArray, List.set_cons_succ, List.set_cons_zero]
        refine quietV rfl (.slice (some ⟨gk, 0, none⟩) 32 32) (fun W' => by kernel_rfl) ?_
        simp only [Act.put, List.setIfInBounds_toArray, List.set_cons_succ, List.set_cons_zero]
        refine quietV rfl (.int .i64 ((1 : Nat) : Int)) (fun W' => by kernel_rfl) ?_
        simp only [Act.put, List.setIfInBounds_toArray, List.set_cons_succ, List.set_cons_zero]
        refine quietV rfl (.int .i64 2) (fun W' => by kernel_rfl) ?_
        simp only [Act.put, List.setIfInBounds_toArray, List.set_cons_succ, List.set_cons_zero]
        refine quietV rfl (.int .u8 2) (fun W' => by kernel_rfl) ?_
        simp only [Act.put, List.setIfInBounds_toArray, List.set_cons_succ, List.set_cons_zero]
        refine wpQuiet_nil ?_
        go_wp2_with fail
        refine ⟨⟨⟨_, below_drews ((Below.refl _ _).alloc (Nat.le_refl _) _) 1⟩, rfl⟩, ?_⟩
        go_wp2_with fail
        refine ⟨⟨⟨_, below_drews (((Below.refl _ _).alloc (Nat.le_refl _) _).alloc (by simp) _) 1⟩, rfl⟩, ?_⟩
        go_wp2_with fail
        have HP2 : Parts ((wr.drew.alloc (.cells #[.int .u8 2] 5)).alloc (.cells #[.slice (some ⟨gk, 0, none⟩) 32 32, .slice (some ⟨wr.heap.size, 0, none⟩) 1 1] 22)) (wr.drew.alloc (.cells #[.int .u8 2] 5)).heap.size 0 2 [.slice (some ⟨gk, 0, none⟩) 32 32, .slice (some ⟨wr.heap.size, 0, none⟩) 1 1] [kdfK R 0, [2]] :=
          Parts.two (PartOk.later (kdf_partOk (k := 0) (show wr.drew.heap[gk]? = _ from R0.out) (by decide)) ((Below.refl wr.drew.heap.size wr.drew).alloc (Nat.le_refl _) _) (Nat.le_refl _)) (partOk_row (zs := [2]) (heap_alloc_new wr.drew _) (by intro i; match i with | 0 => exact ⟨by decide, by decide⟩ | i + 1 => simp) (by decide))
        rw [World.size_alloc] at HP2
        obtain ⟨V, hV⟩ : ∃ x, x = ((wr.alloc (.cells #[.int .u8 2] 5)).alloc (.cells #[.slice (some ⟨gk, 0, none⟩) 32 32, .slice (some ⟨wr.heap.size, 0, none⟩) 1 1] 22)).drew := ⟨_, rfl⟩
        have HP3 : Hid (Parts V (wr.heap.size + 1) 0 2 [.slice (some ⟨gk, 0, none⟩) 32 32, .slice (some ⟨wr.heap.size, 0, none⟩) 1 1] [kdfK R 0, [2]]) := by show Parts _ _ _ _ _ _; rw [hV]; exact HP2
        have VB : Hid (Below wr.heap.size wr V) := by show Below _ _ _; rw [hV]; exact below_drews (((Below.refl _ _).alloc (Nat.le_refl _) _).alloc (by simp) _) 1
        rw [← hV]
        clear hV HP2
        have V0 : Hid _ := (VB.out.block gk hsr).trans R0.out
        have V1 : Hid (V.heap[gr]? = some (.cells (Iv .u8 R) 23)) := (VB.out.block gr (by omega)).trans R1.out
        have VW : Hid (Below w.heap.size w V) := RB.out.trans (VB.out.mono RB.out.size)
        have hsV : gk < V.heap.size := by have := VB.out.size; omega
        have HVB : Hid _ := VB.out
        clear VB RB R1 R0 S0
        refine (hmacOf_any R 32 hRl hRb (by decide) gr 0 32 (Nat.le_refl _) (by decide) [kdfK R 0, [2]] _ 2 2 (wr.heap.size + 1) 0 V (fun j hj => by rw [Nat.zero_add]; exact RowAt.cell (show RowAt V _ .u8 R _ from V1.out) j (by omega)) (by omega) HP3.out (by simp [kdfK_length]) (HT.out.later VW.out (Nat.le_refl _)) (kdfK R 1) (fun x hx => by rw [← hx]; simp [kdfK])).mono ?_
        rintro e w6 ⟨rfl, hb6⟩
        have X0 : Hid _ := (hb6.block gk hsV).trans V0.out
        have X1 : Hid _ := (hb6.block gr (by omega)).trans V1.out
        have XB : Hid (Below w.heap.size w w6) := VW.out.trans (hb6.mono VW.out.size)
        have HBB : Hid (Below wr.heap.size wr w6) := HVB.out.trans (hb6.mono HVB.out.size)
        clear hb6 HP3 V0 V1 VW HVB
        go_wp2_with fail
        refine ⟨⟨⟨_, HBB.out⟩, rfl⟩, ?_⟩
        go_wp2_with fail
        refine ⟨⟨⟨_, HBB.out⟩, rfl⟩, ?_⟩
        refine wpList_put_part rfl 23 (.tmp 47) (.tmp 46) rfl gk 32 ((kdfK R 1).map (Value.int .u8)) rfl rfl ((kdfRow R 3 1).map (Value.int .u8)) 23 X0.out ((kdfRow R 3 2).map (Value.int .u8)) (hiK.out 1) (hfK.out 1 (by decide)) (by simp [Value.oneCell']) (kdfRow_putV R 3 1 (by decide)) ?_
        intro w7 hP7
        simp only [Act.put]
        have Y0 : Hid (w7.heap[gk]? = some (.cells (Iv .u8 (kdfRow R 3 2)) 23)) := hP7.here
        have Y1 : Hid (w7.heap[gr]? = some (.cells (Iv .u8 R) 23)) := (hP7.far gr (by omega)).trans X1.out
        have YB : Hid (Below w.heap.size w w7) := hP7.below _ _ XB.out (by omega)
        clear hP7 X0 X1 XB HBB
        go_wp2_with fail
        refine last_normal ?_
        go_wp2_with fail
        go_roundw
        case rel => exact ⟨_, _, _, _, _, _, _, _, _, _, _, _, _, _, _, _, _, _, _, _, _, ⟨2, by decide, by decide, rfl, YB.out, Y1.out, Y0.out⟩, rfl⟩
        case measure => simp [intOf]
      · have RB : Hid _ := hbr
        have R1 : Hid _ := hr1
        have R0 : Hid (wr.heap[gk]? = some (.cells ((kdfRow R 3 2).map (Value.int .u8)).toArray 23)) := hr0
        have hsr : gk < wr.heap.size := (Array.getElem?_eq_some_iff.1 hr0).1
        clear hbr hr1 hr0
        go_wp2_with fail
        have S0 : ∃ x : Bel wr.heap.size wr, wr.drew = x.w := ⟨⟨wr.drew, below_drews (Below.refl _ _) 1⟩, rfl⟩
        refine wp_region_late2 11 15 (fun w' => ∃ x : Bel wr.heap.size wr, w' = x.w) [(.held, [0, 1, 2, 3, 4, 5, 6, 7, 8, 9, 10]), (.tail, [11]), (.tail, [12]), (.tail, [13]), (.tail, [14]), (.last, [15])] mixedB (by kernel_rfl) S0 ?_
        simp only [wpRuns2, opsAt_cons, opsAt_nil, nthOp_zero, nthOp_succ, List.cons_append, List.nil_append]
        refine quietV rfl (.slice (some ⟨gk, 0, none⟩) 3 3) (fun W' => by kernel_rfl) ?_
        simp only [Act.put, List.setIfInBounds_toArray, List.set_cons_succ, List.set_cons_zero]
        refine quietV rfl (.int .i64 ((2 : Nat) : Int)) (fun W' => by kernel_rfl) ?_
        simp only [Act.put, List.setIfInBounds_toArray, List.set_cons_succ, List.set_cons_zero]
        refine quietV rfl (.slice (some ⟨gr, 0, none⟩) 32 32) (fun W' => by kernel_rfl) ?_
        simp only [Act.put, List.setIfInBounds_toArray, List.set_cons_succ, List.set_cons_zero]
        refine quietV rfl (.slice (some ⟨gk, 0, none⟩) 3 3) (fun W' => by kernel_rfl) ?_
        simp only [Act.put, List.setIfInBounds_toArray, List.set_cons_succ, List.set_cons_zero]
        refine quietV rfl (.int .i64 ((2 : Nat) : Int)) (fun W' => by kernel_rfl) ?_
        simp only [Act.put, List.setIfInBounds_toArray, List.set_cons_succ, List.set_cons_zero]
        refine quietV rfl (.int .i64 1) (fun W' => by kernel_rfl) ?_
        simp only [Act.put, List.setIfInBounds_toArray, List.set_cons_succ, List.set_cons_zero]
        refine quietV rfl (.pointer (some ⟨gk, 32, none⟩)) (fun W' => by kernel_rfl) ?_
        simp only [Act.put, List.setIfInBounds_toArray, List.set_cons_succ, List.set_cons_zero]
        refine quietV rfl (.slice (some ⟨gk, 32, none⟩) 32 32) (fun W' => by kernel_rfl) ?_
        simp only [Act.put, List.setIfInBounds_toArray, List.set_cons_succ, List.set_cons_zero]
        refine quietV rfl (.int .i64 ((2 : Nat) : Int)) (fun W' => by kernel_rfl) ?_
        simp only [Act.put, List.setIfInBounds_toArray, List.set_cons_succ, List.set_cons_zero]
        refine quietV rfl (.int .i64 3) (fun W' => by kernel_rfl) ?_
        simp only [Act.put, List.setIfInBounds_toArray, List.set_cons_succ, List.set_cons_zero]
        refine quietV rfl (.int .u8 3) (fun W' => by kernel_rfl) ?_
        simp only [Act.put, List.setIfInBounds_toArray, List.set_cons_succ, List.set_cons_zero]
        refine wpQuiet_nil ?_
        go_wp2_with fail
        refine ⟨⟨⟨_, below_drews ((Below.refl _ _).alloc (Nat.le_refl _) _) 1⟩, rfl⟩, ?_⟩
        go_wp2_with fail
        refine ⟨⟨⟨_, below_drews (((Below.refl _ _).alloc (Nat.le_refl _) _).alloc (by simp) _) 1⟩, rfl⟩, ?_⟩
        go_wp2_with fail
        have HP2 : Parts ((wr.drew.alloc (.cells #[.int .u8 3] 5)).alloc (.cells #[.slice (some ⟨gk, 32, none⟩) 32 32, .slice (some ⟨wr.heap.size, 0, none⟩) 1 1] 22)) (wr.drew.alloc (.cells #[.int .u8 3] 5)).heap.size 0 2 [.slice (some ⟨gk, 32, none⟩) 32 32, .slice (some ⟨wr.heap.size, 0, none⟩) 1 1] [kdfK R 1, [3]] :=
          Parts.two (PartOk.later (kdf_partOk (k := 1) (show wr.drew.heap[gk]? = _ from R0.out) (by decide)) ((Below.refl wr.drew.heap.size wr.drew).alloc (Nat.le_refl _) _) (Nat.le_refl _)) (partOk_row (zs := [3]) (heap_alloc_new wr.drew _) (by intro i; match i with | 0 => exact ⟨by decide, by decide⟩ | i + 1 => simp) (by decide))
        rw [World.size_alloc] at HP2
        obtain ⟨V, hV⟩ : ∃ x, x = ((wr.alloc (.cells #[.int .u8 3] 5)).alloc (.cells #[.slice (some ⟨gk, 32, none⟩) 32 32, .slice (some ⟨wr.heap.size, 0, none⟩) 1 1] 22)).drew := ⟨_, rfl⟩
        have HP3 : Hid (Parts V (wr.heap.size + 1) 0 2 [.slice (some ⟨gk, 32, none⟩) 32 32, .slice (some ⟨wr.heap.size, 0, none⟩) 1 1] [kdfK R 1, [3]]) := by show Parts _ _ _ _ _ _; rw [hV]; exact HP2
        have VB : Hid (Below wr.heap.size wr V) := by show Below _ _ _; rw [hV]; exact below_drews (((Below.refl _ _).alloc (Nat.le_refl _) _).alloc (by simp) _) 1
        rw [← hV]
        clear hV HP2
        have V0 : Hid _ := (VB.out.block gk hsr).trans R0.out
        have V1 : Hid (V.heap[gr]? = some (.cells (Iv .u8 R) 23)) := (VB.out.block gr (by omega)).trans R1.out
        have VW : Hid (Below w.heap.size w V) := RB.out.trans (VB.out.mono RB.out.size)
        have hsV : gk < V.heap.size := by have := VB.out.size; omega
        have HVB : Hid _ := VB.out
        clear VB RB R1 R0 S0
        refine (hmacOf_any R 32 hRl hRb (by decide) gr 0 32 (Nat.le_refl _) (by decide) [kdfK R 1, [3]] _ 2 2 (wr.heap.size + 1) 0 V (fun j hj => by rw [Nat.zero_add]; exact RowAt.cell (show RowAt V _ .u8 R _ from V1.out) j (by omega)) (by omega) HP3.out (by simp [kdfK_length]) (HT.out.later VW.out (Nat.le_refl _)) (kdfK R 2) (fun x hx => by rw [← hx]; simp [kdfK])).mono ?_
        rintro e w6 ⟨rfl, hb6⟩
        have X0 : Hid _ := (hb6.block gk hsV).trans V0.out
        have X1 : Hid _ := (hb6.block gr (by omega)).trans V1.out
        have XB : Hid (Below w.heap.size w w6) := VW.out.trans (hb6.mono VW.out.size)
        have HBB : Hid (Below wr.heap.size wr w6) := HVB.out.trans (hb6.mono HVB.out.size)
        clear hb6 HP3 V0 V1 VW HVB
        go_wp2_with fail
        refine ⟨⟨⟨_, HBB.out⟩, rfl⟩, ?_⟩
        go_wp2_with fail
        refine ⟨⟨⟨_, HBB.out⟩, rfl⟩, ?_⟩
        refine wpList_put_part rfl 23 (.tmp 47) (.tmp 46) rfl gk 64 ((kdfK R 2).map (Value.int .u8)) rfl rfl ((kdfRow R 3 2).map (Value.int .u8)) 23 X0.out ((kdfRow R 3 3).map (Value.int .u8)) (hiK.out 2) (hfK.out 2 (by decide)) (by simp [Value.oneCell']) (kdfRow_putV R 3 2 (by decide)) ?_
        intro w7 hP7
        simp only [Act.put]
        have Y0 : Hid (w7.heap[gk]? = some (.cells (Iv .u8 (kdfRow R 3 3)) 23)) := hP7.here
        have Y1 : Hid (w7.heap[gr]? = some (.cells (Iv .u8 R) 23)) := (hP7.far gr (by omega)).trans X1.out
        have YB : Hid (Below w.heap.size w w7) := hP7.below _ _ XB.out (by omega)
        clear hP7 X0 X1 XB HBB
        go_wp2_with fail
        refine last_normal ?_
        go_wp2_with fail
        go_roundw
        case rel => exact ⟨_, _, _, _, _, _, _, _, _, _, _, _, _, _, _, _, _, _, _, _, _, ⟨3, by decide, by decide, rfl, YB.out, Y1.out, Y0.out⟩, rfl⟩
        case measure => simp [intOf]
    · have hkn : k = n := by omega
      subst hkn
      have RB : Hid _ := hbr
      have R0 : Hid _ := hr0
      clear hbr hr1 hr0
      go_wp2
      go_ret
      exact ⟨gk, rfl, by omega, R0.out, RB.out⟩
end Go.Proofs.YtlddfjpoaeebeaaDoor
