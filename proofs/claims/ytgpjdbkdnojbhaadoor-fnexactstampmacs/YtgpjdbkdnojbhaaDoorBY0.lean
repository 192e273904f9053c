/- 'blake' with a key, 'Mac' of both sides, the law of Mac. -/
import Derived.Test.YtgpjdbkdnojbhaaDoorBJ
import Derived.Test.YtgpjdbkdnojbhaaDoorTo16
import Derived.Test.YtgpjdbkdnojbhaaDoorEqA16
import Derived.Laws.Cover3
namespace Go.Proofs.YtgpjdbkdnojbhaaDoor
open Go.ChangeShapes Go.WideShapes Go.ChangeAt Go.RowKit
set_option linter.unusedVariables false
theorem keyBlock_length (K : List Int) (h : K.length ≤ 64) : (keyBlock K).length ≤ 64 := by
  unfold keyBlock
  split
  · simp
  · simp; omega
set_option maxRecDepth 10000 in
set_option maxHeartbeats 1000000 in
theorem blake_key (n kl : Nat) (K : List Int) (hK : K.length = kl) (hKb : Bytes K) (HK : Hid (0 < kl)) (hkl : kl ≤ 64) (hn : n ≤ 64) (kb ko kcap : Nat) (Ps : List (List Int)) (vs : List Value) (np cap pb po : Nat) (w : World) (hp : Parts w pb po np vs Ps) (hlen : Ps.flatten.length ≤ 100000000000) (hkc : ∀ j, j < kl → w.cell? ⟨kb, ko + j, none⟩ = some (.int .u8 (K.getD j 0))) (ht : Tabs w) (Bo : List Int) (HBO : Hid (∀ x, blakeB (beginL n kl) (keyBlock K ++ Ps.flatten) = x → x = Bo)) :
    Calls Tryd.prog 46 #[.int .i64 n, .slice (some ⟨kb, ko, none⟩) kl kcap, .slice (some ⟨pb, po, none⟩) np cap] w fun e w' => e = .returned (.agg (Iv .u8 Bo)) ∧ Below w.heap.size w w' := by
  have hzb := zeroB32
  have HT : Hid _ := ht
  have HP : Hid _ := hp
  clear ht hp
  have hBo : Bo.length = 32 := by rw [← HBO.out _ rfl]; exact blakeB_length _ _
  have HKC : Hid _ := hkc
  clear hkc
  have HB1 : Hid (Below w.heap.size w (w.alloc (.cells (Iv .u8 (zeroL 32)) 23))) := (Below.refl _ _).alloc (Nat.le_refl _) _
  have G0 : Hid ((w.alloc (.cells (Iv .u8 (zeroL 32)) 23)).heap[w.heap.size]? = some (.cells (Iv .u8 (zeroL 32)) 23)) := heap_alloc_new _ _
  go_enter Tryd.func46, Tryd.ntmps46
  go_wp2_with fail
  obtain ⟨W, hW⟩ : ∃ X, X = w.alloc (.cells (Iv .u8 (zeroL 32)) 23) := ⟨_, rfl⟩
  rw [← hW] at HB1 G0 ⊢
  have hsW : w.heap.size < W.heap.size := by rw [hW]; simp
  clear hW
  obtain ⟨h0, hh0d⟩ : ∃ x, beginL n kl = x := ⟨_, rfl⟩
  have hh0 : h0.length = 8 := by rw [← hh0d]; exact beginL_length _ _
  have h032 : Hid (All32 h0) := by show All32 h0; rw [← hh0d]; exact beginL_in _ _
  rw [hh0d] at HBO
  refine (startHash_key n kl K hK hKb HK hkl hn kb ko kcap W (fun j hj => (HB1.out.cell (p := ⟨kb, ko + j, none⟩) (World.block_lt_of_cell? _ _ (HKC.out j hj))).trans (HKC.out j hj)) (HT.out.later HB1.out (Nat.le_refl _))).mono ?_
  rw [hh0d]
  clear hh0d
  rintro e w1 ⟨k0, t0, fn0, h1, b1, rfl, htk0, s0, hk0, hb1⟩
  have S0 : Hid _ := s0
  have HTK0 : Hid _ := htk0
  clear s0 htk0
  have HB2 : Hid (Below w.heap.size w w1) := HB1.out.trans (hb1.mono (by omega))
  have G1 : Hid _ := (hb1.block w.heap.size hsW).trans G0.out
  have hs1 : w.heap.size < w1.heap.size := by have := hb1.size; omega
  clear hb1 HB1 G0
  go_wp2_with fail
  refine (absorb_parts h0 (keyBlock K) Ps vs k0 t0 fn0 h1 b1 HTK0.out S0.out hk0 hh0 h032.out (bytes_key hKb) (by have := keyBlock_length K (by omega); omega) np cap pb po w1 (HP.out.later HB2.out (Nat.le_refl _)) (HT.out.later HB2.out (Nat.le_refl _))).mono ?_
  rintro e w2 ⟨k, t, fn, h, b, rfl, htk, s, hk, hb2⟩
  have HB3 : Hid (Below w.heap.size w w2) := HB2.out.trans (hb2.mono (by omega))
  have G2 : Hid _ := (hb2.block w.heap.size hs1).trans G1.out
  have hs2 : w.heap.size < w2.heap.size := by have := hb2.size; omega
  have S : Hid _ := s
  have HTK : Hid _ := htk
  clear hb2 HB2 G1 s htk
  go_wp2_with fail
  refine (finish_read h0 (keyBlock K ++ Ps.flatten) h b k t fn HTK.out S.out hk hh0 h032.out (bytes_append (bytes_key hKb) HP.out.bytes) (by have := keyBlock_length K (by omega); rw [List.length_append]; omega) w2 (HT.out.later HB3.out (Nat.le_refl _)) Bo (HBO.out _ rfl)).mono ?_
  rintro e w3 ⟨rfl, hb3⟩
  have HB4 : Hid (Below w.heap.size w w3) := HB3.out.trans (hb3.mono (by omega))
  have G3 : Hid _ := (hb3.block w.heap.size hs2).trans G2.out
  clear hb3 HB3 G2 S HTK
  have hi32 : Hid ((Tryd.prog.info? 23).map (·.size) = some (Iv .u8 Bo).size) := by show _ = _; rw [Iv_size, hBo]; exact infoBB32
  go_wp2_with (refine wpList_put_row rfl 23 _ _ rfl w.heap.size (Iv .u8 Bo) rfl rfl _ _ G3.out hi32.out ?hs (Iv_one _ _) ?_)
  case hs => rw [Iv_size, Iv_size, hBo]; rfl
  intro W9 hP9
  go_wp2
  exact bodyPost_ret (v := .agg (Iv .u8 Bo)) (results_cell_row rfl _ _ _ _ (Iv .u8 Bo) _ _ rfl hP9.here Tryd.underlying23 rfl hi32.out) rfl ⟨rfl, hP9.below _ _ HB4.out (Nat.le_refl _)⟩
/-- What Mac answers. -/
def macB (K D : List Int) : List Int := (blakeB (beginL 16 K.length) (keyBlock K ++ D)).take 16
def macR (K D : List Int) : List Int := if 32 < K.length then zeroL 16 else macB K D
theorem macB_length (K D : List Int) : (macB K D).length = 16 := by unfold macB; rw [List.length_take, blakeB_length]; rfl
theorem macR_length (K D : List Int) : (macR K D).length = 16 := by unfold macR; split <;> first | rfl | exact macB_length _ _
theorem zeroM16 : ∀ W, (zeroValue 29).run Tryd.prog W = .ok (.agg (Iv .u8 (zeroL 16))) W := fun W => by kernel_rfl
theorem infoM16 : (Tryd.prog.info? 29).map (·.size) = some 16 := by kernel_rfl
theorem builtM16 : Tryd.prog.built 29 [] = some (Iv .u8 (zeroL 16)) := by kernel_rfl
/-- 'blake' of one part, with a key of any length up to 64. -/
theorem blake_one (n kl : Nat) (K : List Int) (hK : K.length = kl) (hKb : Bytes K) (hkl : kl ≤ 64) (hn : n ≤ 64) (kb ko kcap : Nat) (Ps : List (List Int)) (vs : List Value) (np cap pb po : Nat) (w : World) (hp : Parts w pb po np vs Ps) (hlen : Ps.flatten.length ≤ 100000000000) (hkc : ∀ j, j < kl → w.cell? ⟨kb, ko + j, none⟩ = some (.int .u8 (K.getD j 0))) (ht : Tabs w) (Bo : List Int) (HBO : Hid (∀ x, blakeB (beginL n kl) (keyBlock K ++ Ps.flatten) = x → x = Bo)) :
    Calls Tryd.prog 46 #[.int .i64 n, .slice (some ⟨kb, ko, none⟩) kl kcap, .slice (some ⟨pb, po, none⟩) np cap] w fun e w' => e = .returned (.agg (Iv .u8 Bo)) ∧ Below w.heap.size w w' := by
  by_cases h0 : kl = 0
  · refine blake_nil n kl h0 hn _ kcap Ps vs np cap pb po w hp (by omega) ht Bo (fun x hx => HBO.out x ?_)
    have e : keyBlock K = [] := by unfold keyBlock; rw [if_pos (by omega)]
    rw [e, List.nil_append]
    exact hx
  · exact blake_key n kl K hK hKb (show 0 < kl by omega) hkl hn kb ko kcap Ps vs np cap pb po w hp hlen hkc ht Bo HBO
set_option maxRecDepth 10000 in
set_option maxHeartbeats 1000000 in
theorem implMac_any (K D : List Int) (kl : Nat) (hK : K.length = kl) (hKb : Bytes K) (kb ko kcap : Nat) (v : Value) (w : World) (hkc : ∀ j, j < kl → w.cell? ⟨kb, ko + j, none⟩ = some (.int .u8 (K.getD j 0))) (hv : PartOk w v D) (hlen : D.length ≤ 100000000000) (ht : Tabs w) (Bo : List Int) (HBO : Hid (∀ x, macR K D = x → x = Bo)) :
    Calls Tryd.prog 17 #[.slice (some ⟨kb, ko, none⟩) kl kcap, v] w fun e w' => e = .returned (.agg (Iv .u8 Bo)) ∧ Below w.heap.size w w' := by
  have hzb := zeroB32
  have hzm := zeroM16
  have HT : Hid _ := ht
  have HV' : Hid _ := hv
  have HKC : Hid _ := hkc
  obtain ⟨a, n, cap, rfl, _⟩ := hv
  clear ht hkc
  have hBo : Bo.length = 16 := by rw [← HBO.out _ rfl]; exact macR_length _ _
  have hi16 : Hid ((Tryd.prog.info? 29).map (·.size) = some (Iv .u8 Bo).size) := by show _ = _; rw [Iv_size, hBo]; exact infoM16
  have hz16 : Hid ((Iv .u8 (zeroL 16)).size = (Iv .u8 Bo).size) := by show _ = _; rw [Iv_size, Iv_size, hBo]; rfl
  have HB0 : Hid (Below w.heap.size w (w.alloc (.cells (Iv .u8 (zeroL 16)) 29))) := (Below.refl _ _).alloc (Nat.le_refl _) _
  have G0 : Hid ((w.alloc (.cells (Iv .u8 (zeroL 16)) 29)).heap[w.heap.size]? = some (.cells (Iv .u8 (zeroL 16)) 29)) := heap_alloc_new _ _
  go_enter Tryd.func17, Tryd.ntmps17
  by_cases hbig : 32 < kl
  · have hb1 : (32 < kl) = True := by simp; omega
    have hBz : zeroL 16 = Bo := by
      have := HBO.out _ rfl
      unfold macR at this
      rw [if_pos (by omega)] at this
      exact this
    have HBZ : Hid _ := hBz
    clear hBz
    go_wp2_with (first
      | refine wpList_build_to rfl 29 _ rfl (Iv .u8 (zeroL 16)) (by simp only [List.map_toArray, List.map_nil]; exact builtM16) ?_
      | refine wpList_put_row rfl 29 _ _ rfl w.heap.size (Iv .u8 (zeroL 16)) rfl rfl _ _ G0.out infoM16 rfl (Iv_one _ _) ?_)
    intro W9 hP9
    have h9 := hP9.here
    rw [HBZ.out] at h9
    have hB9 : Below w.heap.size w W9 := hP9.below _ _ HB0.out (Nat.le_refl _)
    clear hP9
    go_wp2
    exact bodyPost_ret (v := .agg (Iv .u8 Bo)) (results_cell_row rfl _ _ _ _ (Iv .u8 Bo) _ _ rfl h9 Tryd.underlying29 rfl hi16.out) rfl ⟨rfl, hB9⟩
  · have hb1 : (32 < kl) = False := by simp; omega
    have hle : kl ≤ 32 := by omega
    obtain ⟨Bb, hBb⟩ : ∃ x, blakeB (beginL 16 kl) (keyBlock K ++ D) = x := ⟨_, rfl⟩
    have hBbl : Bb.length = 32 := by rw [← hBb]; exact blakeB_length _ _
    have HTK : Hid (Bb.take 16 = Bo) := by
      have := HBO.out _ rfl
      unfold macR macB at this
      rw [if_neg (by omega), hK, hBb] at this
      exact this
    have HBB : Hid (∀ x, blakeB (beginL 16 kl) (keyBlock K ++ [D].flatten) = x → x = Bb) := fun x hx => by rw [← hx, ← hBb]; simp
    clear hBb hbig
    go_wp2_with fail
    obtain ⟨W, hW⟩ : ∃ X, X = w.alloc (.cells (Iv .u8 (zeroL 16)) 29) := ⟨_, rfl⟩
    have hsW : W.heap.size = w.heap.size + 1 := by rw [hW]; simp
    rw [← hW] at HB0 G0 ⊢
    rw [← hsW]
    clear hW
    have HPP : Parts (W.alloc (.cells #[.slice a n cap] 22)) W.heap.size 0 1 [.slice a n cap] [D] := Parts.one ((show PartOk w _ D from HV'.out).later HB0.out (Nat.le_refl _))
    obtain ⟨W2, hW2⟩ : ∃ X, X = W.alloc (.cells #[.slice a n cap] 22) := ⟨_, rfl⟩
    have HB2 : Hid (Below w.heap.size w W2) := by show Below _ _ _; rw [hW2]; exact HB0.out.alloc (by omega) _
    have G2 : Hid (W2.heap[w.heap.size]? = some (.cells (Iv .u8 (zeroL 16)) 29)) := by show _ = _; rw [hW2]; exact (heap_alloc_old _ _ (by omega)).trans G0.out
    have hs2 : w.heap.size < W2.heap.size := by rw [hW2]; simp; omega
    rw [← hW2] at HPP ⊢
    refine (blake_one 16 kl K hK hKb (by omega) (by decide) kb ko kcap [D] [.slice a n cap] 1 1 W.heap.size 0 W2 HPP (by simpa using hlen) (fun j hj => (HB2.out.cell (p := ⟨kb, ko + j, none⟩) (World.block_lt_of_cell? _ _ (HKC.out j hj))).trans (HKC.out j hj)) (HT.out.later HB2.out (Nat.le_refl _)) Bb HBB).mono ?_
    rintro e w1 ⟨rfl, hb1'⟩
    have HB3 : Hid (Below w.heap.size w w1) := HB2.out.trans (hb1'.mono (by omega))
    have G1 : Hid _ := (hb1'.block w.heap.size hs2).trans G2.out
    have hs3 : w.heap.size < w1.heap.size := by have := hb1'.size; omega
    clear hb1' HB0 HB2 G0 G2 HPP hW2 HV' HKC hsW hs2
    have hi32 : Hid ((Tryd.prog.info? 23).map (·.size) = some (Iv .u8 Bb).size) := by show _ = _; rw [Iv_size, hBbl]; exact infoBB32
    have hz32 : Hid ((Iv .u8 (zeroL 32)).size = (Iv .u8 Bb).size) := by show _ = _; rw [Iv_size, Iv_size, hBbl]; rfl
    have HN : Hid ((w1.alloc (.cells (Iv .u8 (zeroL 32)) 23)).heap[w1.heap.size]? = some (.cells (Iv .u8 (zeroL 32)) 23)) := heap_alloc_new _ _
    go_wp2_with (refine wpList_put_row rfl 23 _ _ rfl w1.heap.size (Iv .u8 Bb) rfl rfl _ _ HN.out hi32.out hz32.out (Iv_one _ _) ?_)
    intro w3 hP3
    have R3 : Hid (w3.rangeAt w1.heap.size 0 (Bo.map (Value.int .u8))) := by
      have e : ((Bb.map (Value.int .u8)).drop 0).take 16 = Bo.map (Value.int .u8) := by rw [List.drop_zero, ← List.map_take, HTK.out]
      show w3.rangeAt _ _ _
      rw [← e]
      exact range_row (l := Bb.map (Value.int .u8)) hP3.here 0 16
    have G3 : Hid _ := (hP3.far w.heap.size (by omega)).trans ((heap_alloc_old _ _ hs3).trans G1.out)
    have HB4 : Hid (Below w.heap.size w w3) := hP3.below _ _ (HB3.out.alloc HB3.out.size _) HB3.out.size
    clear hP3 HN HB3 G1 HTK
    have harr : ∀ W a c, (Instr.arrayAt 29 (.slice a 16 c)).run Tryd.prog W = .ok (.pointer a) W := fun W a c => run_arrayAt W _ _ 16 a 16 c Tryd.underlying29 (Nat.le_refl _)
    have him : Hid ((Tryd.prog.info? 29).map (·.size) = some (Bo.map (Value.int .u8)).length) := by show _ = _; rw [List.length_map, hBo]; exact infoM16
    go_wp2_with (first
      | refine wpList_load_mid rfl 29 _ rfl w1.heap.size 0 rfl (Bo.map (Value.int .u8)) _ R3.out Tryd.underlying29 rfl him.out ?_
      | refine wpList_put_row rfl 29 _ _ rfl w.heap.size (Iv .u8 Bo) rfl rfl _ _ G3.out hi16.out hz16.out (Iv_one _ _) ?_)
    intro W9 hP9
    go_wp2
    exact bodyPost_ret (v := .agg (Iv .u8 Bo)) (results_cell_row rfl _ _ _ _ (Iv .u8 Bo) _ _ rfl hP9.here Tryd.underlying29 rfl hi16.out) rfl ⟨rfl, hP9.below _ _ HB4.out (Nat.le_refl _)⟩
set_option maxRecDepth 10000 in
set_option maxHeartbeats 1000000 in
theorem specMac_any (K D : List Int) (kl dl : Nat) (hK : K.length = kl) (hKb : Bytes K) (kb ko kcap db dO dcap : Nat) (w : World) (hkc : ∀ j, j < kl → w.cell? ⟨kb, ko + j, none⟩ = some (.int .u8 (K.getD j 0))) (hD : D.length = dl) (hdl : dl ≤ 10000000) (hDb : Bytes D) (hDr : ∀ j, j < dl → w.cell? ⟨db, dO + j, none⟩ = some (.int .u8 (D.getD j 0))) (Bo : List Int) (HBO : Hid (∀ x, macR K D = x → x = Bo)) :
    Calls Tryd.prog 16 #[.slice (some ⟨kb, ko, none⟩) kl kcap, .slice (some ⟨db, dO, none⟩) dl dcap] w fun e w' => e = .returned (.agg (Iv .u8 Bo)) ∧ Below w.heap.size w w' := by
  have hzm := zeroM16
  have hBo : Bo.length = 16 := by rw [← HBO.out _ rfl]; exact macR_length _ _
  have hi16 : Hid ((Tryd.prog.info? 29).map (·.size) = some (Iv .u8 Bo).size) := by show _ = _; rw [Iv_size, hBo]; exact infoM16
  have hz16 : Hid ((Iv .u8 (zeroL 16)).size = (Iv .u8 Bo).size) := by show _ = _; rw [Iv_size, Iv_size, hBo]; rfl
  have HB0 : Hid (Below w.heap.size w (w.alloc (.cells (Iv .u8 (zeroL 16)) 29))) := (Below.refl _ _).alloc (Nat.le_refl _) _
  have G0 : Hid ((w.alloc (.cells (Iv .u8 (zeroL 16)) 29)).heap[w.heap.size]? = some (.cells (Iv .u8 (zeroL 16)) 29)) := heap_alloc_new _ _
  have HKC : Hid _ := hkc
  have HDR : Hid _ := hDr
  clear hkc hDr
  go_enter Tryd.func16, Tryd.ntmps16
  by_cases hbig : 32 < kl
  · have hb1 : (32 < kl) = True := by simp; omega
    have hBz : zeroL 16 = Bo := by
      have := HBO.out _ rfl
      unfold macR at this
      rw [if_pos (by omega)] at this
      exact this
    have HBZ : Hid _ := hBz
    clear hBz
    go_wp2_with (first
      | refine wpList_build_to rfl 29 _ rfl (Iv .u8 (zeroL 16)) (by simp only [List.map_toArray, List.map_nil]; exact builtM16) ?_
      | refine wpList_put_row rfl 29 _ _ rfl w.heap.size (Iv .u8 (zeroL 16)) rfl rfl _ _ G0.out infoM16 rfl (Iv_one _ _) ?_)
    intro W9 hP9
    have h9 := hP9.here
    rw [HBZ.out] at h9
    have hB9 : Below w.heap.size w W9 := hP9.below _ _ HB0.out (Nat.le_refl _)
    clear hP9
    go_wp2
    exact bodyPost_ret (v := .agg (Iv .u8 Bo)) (results_cell_row rfl _ _ _ _ (Iv .u8 Bo) _ _ rfl h9 Tryd.underlying29 rfl hi16.out) rfl ⟨rfl, hB9⟩
  · have hb1 : (32 < kl) = False := by simp; omega
    have hle : kl ≤ 32 := by omega
    obtain ⟨Bb, hBb⟩ : ∃ x, blakeB (beginL 16 kl) (keyBlock K ++ D) = x := ⟨_, rfl⟩
    have HTK : Hid (Bb.take 16 = Bo) := by
      have := HBO.out _ rfl
      unfold macR macB at this
      rw [if_neg (by omega), hK, hBb] at this
      exact this
    have HBB : Hid (∀ x, blakeB (beginL 16 kl) (keyBlock K ++ D) = x → x = Bb) := fun x hx => by rw [← hx, ← hBb]
    clear hBb hbig
    go_wp2_with fail
    obtain ⟨W, hW⟩ : ∃ X, X = w.alloc (.cells (Iv .u8 (zeroL 16)) 29) := ⟨_, rfl⟩
    have hsW : w.heap.size < W.heap.size := by rw [hW]; simp
    rw [← hW] at HB0 G0 ⊢
    clear hW
    refine (l1Blake_any 16 kl dl K D (some ⟨kb, ko, none⟩) kcap db dO dcap W hK hle hKb (fun i hi => ⟨kb, ko, rfl, (HB0.out.cell (p := ⟨kb, ko + i, none⟩) (World.block_lt_of_cell? _ _ (HKC.out i (by omega)))).trans (HKC.out i (by omega))⟩) hD hdl hDb (fun j hj => (HB0.out.cell (p := ⟨db, dO + j, none⟩) (World.block_lt_of_cell? _ _ (HDR.out j hj))).trans (HDR.out j hj)) (by decide) Bb HBB).mono ?_
    rintro e w1 ⟨g, c, rfl, hg1, hg2, hc1, hc2, hcell, hb1'⟩
    have HB2 : Hid (Below w.heap.size w w1) := HB0.out.trans (hb1'.mono (by omega))
    have G1 : Hid _ := (hb1'.block w.heap.size hsW).trans G0.out
    have hs1 : w.heap.size < w1.heap.size := by have := hb1'.size; omega
    have HCL : Hid (∀ j, j < 16 → w1.cell? ⟨g, 0 + j, none⟩ = some (.int .u8 (Bo.getD j 0))) := fun j hj => by rw [Nat.zero_add, hcell j hj, ← HTK.out, getD_take, if_pos hj]
    clear hb1' HB0 G0 hcell HDR HKC HTK HBB
    go_wp2_with fail
    refine (l1To16_any Bo hBo g 0 c w1 hg2 HCL.out).mono ?_
    rintro e w2 ⟨rfl, hb2⟩
    have HB3 : Hid (Below w.heap.size w w2) := HB2.out.trans (hb2.mono (by omega))
    have G2 : Hid _ := (hb2.block w.heap.size hs1).trans G1.out
    clear hb2 HB2 G1 HCL
    go_wp2_with (refine wpList_put_row rfl 29 _ _ rfl w.heap.size (Iv .u8 Bo) rfl rfl _ _ G2.out hi16.out hz16.out (Iv_one _ _) ?_)
    intro W9 hP9
    go_wp2
    exact bodyPost_ret (v := .agg (Iv .u8 Bo)) (results_cell_row rfl _ _ _ _ (Iv .u8 Bo) _ _ rfl hP9.here Tryd.underlying29 rfl hi16.out) rfl ⟨rfl, hP9.below _ _ HB3.out (Nat.le_refl _)⟩
end Go.Proofs.YtgpjdbkdnojbhaaDoor
