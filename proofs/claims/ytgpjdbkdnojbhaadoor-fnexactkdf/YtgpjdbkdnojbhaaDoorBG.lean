/- 'blake' without a key, 'hashOf', 'Hash'. -/
import Derived.Test.YtgpjdbkdnojbhaaDoorBF
namespace Go.Proofs.YtgpjdbkdnojbhaaDoor
open Go.RowKit
set_option linter.unusedVariables false
/-- The parts of a hash, as they lie behind the slice of slices. -/
structure Parts (w : World) (pb po np : Nat) (vs : List Value) (Ps : List (List Int)) : Prop where
  len : vs.length = np
  lenP : Ps.length = np
  few : np ≤ 1000
  blk : 0 < np → pb < w.heap.size
  cell : ∀ i (hi : i < vs.length), w.cell? ⟨pb, po + i, none⟩ = some vs[i]
  ok : ∀ i (hi : i < vs.length) (hi' : i < Ps.length), PartOk w vs[i] Ps[i]
theorem Parts.later {w w' : World} {pb po np B : Nat} {vs : List Value} {Ps : List (List Int)} (h : Parts w pb po np vs Ps) (hb : Below B w w') (hB : w.heap.size ≤ B) : Parts w' pb po np vs Ps :=
  ⟨h.len, h.lenP, h.few, fun hp => Nat.lt_of_lt_of_le (h.blk hp) hb.size, fun i hi => (hb.cell (p := ⟨pb, po + i, none⟩) (Nat.lt_of_lt_of_le (h.blk (by have := h.len; omega)) hB)).trans (h.cell i hi), fun i hi hi' => (h.ok i hi hi').later hb hB⟩
theorem Parts.bytes {w : World} {pb po np : Nat} {vs : List Value} {Ps : List (List Int)} (h : Parts w pb po np vs Ps) : Bytes Ps.flatten :=
  bytes_flat Ps fun P hP => by
    obtain ⟨i, hi, rfl⟩ := List.mem_iff_getElem.1 hP
    exact (h.ok i (by have := h.len; have := h.lenP; omega) hi).bytes
theorem Parts.one {w : World} {v : Value} {P : List Int} {t : TypeId} (h : PartOk w v P) : Parts (w.alloc (.cells #[v] t)) w.heap.size 0 1 [v] [P] := by
  refine ⟨rfl, rfl, by decide, fun _ => by simp, fun i hi => ?_, fun i hi hi' => ?_⟩
  · obtain rfl : i = 0 := by simpa using hi
    simp
  · obtain rfl : i = 0 := by simpa using hi
    exact h.later ((Below.refl w.heap.size w).alloc (Nat.le_refl _) _) (Nat.le_refl _)
theorem Parts.two {w : World} {v u : Value} {P R : List Int} {t : TypeId} (h : PartOk w v P) (h2 : PartOk w u R) : Parts (w.alloc (.cells #[v, u] t)) w.heap.size 0 2 [v, u] [P, R] := by
  have hb : Below w.heap.size w (w.alloc (.cells #[v, u] t)) := (Below.refl w.heap.size w).alloc (Nat.le_refl _) _
  refine ⟨rfl, rfl, by decide, fun _ => by simp, fun i hi => ?_, fun i hi hi' => ?_⟩
  · have hc : i = 0 ∨ i = 1 := by simp at hi; omega
    rcases hc with rfl | rfl <;> simp
  · have hc : i = 0 ∨ i = 1 := by simp at hi; omega
    rcases hc with rfl | rfl
    · exact h.later hb (Nat.le_refl _)
    · exact h2.later hb (Nat.le_refl _)
theorem absorb_parts (h0 D : List Int) (Ps : List (List Int)) (vs : List Value) (k t fn : Nat) (h b : List Int) (htk : t = 64 * k) (s : HSt h0 D k fn h b) (hk : 0 < fn ∨ k = 0) (hh0 : h0.length = 8) (h032 : All32 h0) (hD : Bytes D) (hlen : D.length + Ps.flatten.length ≤ 1000000000000)
    (np cap pb po : Nat) (w : World) (hp : Parts w pb po np vs Ps) (ht : Tabs w) :
    Calls Tryd.prog 67 #[.agg (hsA h t b fn), .slice (some ⟨pb, po, none⟩) np cap] w fun e w' => ∃ (k' t' fn' : Nat) (h' b' : List Int), e = .returned (.agg (hsA h' t' b' fn')) ∧ t' = 64 * k' ∧ HSt h0 (D ++ Ps.flatten) k' fn' h' b' ∧ (0 < fn' ∨ k' = 0) ∧ Below w.heap.size w w' :=
  absorb_any h0 D Ps vs k t fn h b htk s hk hh0 h032 hD hlen np cap pb po hp.len hp.lenP hp.few w hp.blk hp.cell hp.ok ht
set_option maxRecDepth 10000 in
set_option maxHeartbeats 1000000 in
theorem blake_nil (n kl : Nat) (HK : Hid (kl = 0)) (hn : n ≤ 64) (a : Option Addr) (kcap : Nat) (Ps : List (List Int)) (vs : List Value) (np cap pb po : Nat) (w : World) (hp : Parts w pb po np vs Ps) (hlen : Ps.flatten.length ≤ 1000000000000) (ht : Tabs w) (Bo : List Int) (HBO : Hid (∀ x, blakeB (beginL n kl) Ps.flatten = x → x = Bo)) :
    Calls Tryd.prog 46 #[.int .i64 n, .slice a kl kcap, .slice (some ⟨pb, po, none⟩) np cap] w fun e w' => e = .returned (.agg (Iv .u8 Bo)) ∧ Below w.heap.size w w' := by
  have hzb := zeroB32
  have HT : Hid _ := ht
  have HP : Hid _ := hp
  clear ht hp
  have hBo : Bo.length = 32 := by rw [← HBO.out _ rfl]; exact blakeB_length _ _
  have hkl : kl ≤ 64 := by have := HK.out; omega
  have HB1 : Hid (Below w.heap.size w (w.alloc (.cells (Iv .u8 (zeroL 32)) 23))) := (Below.refl _ _).alloc (Nat.le_refl _) _
  have G0 : Hid ((w.alloc (.cells (Iv .u8 (zeroL 32)) 23)).heap[w.heap.size]? = some (.cells (Iv .u8 (zeroL 32)) 23)) := heap_alloc_new _ _
  go_enter Tryd.func46, Tryd.ntmps46
  go_wp2_with fail
  obtain ⟨W, hW⟩ : ∃ X, X = w.alloc (.cells (Iv .u8 (zeroL 32)) 23) := ⟨_, rfl⟩
  rw [← hW] at HB1 G0 ⊢
  have hsW : w.heap.size < W.heap.size := by rw [hW]; simp
  clear hW
  obtain ⟨h0, hh0d⟩ : ∃ x, beginL n kl = x := ⟨_, rfl⟩
  have hh0 : h0.length = 8 := by rw [← hh0d]; exact beginL_length _ _
  have h032 : Hid (All32 h0) := by show All32 h0; rw [← hh0d]; exact beginL_in _ _
  rw [hh0d] at HBO
  refine (startHash_nil n kl HK hkl hn a kcap W (HT.out.later HB1.out (Nat.le_refl _)) h0 hh0d).mono ?_
  clear hh0d
  rintro e w1 ⟨rfl, hb1⟩
  have HB2 : Hid (Below w.heap.size w w1) := HB1.out.trans (hb1.mono (by omega))
  have G1 : Hid _ := (hb1.block w.heap.size hsW).trans G0.out
  have hs1 : w.heap.size < w1.heap.size := by have := hb1.size; omega
  clear hb1 HB1 G0
  go_wp2_with fail
  refine (absorb_parts h0 [] Ps vs 0 0 0 h0 (zeroL 64) rfl (HSt.start h0 (zeroL 64) rfl) (.inr rfl) hh0 h032.out (fun i => by simp) (by simpa using hlen) np cap pb po w1 (HP.out.later HB2.out (Nat.le_refl _)) (HT.out.later HB2.out (Nat.le_refl _))).mono ?_
  rintro e w2 ⟨k, t, fn, h, b, rfl, htk, s, hk, hb2⟩
  have HB3 : Hid (Below w.heap.size w w2) := HB2.out.trans (hb2.mono (by omega))
  have G2 : Hid _ := (hb2.block w.heap.size hs1).trans G1.out
  have hs2 : w.heap.size < w2.heap.size := by have := hb2.size; omega
  have S : Hid _ := s
  have HTK : Hid _ := htk
  clear hb2 HB2 G1 s htk
  go_wp2_with fail
  refine (finish_read h0 Ps.flatten h b k t fn HTK.out S.out hk hh0 h032.out HP.out.bytes hlen w2 (HT.out.later HB3.out (Nat.le_refl _)) Bo (HBO.out _ rfl)).mono ?_
  rintro e w3 ⟨rfl, hb3⟩
  have HB4 : Hid (Below w.heap.size w w3) := HB3.out.trans (hb3.mono (by omega))
  have G3 : Hid _ := (hb3.block w.heap.size hs2).trans G2.out
  clear hb3 HB3 G2 S HTK
  have hi32 : Hid ((Tryd.prog.info? 23).map (·.size) = some (Iv .u8 Bo).size) := by show _ = _; rw [Iv_size, hBo]; exact infoBB32
  go_wp2_with (refine wpList_put_row rfl 23 _ _ rfl w.heap.size (Iv .u8 Bo) rfl rfl _ _ G3.out hi32.out ?hs (Iv_one _ _) ?_)
  case hs => rw [Iv_size, Iv_size, hBo]; rfl
  intro W9 hP9
  go_wp2
  exact bodyPost_ret (v := .agg (Iv .u8 Bo)) (results_cell_row rfl _ _ _ _ (Iv .u8 Bo) _ _ rfl hP9.here Tryd.underlying23 rfl hi32.out) rfl ⟨rfl, hP9.below _ _ HB4.out (Nat.le_refl _)⟩
/-- What Hash answers. -/
def hashB (D : List Int) : List Int := blakeB (beginL 32 0) D
theorem hashB_length (D : List Int) : (hashB D).length = 32 := blakeB_length _ _
set_option maxRecDepth 10000 in
theorem hashOf_any (Ps : List (List Int)) (vs : List Value) (np cap pb po : Nat) (w : World) (hp : Parts w pb po np vs Ps) (hlen : Ps.flatten.length ≤ 1000000000000) (ht : Tabs w) (Bo : List Int) (HBO : Hid (∀ x, hashB Ps.flatten = x → x = Bo)) :
    Calls Tryd.prog 44 #[.slice (some ⟨pb, po, none⟩) np cap] w fun e w' => e = .returned (.agg (Iv .u8 Bo)) ∧ Below w.heap.size w w' := by
  have hzb := zeroB32
  have HT : Hid _ := ht
  have HP : Hid _ := hp
  clear ht hp
  have hBo : Bo.length = 32 := by rw [← HBO.out _ rfl]; exact hashB_length _
  have HB1 : Hid (Below w.heap.size w (w.alloc (.cells (Iv .u8 (zeroL 32)) 23))) := (Below.refl _ _).alloc (Nat.le_refl _) _
  have G0 : Hid ((w.alloc (.cells (Iv .u8 (zeroL 32)) 23)).heap[w.heap.size]? = some (.cells (Iv .u8 (zeroL 32)) 23)) := heap_alloc_new _ _
  go_enter Tryd.func44, Tryd.ntmps44
  go_wp2_with fail
  obtain ⟨W, hW⟩ : ∃ X, X = w.alloc (.cells (Iv .u8 (zeroL 32)) 23) := ⟨_, rfl⟩
  rw [← hW] at HB1 G0 ⊢
  have hsW : w.heap.size < W.heap.size := by rw [hW]; simp
  clear hW
  refine (blake_nil 32 0 rfl (by decide) none 0 Ps vs np cap pb po W (HP.out.later HB1.out (Nat.le_refl _)) hlen (HT.out.later HB1.out (Nat.le_refl _)) Bo HBO).mono ?_
  rintro e w1 ⟨rfl, hb1⟩
  have HB2 : Hid (Below w.heap.size w w1) := HB1.out.trans (hb1.mono (by omega))
  have G1 : Hid _ := (hb1.block w.heap.size hsW).trans G0.out
  clear hb1 HB1 G0
  have hi32 : Hid ((Tryd.prog.info? 23).map (·.size) = some (Iv .u8 Bo).size) := by show _ = _; rw [Iv_size, hBo]; exact infoBB32
  go_wp2_with (refine wpList_put_row rfl 23 _ _ rfl w.heap.size (Iv .u8 Bo) rfl rfl _ _ G1.out hi32.out ?hs (Iv_one _ _) ?_)
  case hs => rw [Iv_size, Iv_size, hBo]; rfl
  intro W9 hP9
  go_wp2
  exact bodyPost_ret (v := .agg (Iv .u8 Bo)) (results_cell_row rfl _ _ _ _ (Iv .u8 Bo) _ _ rfl hP9.here Tryd.underlying23 rfl hi32.out) rfl ⟨rfl, hP9.below _ _ HB2.out (Nat.le_refl _)⟩
set_option maxRecDepth 10000 in
theorem implHash_any (D : List Int) (v : Value) (w : World) (hv : PartOk w v D) (hlen : D.length ≤ 1000000000000) (ht : Tabs w) (Bo : List Int) (HBO : Hid (∀ x, hashB D = x → x = Bo)) :
    Calls Tryd.prog 13 #[v] w fun e w' => e = .returned (.agg (Iv .u8 Bo)) ∧ Below w.heap.size w w' := by
  have hzb := zeroB32
  have HT : Hid _ := ht
  have HV' : Hid _ := hv
  obtain ⟨a, n, cap, rfl, _⟩ := hv
  clear ht
  have hBo : Bo.length = 32 := by rw [← HBO.out _ rfl]; exact hashB_length _
  go_enter Tryd.func13, Tryd.ntmps13
  go_wp2_with fail
  obtain ⟨W, hW⟩ : ∃ X, X = w.alloc (.cells (Iv .u8 (zeroL 32)) 23) := ⟨_, rfl⟩
  have hsW : W.heap.size = w.heap.size + 1 := by rw [hW]; simp
  have HB1 : Hid (Below w.heap.size w W) := by show Below _ _ _; rw [hW]; exact (Below.refl _ _).alloc (Nat.le_refl _) _
  have G0 : W.heap[w.heap.size]? = some (.cells (Iv .u8 (zeroL 32)) 23) := by rw [hW]; exact heap_alloc_new _ _
  rw [← hW, ← hsW]
  clear hW
  have HPP : Parts (W.alloc (.cells #[.slice a n cap] 22)) W.heap.size 0 1 [.slice a n cap] [D] := Parts.one ((show PartOk w _ D from HV'.out).later HB1.out (Nat.le_refl _))
  obtain ⟨W2, hW2⟩ : ∃ X, X = W.alloc (.cells #[.slice a n cap] 22) := ⟨_, rfl⟩
  have HB2 : Hid (Below w.heap.size w W2) := by show Below _ _ _; rw [hW2]; exact HB1.out.alloc (by omega) _
  have G2 : Hid (W2.heap[w.heap.size]? = some (.cells (Iv .u8 (zeroL 32)) 23)) := by show _ = _; rw [hW2]; exact (heap_alloc_old _ _ (by omega)).trans G0
  have hs2 : w.heap.size < W2.heap.size := by rw [hW2]; simp; omega
  rw [← hW2] at HPP ⊢
  refine (hashOf_any [D] [.slice a n cap] 1 1 W.heap.size 0 W2 HPP (by simpa using hlen) (HT.out.later HB2.out (Nat.le_refl _)) Bo (by rw [show [D].flatten = D by simp]; exact HBO)).mono ?_
  rintro e w1 ⟨rfl, hb1⟩
  have HB3 : Hid (Below w.heap.size w w1) := HB2.out.trans (hb1.mono (by omega))
  have G1 : Hid _ := (hb1.block w.heap.size hs2).trans G2.out
  clear hb1 HB1 HB2 G0 G2 HPP hW2 HV'
  have hi32 : Hid ((Tryd.prog.info? 23).map (·.size) = some (Iv .u8 Bo).size) := by show _ = _; rw [Iv_size, hBo]; exact infoBB32
  go_wp2_with (refine wpList_put_row rfl 23 _ _ rfl w.heap.size (Iv .u8 Bo) rfl rfl _ _ G1.out hi32.out ?hs (Iv_one _ _) ?_)
  case hs => rw [Iv_size, Iv_size, hBo]; rfl
  intro W9 hP9
  go_wp2
  exact bodyPost_ret (v := .agg (Iv .u8 Bo)) (results_cell_row rfl _ _ _ _ (Iv .u8 Bo) _ _ rfl hP9.here Tryd.underlying23 rfl hi32.out) rfl ⟨rfl, hP9.below _ _ HB3.out (Nat.le_refl _)⟩
end Go.Proofs.YtgpjdbkdnojbhaaDoor
