import Derived.Test.YtfipcjchjpihkaaGreatDoorMZ11
import Derived.Test.YtfipcjchjpihkaaGreatDoorMZ04
import Derived.Test.YtfipcjchjpihkaaGreatDoorRows
import Derived.Test.YtfipcjchjpihkaaGreatDoorMZ00
import Derived.Test.YtfipcjchjpihkaaGreatDoorNum
/- A hash by the program: several parts. -/
namespace Go.Proofs.YtfipcjchjpihkaaGreatDoor
open Go.RowKit
set_option linter.unusedVariables false
/-- The parts of a hash, as they lie behind the slice of slices. -/
structure Parts (w : World) (pb po np : Nat) (vs : List Value) (Ps : List (List Int)) : Prop where
  len : vs.length = np
  lenP : Ps.length = np
  few : np ≤ 1000
  blk : 0 < np → pb < w.heap.size
  cell : ∀ i (hi : i < vs.length), w.cell? ⟨pb, po + i, none⟩ = some vs[i]
  ok : ∀ i (hi : i < vs.length) (hi' : i < Ps.length), PartOk w vs[i] Ps[i]
theorem Parts.later {w w' : World} {pb po np B : Nat} {vs : List Value} {Ps : List (List Int)} (h : Parts w pb po np vs Ps) (hb : Below B w w') (hB : w.heap.size ≤ B) : Parts w' pb po np vs Ps :=
  ⟨h.len, h.lenP, h.few, fun hp => Nat.lt_of_lt_of_le (h.blk hp) hb.size, fun i hi => (hb.cell (p := ⟨pb, po + i, none⟩) (Nat.lt_of_lt_of_le (h.blk (by have := h.len; omega)) hB)).trans (h.cell i hi), fun i hi hi' => (h.ok i hi hi').later hb hB⟩
theorem Parts.bytes {w : World} {pb po np : Nat} {vs : List Value} {Ps : List (List Int)} (h : Parts w pb po np vs Ps) : Bytes Ps.flatten :=
  bytes_flat Ps fun P hP => by
    obtain ⟨i, hi, rfl⟩ := List.mem_iff_getElem.1 hP
    exact (h.ok i (by have := h.len; have := h.lenP; omega) hi).bytes
theorem Parts.one {w : World} {v : Value} {P : List Int} {t : TypeId} (h : PartOk w v P) : Parts (w.alloc (.cells #[v] t)) w.heap.size 0 1 [v] [P] := by
  refine ⟨rfl, rfl, by decide, fun _ => by simp, fun i hi => ?_, fun i hi hi' => ?_⟩
  · obtain rfl : i = 0 := by simpa using hi
    simp
  · obtain rfl : i = 0 := by simpa using hi
    exact h.later ((Below.refl w.heap.size w).alloc (Nat.le_refl _) _) (Nat.le_refl _)
theorem Parts.two {w : World} {v u : Value} {P R : List Int} {t : TypeId} (h : PartOk w v P) (h2 : PartOk w u R) : Parts (w.alloc (.cells #[v, u] t)) w.heap.size 0 2 [v, u] [P, R] := by
  have hb : Below w.heap.size w (w.alloc (.cells #[v, u] t)) := (Below.refl w.heap.size w).alloc (Nat.le_refl _) _
  refine ⟨rfl, rfl, by decide, fun _ => by simp, fun i hi => ?_, fun i hi hi' => ?_⟩
  · have hc : i = 0 ∨ i = 1 := by simp at hi; omega
    rcases hc with rfl | rfl <;> simp
  · have hc : i = 0 ∨ i = 1 := by simp at hi; omega
    rcases hc with rfl | rfl
    · exact h.later hb (Nat.le_refl _)
    · exact h2.later hb (Nat.le_refl _)
theorem absorb_parts (h0 D : List Int) (Ps : List (List Int)) (vs : List Value) (k t fn : Nat) (h b : List Int) (htk : t = 64 * k) (s : HSt h0 D k fn h b) (hk : 0 < fn ∨ k = 0) (hh0 : h0.length = 8) (h032 : All32 h0) (hD : Bytes D) (hlen : D.length + Ps.flatten.length ≤ 1000000000000)
    (np cap pb po : Nat) (w : World) (hp : Parts w pb po np vs Ps) (ht : Tabs w) :
    Calls Tryz.prog 52 #[.agg (hsA h t b fn), .slice (some ⟨pb, po, none⟩) np cap] w fun e w' => ∃ (k' t' fn' : Nat) (h' b' : List Int), e = .returned (.agg (hsA h' t' b' fn')) ∧ t' = 64 * k' ∧ HSt h0 (D ++ Ps.flatten) k' fn' h' b' ∧ (0 < fn' ∨ k' = 0) ∧ Below w.heap.size w w' :=
  absorb_any h0 D Ps vs k t fn h b htk s hk hh0 h032 hD hlen np cap pb po hp.len hp.lenP hp.few w hp.blk hp.cell hp.ok ht
set_option maxRecDepth 10000 in
set_option maxHeartbeats 1000000 in
theorem blake_nil (n kl : Nat) (HK : Hid (kl = 0)) (hn : n ≤ 64) (a : Option Addr) (kcap : Nat) (Ps : List (List Int)) (vs : List Value) (np cap pb po : Nat) (w : World) (hp : Parts w pb po np vs Ps) (hlen : Ps.flatten.length ≤ 1000000000000) (ht : Tabs w) (Bo : List Int) (HBO : Hid (∀ x, blakeB (beginL n kl) Ps.flatten = x → x = Bo)) :
    Calls Tryz.prog 38 #[.int .i64 n, .slice a kl kcap, .slice (some ⟨pb, po, none⟩) np cap] w fun e w' => e = .returned (.agg (Iv .u8 Bo)) ∧ Below w.heap.size w w' := by
  have hzb := zeroB32
  have HT : Hid _ := ht
  have HP : Hid _ := hp
  clear ht hp
  have hBo : Bo.length = 32 := by rw [← HBO.out _ rfl]; exact blakeB_length _ _
  have hkl : kl ≤ 64 := by have := HK.out; omega
  have HB1 : Hid (Below w.heap.size w (w.alloc (.cells (Iv .u8 (zeroL 32)) 25))) := (Below.refl _ _).alloc (Nat.le_refl _) _
  have G0 : Hid ((w.alloc (.cells (Iv .u8 (zeroL 32)) 25)).heap[w.heap.size]? = some (.cells (Iv .u8 (zeroL 32)) 25)) := heap_alloc_new _ _
  go_enter Tryz.func38, Tryz.ntmps38
  go_wp2_with fail
  obtain ⟨W, hW⟩ : ∃ X, X = w.alloc (.cells (Iv .u8 (zeroL 32)) 25) := ⟨_, rfl⟩
  rw [← hW] at HB1 G0 ⊢
  have hsW : w.heap.size < W.heap.size := by rw [hW]; simp
  clear hW
  obtain ⟨h0, hh0d⟩ : ∃ x, beginL n kl = x := ⟨_, rfl⟩
  have hh0 : h0.length = 8 := by rw [← hh0d]; exact beginL_length _ _
  have h032 : Hid (All32 h0) := by show All32 h0; rw [← hh0d]; exact beginL_in _ _
  rw [hh0d] at HBO
  refine (startHash_nil n kl HK hkl hn a kcap W (HT.out.later HB1.out (Nat.le_refl _)) h0 hh0d).mono ?_
  clear hh0d
  rintro e w1 ⟨rfl, hb1⟩
  have HB2 : Hid (Below w.heap.size w w1) := HB1.out.trans (hb1.mono (by omega))
  have G1 : Hid _ := (hb1.block w.heap.size hsW).trans G0.out
  have hs1 : w.heap.size < w1.heap.size := by have := hb1.size; omega
  clear hb1 HB1 G0
  go_wp2_with fail
  refine (absorb_parts h0 [] Ps vs 0 0 0 h0 (zeroL 64) rfl (HSt.start h0 (zeroL 64) rfl) (.inr rfl) hh0 h032.out (fun i => by simp) (by simpa using hlen) np cap pb po w1 (HP.out.later HB2.out (Nat.le_refl _)) (HT.out.later HB2.out (Nat.le_refl _))).mono ?_
  rintro e w2 ⟨k, t, fn, h, b, rfl, htk, s, hk, hb2⟩
  have HB3 : Hid (Below w.heap.size w w2) := HB2.out.trans (hb2.mono (by omega))
  have G2 : Hid _ := (hb2.block w.heap.size hs1).trans G1.out
  have hs2 : w.heap.size < w2.heap.size := by have := hb2.size; omega
  have S : Hid _ := s
  have HTK : Hid _ := htk
  clear hb2 HB2 G1 s htk
  go_wp2_with fail
  refine (finish_read h0 Ps.flatten h b k t fn HTK.out S.out hk hh0 h032.out HP.out.bytes hlen w2 (HT.out.later HB3.out (Nat.le_refl _)) Bo (HBO.out _ rfl)).mono ?_
  rintro e w3 ⟨rfl, hb3⟩
  have HB4 : Hid (Below w.heap.size w w3) := HB3.out.trans (hb3.mono (by omega))
  have G3 : Hid _ := (hb3.block w.heap.size hs2).trans G2.out
  clear hb3 HB3 G2 S HTK
  have hi32 : Hid ((Tryz.prog.info? 25).map (·.size) = some (Iv .u8 Bo).size) := by show _ = _; rw [Iv_size, hBo]; exact infoBB32
  go_wp2_with (refine wpList_put_row rfl 25 _ _ rfl w.heap.size (Iv .u8 Bo) rfl rfl _ _ G3.out hi32.out ?hs (Iv_one _ _) ?_)
  case hs => rw [Iv_size, Iv_size, hBo]; rfl
  intro W9 hP9
  go_wp2
  exact bodyPost_ret (v := .agg (Iv .u8 Bo)) (results_cell_row rfl _ _ _ _ (Iv .u8 Bo) _ _ rfl hP9.here Tryz.underlying25 rfl hi32.out) rfl ⟨rfl, hP9.below _ _ HB4.out (Nat.le_refl _)⟩
/-- What Hash answers. -/
def hashB (D : List Int) : List Int := blakeB (beginL 32 0) D
theorem hashB_length (D : List Int) : (hashB D).length = 32 := blakeB_length _ _
set_option maxRecDepth 10000 in
theorem hashOf_any (Ps : List (List Int)) (vs : List Value) (np cap pb po : Nat) (w : World) (hp : Parts w pb po np vs Ps) (hlen : Ps.flatten.length ≤ 1000000000000) (ht : Tabs w) (Bo : List Int) (HBO : Hid (∀ x, hashB Ps.flatten = x → x = Bo)) :
    Calls Tryz.prog 43 #[.slice (some ⟨pb, po, none⟩) np cap] w fun e w' => e = .returned (.agg (Iv .u8 Bo)) ∧ Below w.heap.size w w' := by
  have hzb := zeroB32
  have HT : Hid _ := ht
  have HP : Hid _ := hp
  clear ht hp
  have hBo : Bo.length = 32 := by rw [← HBO.out _ rfl]; exact hashB_length _
  have HB1 : Hid (Below w.heap.size w (w.alloc (.cells (Iv .u8 (zeroL 32)) 25))) := (Below.refl _ _).alloc (Nat.le_refl _) _
  have G0 : Hid ((w.alloc (.cells (Iv .u8 (zeroL 32)) 25)).heap[w.heap.size]? = some (.cells (Iv .u8 (zeroL 32)) 25)) := heap_alloc_new _ _
  go_enter Tryz.func43, Tryz.ntmps43
  go_wp2_with fail
  obtain ⟨W, hW⟩ : ∃ X, X = w.alloc (.cells (Iv .u8 (zeroL 32)) 25) := ⟨_, rfl⟩
  rw [← hW] at HB1 G0 ⊢
  have hsW : w.heap.size < W.heap.size := by rw [hW]; simp
  clear hW
  refine (blake_nil 32 0 rfl (by decide) none 0 Ps vs np cap pb po W (HP.out.later HB1.out (Nat.le_refl _)) hlen (HT.out.later HB1.out (Nat.le_refl _)) Bo HBO).mono ?_
  rintro e w1 ⟨rfl, hb1⟩
  have HB2 : Hid (Below w.heap.size w w1) := HB1.out.trans (hb1.mono (by omega))
  have G1 : Hid _ := (hb1.block w.heap.size hsW).trans G0.out
  clear hb1 HB1 G0
  have hi32 : Hid ((Tryz.prog.info? 25).map (·.size) = some (Iv .u8 Bo).size) := by show _ = _; rw [Iv_size, hBo]; exact infoBB32
  go_wp2_with (refine wpList_put_row rfl 25 _ _ rfl w.heap.size (Iv .u8 Bo) rfl rfl _ _ G1.out hi32.out ?hs (Iv_one _ _) ?_)
  case hs => rw [Iv_size, Iv_size, hBo]; rfl
  intro W9 hP9
  go_wp2
  exact bodyPost_ret (v := .agg (Iv .u8 Bo)) (results_cell_row rfl _ _ _ _ (Iv .u8 Bo) _ _ rfl hP9.here Tryz.underlying25 rfl hi32.out) rfl ⟨rfl, hP9.below _ _ HB2.out (Nat.le_refl _)⟩
end Go.Proofs.YtfipcjchjpihkaaGreatDoor
/- The model's 'Hash'. -/
namespace Go.Proofs.YtfipcjchjpihkaaGreatDoor
open Go.ChangeShapes Go.WideShapes Go.ChangeAt Go.RowKit
set_option linter.unusedVariables false
set_option maxRecDepth 10000 in
theorem specHash_any (D : List Int) (dl db dO dcap : Nat) (w : World) (hD : D.length = dl) (hdl : dl ≤ 10000000) (hDb : Bytes D) (hDr : ∀ j, j < dl → w.cell? ⟨db, dO + j, none⟩ = some (.int .u8 (D.getD j 0))) (Bo : List Int) (HBO : Hid (∀ x, hashB D = x → x = Bo)) :
    Calls Tryz.prog 49 #[.slice (some ⟨db, dO, none⟩) dl dcap] w fun e w' => e = .returned (.agg (Iv .u8 Bo)) ∧ Below w.heap.size w w' := by
  have hzb := zeroB32
  have hBo : Bo.length = 32 := by rw [← HBO.out _ rfl]; exact hashB_length _
  have HDR : Hid (∀ j, j < dl → (w.alloc (.cells (Iv .u8 (zeroL 32)) 25)).cell? ⟨db, dO + j, none⟩ = some (.int .u8 (D.getD j 0))) := fun j hj => by
    rw [((Below.refl w.heap.size w).alloc (Nat.le_refl _) (.cells (Iv .u8 (zeroL 32)) 25)).cell (p := ⟨db, dO + j, none⟩) (World.block_lt_of_cell? _ _ (hDr j hj))]
    exact hDr j hj
  have HB1 : Hid (Below w.heap.size w (w.alloc (.cells (Iv .u8 (zeroL 32)) 25))) := (Below.refl _ _).alloc (Nat.le_refl _) _
  have G0 : Hid ((w.alloc (.cells (Iv .u8 (zeroL 32)) 25)).heap[w.heap.size]? = some (.cells (Iv .u8 (zeroL 32)) 25)) := heap_alloc_new _ _
  clear hDr
  go_enter Tryz.func49, Tryz.ntmps49
  go_wp2_with fail
  obtain ⟨W, hW⟩ : ∃ X, X = w.alloc (.cells (Iv .u8 (zeroL 32)) 25) := ⟨_, rfl⟩
  rw [← hW] at HB1 G0 HDR ⊢
  have hsW : w.heap.size < W.heap.size := by rw [hW]; simp
  clear hW
  refine (l1Blake_any 32 0 dl [] D none 0 db dO dcap W rfl (by decide) (fun i => by simp) (fun i hi => by simp at hi) hD hdl hDb HDR.out (by decide) Bo (fun x hx => HBO.out x (by rw [← hx]; rfl))).mono ?_
  rintro e w1 ⟨g, c, rfl, hg1, hg2, hc1, hc2, hcell, hb1⟩
  have HB2 : Hid (Below w.heap.size w w1) := HB1.out.trans (hb1.mono (by omega))
  have G1 : Hid _ := (hb1.block w.heap.size hsW).trans G0.out
  have hs1 : w.heap.size < w1.heap.size := by have := hb1.size; omega
  have HCL : Hid (∀ j, j < 32 → w1.cell? ⟨g, 0 + j, none⟩ = some (.int .u8 (Bo.getD j 0))) := fun j hj => by rw [Nat.zero_add]; exact hcell j hj
  clear hb1 HB1 G0 hcell HDR
  go_wp2_with fail
  refine (l1To32_any Bo hBo g 0 c w1 hg2 HCL.out).mono ?_
  rintro e w2 ⟨rfl, hb2⟩
  have HB3 : Hid (Below w.heap.size w w2) := HB2.out.trans (hb2.mono (by omega))
  have G2 : Hid _ := (hb2.block w.heap.size hs1).trans G1.out
  clear hb2 HB2 G1 HCL
  have hi32 : Hid ((Tryz.prog.info? 25).map (·.size) = some (Iv .u8 Bo).size) := by show _ = _; rw [Iv_size, hBo]; exact infoBB32
  go_wp2_with (refine wpList_put_row rfl 25 _ _ rfl w.heap.size (Iv .u8 Bo) rfl rfl _ _ G2.out hi32.out ?hs (Iv_one _ _) ?_)
  case hs => rw [Iv_size, Iv_size, hBo]; rfl
  intro W9 hP9
  go_wp2
  exact bodyPost_ret (v := .agg (Iv .u8 Bo)) (results_cell_row rfl _ _ _ _ (Iv .u8 Bo) _ _ rfl hP9.here Tryz.underlying25 rfl hi32.out) rfl ⟨rfl, hP9.below _ _ HB3.out (Nat.le_refl _)⟩
theorem partOk_row {w : World} {g : Nat} {zs : List Int} {t : TypeId} (h : w.heap[g]? = some (.cells (Iv .u8 zs) t)) (hb : Bytes zs) (hn : zs.length ≤ 9223372036854775807) : PartOk w (.slice (some ⟨g, 0, none⟩) zs.length zs.length) zs :=
  ⟨_, _, _, rfl, rfl, Nat.le_refl _, hn, hb, .inr ⟨g, 0, rfl, fun j hj => by rw [Nat.zero_add]; exact RowAt.cell (show RowAt w g .u8 zs t from h) j hj⟩⟩
end Go.Proofs.YtfipcjchjpihkaaGreatDoor
/- Slices of the call's own that are not nil; 'l1Join' of two of them. -/
namespace Go.Proofs.YtfipcjchjpihkaaGreatDoor
open Go.RowKit
set_option linter.unusedVariables false

theorem infoByte : (Tryz.prog.info? 5).map (fun i => (i.zero, i.size, i.bytes)) = some (some (.int .u8 0), 1, 1) := by kernel_rfl
/-- A slice of the call's own that is not nil. -/
def OwnS (w0 w : World) (x : Value) (l : List Int) : Prop := ∃ g c, x = .slice (some ⟨g, 0, none⟩) l.length c ∧ Own .u8 5 w0.heap.size w x l
theorem OwnS.of {w0 w : World} {x : Value} {l : List Int} (h : Own .u8 5 w0.heap.size w x l) (hne : l ≠ []) : OwnS w0 w x l := by
  obtain ⟨_, rfl⟩ | ⟨g, cap, rfl, _⟩ := h.at
  · exact absurd rfl hne
  · exact ⟨g, cap, rfl, h⟩
/-- Bytes that lie in a block from a place on. -/
def Lies (w : World) (b o : Nat) (l : List Int) : Prop := b < w.heap.size ∧ ∀ j, j < l.length → w.cell? ⟨b, o + j, none⟩ = some (.int .u8 (l.getD j 0))
theorem Lies.later {w w' : World} {b o B : Nat} {l : List Int} (h : Lies w b o l) (hb : Below B w w') (hB : b < B) : Lies w' b o l :=
  ⟨Nat.lt_of_lt_of_le h.1 hb.size, fun j hj => (hb.cell (p := ⟨b, o + j, none⟩) hB).trans (h.2 j hj)⟩
theorem OwnS.lies {w0 w : World} {x : Value} {l : List Int} (h : OwnS w0 w x l) : ∃ g c, x = .slice (some ⟨g, 0, none⟩) l.length c ∧ w0.heap.size ≤ g ∧ Lies w g 0 l ∧ l.length ≤ c ∧ c ≤ 9223372036854775807 := by
  obtain ⟨g, c, rfl, hown⟩ := h
  obtain ⟨h, _⟩ | ⟨g', cap, h, hb, hg2, hc1, hc2, hcell, _⟩ := hown.at
  · cases h
  · cases h
    exact ⟨g, c, rfl, hb, ⟨hg2, fun j hj => by rw [Nat.zero_add]; exact hcell j hj⟩, hc1, hc2⟩
set_option maxHeartbeats 1000000 in
theorem l1Join_any (ga oa ca gb ob cb : Nat) (la lb : List Int) (n m : Nat) (hla : la.length = n) (hlb : lb.length = m) (hlen : n + m ≤ 100000000) (hne : la ++ lb ≠ []) (w : World) (ha : Lies w ga oa la) (hb : Lies w gb ob lb) :
    Calls Tryz.prog 50 #[.slice (some ⟨ga, oa, none⟩) n ca, .slice (some ⟨gb, ob, none⟩) m cb] w fun e w' => ∃ x, e = .returned x ∧ OwnS w w' x (la ++ lb) ∧ Below w.heap.size w w' := by
  have HA : Hid (Lies w ga oa la) := ha
  have HB : Hid (Lies w gb ob lb) := hb
  have HO : Hid (Own .u8 5 w.heap.size (w.alloc (.cells #[] 5)) (.slice (some ⟨w.heap.size, 0, none⟩) 0 0) []) := Own.nil w (Nat.le_refl _)
  have HW : Hid (Below w.heap.size w (w.alloc (.cells #[] 5))) := (Below.refl _ _).alloc (Nat.le_refl _) _
  have HS : Hid (w.heap.size ≤ (w.alloc (.cells #[] 5)).heap.size) := HW.out.size
  have HN : Hid (∀ j, j < n → (w.alloc (.cells #[] 5)).cell? ⟨ga, oa + j, none⟩ = some (.int .u8 (la.getD j 0))) := fun j hj => (ha.later HW.out ha.1).2 j (by omega)
  have HL : Hid (la.length = n) := hla
  have HM : Hid (lb.length = m) := hlb
  have HNE : Hid (la ++ lb ≠ []) := hne
  clear ha hb hla hlb hne
  go_enter Tryz.func50, Tryz.ntmps50
  go_wp2_with (first
    | (at_builtin; refine extend_law .u8 22 5 1 Tryz.underlying22 infoByte (by decide) rfl (.tmp 6) (.tmp 7) rfl w.heap.size w _ _ [] ga oa n ca la HL.out rfl rfl HO.out HW.out HS.out (by simp; omega) HN.out ?_; intro v2 w2 hown2 hbel2 _ _
       have HN2 : Hid (∀ j, j < m → w2.cell? ⟨gb, ob + j, none⟩ = some (.int .u8 (lb.getD j 0))) := fun j hj => (HB.out.later hbel2 HB.out.1).2 j (by have := HM.out; omega))
    | (at_builtin; refine extend_law .u8 22 5 1 Tryz.underlying22 infoByte (by decide) rfl (.tmp 9) (.tmp 10) rfl w.heap.size w _ _ la gb ob m cb lb HM.out rfl rfl hown2 hbel2 hbel2.size (by have := HL.out; omega) HN2.out ?_; intro v3 w3 hown3 hbel3 _ _))
  go_ret
  exact ⟨_, rfl, OwnS.of hown3 HNE.out, hbel3⟩
end Go.Proofs.YtfipcjchjpihkaaGreatDoor
/- 'keyOf', 'l5Label': the hash of a label and a key. -/
namespace Go.Proofs.YtfipcjchjpihkaaGreatDoor
open Go.RowKit
set_option linter.unusedVariables false
def labC : List Int := [99, 111, 111, 107, 105, 101, 45, 45]
theorem labC_bytes : Bytes labC := by
  intro i
  match i with
  | 0 => exact ⟨by decide, by decide⟩
  | 1 => exact ⟨by decide, by decide⟩
  | 2 => exact ⟨by decide, by decide⟩
  | 3 => exact ⟨by decide, by decide⟩
  | 4 => exact ⟨by decide, by decide⟩
  | 5 => exact ⟨by decide, by decide⟩
  | 6 => exact ⟨by decide, by decide⟩
  | 7 => exact ⟨by decide, by decide⟩
  | i + 8 => simp [labC]
theorem conv_labC (w : World) : ∃ (cap : Nat) (w1 : World), (convert 9 22 (.string ⟨#[99, 111, 111, 107, 105, 101, 45, 45]⟩)).run Tryz.prog w = .ok (.slice (some ⟨w.heap.size, 0, none⟩) 8 cap) w1
    ∧ Below w.heap.size w w1 ∧ w1.heap.size = w.heap.size + 1 ∧ Lies w1 w.heap.size 0 labC ∧ 8 ≤ cap ∧ cap ≤ 9223372036854775807 := by
  have h := run_bytes_of_string (P := Tryz.prog) w 9 22 5 ⟨#[99, 111, 111, 107, 105, 101, 45, 45]⟩ Tryz.underlying9 Tryz.underlying22 Tryz.underlying5
  have hsz : (ByteArray.mk #[99, 111, 111, 107, 105, 101, 45, 45]).size = 8 := rfl
  rw [hsz] at h
  refine ⟨_, _, h, below_drews ((Below.refl w.heap.size w).alloc (Nat.le_refl _) _) 1, by simp, ⟨by simp, fun j hj => ?_⟩, grownCap_ge _ _ _ _, Nat.le_trans (grownCap_le_maxLen _ _ _ _ (by decide)) (by decide)⟩
  have hb := bytesRow_at ⟨#[99, 111, 111, 107, 105, 101, 45, 45]⟩ (grownCap w 8 0 5) j hj
  rw [Nat.zero_add]
  have hr : (w.drew.alloc (.cells (bytesRow ⟨#[99, 111, 111, 107, 105, 101, 45, 45]⟩ (grownCap w 8 0 5)) 5 ((bytesRow ⟨#[99, 111, 111, 107, 105, 101, 45, 45]⟩ (grownCap w 8 0 5)).size, (bytesRow ⟨#[99, 111, 111, 107, 105, 101, 45, 45]⟩ (grownCap w 8 0 5)).size + 1))).heap[w.heap.size]? = _ := heap_alloc_new w.drew _
  rw [cell_of_row _ _ _ _ _ _ hr, hb]
  match j, hj with
  | 0, _ => rfl
  | 1, _ => rfl
  | 2, _ => rfl
  | 3, _ => rfl
  | 4, _ => rfl
  | 5, _ => rfl
  | 6, _ => rfl
  | 7, _ => rfl
set_option maxRecDepth 10000 in
theorem keyOfC_any (P : List Int) (hP : P.length = 32) (hPb : Bytes P) (w : World) (ht : Tabs w) (Bo : List Int) (HBO : Hid (∀ x, hashB (labC ++ P) = x → x = Bo)) :
    Calls Tryz.prog 28 #[.string ⟨#[99, 111, 111, 107, 105, 101, 45, 45]⟩, .agg (Iv .u8 P)] w fun e w' => e = .returned (.agg (Iv .u8 Bo)) ∧ Below w.heap.size w w' := by
  have hzb := zeroB32
  have HT : Hid _ := ht
  clear ht
  have hBo : Bo.length = 32 := by rw [← HBO.out _ rfl]; exact hashB_length _
  have hi32 : Hid ((Tryz.prog.info? 25).map (·.size) = some (Iv .u8 Bo).size) := by show _ = _; rw [Iv_size, hBo]; exact infoBB32
  obtain ⟨W, hW, g0, g1, hs, hB⟩ : ∃ W, (w.alloc (.cells (Iv .u8 P) 25)).alloc (.cells (Iv .u8 (zeroL 32)) 25) = W ∧ W.heap[w.heap.size]? = some (.cells (Iv .u8 P) 25) ∧ W.heap[w.heap.size + 1]? = some (.cells (Iv .u8 (zeroL 32)) 25) ∧ W.heap.size = w.heap.size + 2 ∧ Below w.heap.size w W :=
    ⟨_, rfl, (heap_alloc_old _ _ (by simp)).trans (heap_alloc_new _ _), by have := heap_alloc_new (w.alloc (.cells (Iv .u8 P) 25)) (.cells (Iv .u8 (zeroL 32)) 25); simpa using this, by simp, ((Below.refl _ _).alloc (Nat.le_refl _) _).alloc (by simp) _⟩
  obtain ⟨cap, w1, hc, hb1, hs1, hl1, hc1, hc2⟩ := conv_labC W
  rw [hs] at hc hl1 hs1
  have G0 : Hid _ := (hb1.block w.heap.size (by omega)).trans g0
  have G1 : Hid _ := (hb1.block (w.heap.size + 1) (by omega)).trans g1
  have HB1 : Hid (Below w.heap.size w w1) := hB.trans (hb1.mono (by omega))
  have HL1 : Hid _ := hl1
  have HW : Hid _ := hW
  clear g0 g1 hB hb1 hl1 hW
  go_enter Tryz.func28, Tryz.ntmps28
  go_wp2_with (rw [HW.out])
  rw [← hs1]
  have HPP : Parts (w1.alloc (.cells #[.slice (some ⟨w.heap.size + 2, 0, none⟩) 8 cap, .slice (some ⟨w.heap.size, 0, none⟩) 32 32] 22)) w1.heap.size 0 2 [.slice (some ⟨w.heap.size + 2, 0, none⟩) 8 cap, .slice (some ⟨w.heap.size, 0, none⟩) 32 32] [labC, P] :=
    Parts.two ⟨_, _, _, rfl, rfl, hc1, hc2, labC_bytes, .inr ⟨_, _, rfl, fun j hj => HL1.out.2 j hj⟩⟩ (by have := partOk_row G0.out hPb (by omega); rw [hP] at this; exact this)
  obtain ⟨W2, hW2⟩ : ∃ X, X = w1.alloc (.cells #[.slice (some ⟨w.heap.size + 2, 0, none⟩) 8 cap, .slice (some ⟨w.heap.size, 0, none⟩) 32 32] 22) := ⟨_, rfl⟩
  have HB2 : Hid (Below w.heap.size w W2) := by show Below _ _ _; rw [hW2]; exact HB1.out.alloc (by omega) _
  have G2 : Hid (W2.heap[w.heap.size + 1]? = some (.cells (Iv .u8 (zeroL 32)) 25)) := by show _ = _; rw [hW2]; exact (heap_alloc_old _ _ (by omega)).trans G1.out
  have hs2 : w.heap.size + 1 < W2.heap.size := by rw [hW2]; simp; omega
  rw [← hW2] at HPP ⊢
  refine (hashOf_any [labC, P] _ 2 2 w1.heap.size 0 W2 HPP (by simp [hP, labC]) (HT.out.later HB2.out (Nat.le_refl _)) Bo (by rw [show [labC, P].flatten = labC ++ P by simp]; exact HBO)).mono ?_
  rintro e w3 ⟨rfl, hb3⟩
  have HB3 : Hid (Below w.heap.size w w3) := HB2.out.trans (hb3.mono (by omega))
  have G3 : Hid _ := (hb3.block (w.heap.size + 1) hs2).trans G2.out
  clear hb3 HB1 HB2 G0 G1 G2 HPP hW2 HL1 hc
  go_wp2_with (refine wpList_put_row rfl 25 _ _ rfl (w.heap.size + 1) (Iv .u8 Bo) rfl rfl _ _ G3.out hi32.out ?hs (Iv_one _ _) ?_)
  case hs => rw [Iv_size, Iv_size, hBo]; rfl
  intro W9 hP9
  go_wp2
  exact bodyPost_ret (v := .agg (Iv .u8 Bo)) (results_cell_row rfl _ _ _ _ (Iv .u8 Bo) _ _ rfl hP9.here Tryz.underlying25 rfl hi32.out) rfl ⟨rfl, hP9.below _ _ HB3.out (by omega)⟩
set_option maxRecDepth 10000 in
theorem l5LabelC_any (P : List Int) (hP : P.length = 32) (hPb : Bytes P) (w : World) (Bo : List Int) (HBO : Hid (∀ x, hashB (labC ++ P) = x → x = Bo)) :
    Calls Tryz.prog 37 #[.string ⟨#[99, 111, 111, 107, 105, 101, 45, 45]⟩, .agg (Iv .u8 P)] w fun e w' => e = .returned (.agg (Iv .u8 Bo)) ∧ Below w.heap.size w w' := by
  have hzb := zeroB32
  have hBo : Bo.length = 32 := by rw [← HBO.out _ rfl]; exact hashB_length _
  have hi32 : Hid ((Tryz.prog.info? 25).map (·.size) = some (Iv .u8 Bo).size) := by show _ = _; rw [Iv_size, hBo]; exact infoBB32
  obtain ⟨W, hW, g0, g1, hs, hB⟩ : ∃ W, (w.alloc (.cells (Iv .u8 P) 25)).alloc (.cells (Iv .u8 (zeroL 32)) 25) = W ∧ W.heap[w.heap.size]? = some (.cells (Iv .u8 P) 25) ∧ W.heap[w.heap.size + 1]? = some (.cells (Iv .u8 (zeroL 32)) 25) ∧ W.heap.size = w.heap.size + 2 ∧ Below w.heap.size w W :=
    ⟨_, rfl, (heap_alloc_old _ _ (by simp)).trans (heap_alloc_new _ _), by have := heap_alloc_new (w.alloc (.cells (Iv .u8 P) 25)) (.cells (Iv .u8 (zeroL 32)) 25); simpa using this, by simp, ((Below.refl _ _).alloc (Nat.le_refl _) _).alloc (by simp) _⟩
  obtain ⟨cap, w1, hc, hb1, hs1, hl1, hc1, hc2⟩ := conv_labC W
  rw [hs] at hc hl1 hs1
  have G0 : Hid (w1.heap[w.heap.size]? = some (.cells (Iv .u8 P) 25)) := (hb1.block w.heap.size (by omega)).trans g0
  have G1 : Hid _ := (hb1.block (w.heap.size + 1) (by omega)).trans g1
  have HB1 : Hid (Below w.heap.size w w1) := hB.trans (hb1.mono (by omega))
  have HL1 : Hid _ := hl1
  have HW : Hid _ := hW
  clear g0 g1 hB hb1 hl1 hW
  go_enter Tryz.func37, Tryz.ntmps37
  go_wp2_with (rw [HW.out])
  refine (l1Join_any (w.heap.size + 2) 0 cap w.heap.size 0 32 labC P 8 32 rfl hP (by decide) (by simp [labC]) w1 HL1.out ⟨by omega, fun j hj => by rw [Nat.zero_add]; exact RowAt.cell (show RowAt w1 _ .u8 P _ from G0.out) j hj⟩).mono ?_
  rintro e w2 ⟨x, rfl, hox, hb2⟩
  obtain ⟨g, c, rfl, hg, hli, hcc1, hcc2⟩ := hox.lies
  have hll : (labC ++ P).length = 40 := by simp [labC, hP]
  rw [hll]
  have HB2 : Hid (Below w.heap.size w w2) := HB1.out.trans (hb2.mono (by omega))
  have G2 : Hid _ := (hb2.block (w.heap.size + 1) (by omega)).trans G1.out
  have hs2 : w.heap.size + 1 < w2.heap.size := by have := hb2.size; omega
  have HLI : Hid _ := hli
  clear hox hb2 hli HB1 G0 G1 HL1 hc
  go_wp2_with fail
  refine (specHash_any (labC ++ P) 40 g 0 c w2 hll (by decide) (bytes_append labC_bytes hPb) (fun j hj => HLI.out.2 j (by omega)) Bo HBO).mono ?_
  rintro e w3 ⟨rfl, hb3⟩
  have HB3 : Hid (Below w.heap.size w w3) := HB2.out.trans (hb3.mono (by have := HB2.out.size; omega))
  have G3 : Hid _ := (hb3.block (w.heap.size + 1) hs2).trans G2.out
  clear hb3 HB2 G2 HLI
  go_wp2_with (refine wpList_put_row rfl 25 _ _ rfl (w.heap.size + 1) (Iv .u8 Bo) rfl rfl _ _ G3.out hi32.out ?hs (Iv_one _ _) ?_)
  case hs => rw [Iv_size, Iv_size, hBo]; rfl
  intro W9 hP9
  go_wp2
  exact bodyPost_ret (v := .agg (Iv .u8 Bo)) (results_cell_row rfl _ _ _ _ (Iv .u8 Bo) _ _ rfl hP9.here Tryz.underlying25 rfl hi32.out) rfl ⟨rfl, hP9.below _ _ HB3.out (by omega)⟩
end Go.Proofs.YtfipcjchjpihkaaGreatDoor
