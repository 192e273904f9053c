import Derived.Test.YtfckjjdidkefcaaDoorCS4
import Derived.Test.YtfckjjdidkefcaaDoorCS1
namespace Go.Proofs.YtfckjjdidkefcaaDoor
open Go.RowKit
set_option linter.unusedVariables false

theorem putFrom_row {w : World} {g : Nat} {t : TypeId} {l : List Int} (h : RowAt w g .u32 l t) (off k : Nat) (f : Nat → Int) (hk : off + k < l.length) :
    (w.setRow g (Iv .u32 (putFrom l off f k))).setCell ⟨g, off + k, none⟩ (.int .u32 (f k)) = w.setRow g (Iv .u32 (putFrom l off f (k + 1))) := by
  rw [setCell_setRow, Iv_set, putFrom_step _ _ _ _ hk]
set_option maxRecDepth 10000 in
set_option maxHeartbeats 4000000 in
theorem l2Start_any (key ws : List Int) (n : Nat) (w : World) (hk : key.length = 32) (hkb : Bytes key) (hn : ws.length = n) (hn4 : n ≤ 4) (a : Option Addr) (cap : Nat) (hr : RdK .u32 w a ws) :
    Calls Tryd.prog 14 #[.agg (Iv .u8 key), .slice a n cap] w fun e w' => e = .returned (.agg (Iv .u32 (putFrom (putFrom chaC 4 (wordAt key) 8) 12 (nth0 ws) n))) ∧ Below w.heap.size w w' := by
  go_enter Tryd.func14, Tryd.ntmps14
  go_wp2_with fail
  obtain ⟨W, hW, h0, h1, h2, hs, hb⟩ := alloc3 w (.cells (Iv .u8 key) 22) (.cells (Iv .u32 (List.replicate 16 0)) 36) (.cells (Iv .u32 chaC) 36)
  have hW' := hW
  simp only [Iv, chaC, List.replicate, List.map_cons, List.map_nil] at hW'
  simp only [Iv, hW']
  clear hW hW'
  have H0 : RowAt W w.heap.size .u8 key 22 := h0
  have H1 : RowAt W (w.heap.size + 1) .u32 (List.replicate 16 0) 36 := h1
  have H2 : RowAt W (w.heap.size + 1 + 1) .u32 chaC 36 := h2
  clear h0 h1 h2
  refine (words_any key 32 8 hk hkb (by decide) (by decide) (some ⟨w.heap.size, 0, none⟩) 32 W (fun i hi => ⟨w.heap.size, 0, rfl, by rw [Nat.zero_add]; exact H0.cell i hi⟩)).mono ?_
  rintro e W1 ⟨v, rfl, hown, hb1⟩
  have K1 := H1.below hb1 H1.lt
  have K2 := H2.below hb1 H2.lt
  have hbw : Below w.heap.size w W1 := hb.trans (hb1.mono (by omega))
  obtain ⟨rfl, hnil⟩ | ⟨g, cp, rfl, hgb, hgl, hlc, hcm, hcell, _⟩ := hown.at
  · exact absurd hnil (by simp [wordsOf])
  have hwl : (wordsOf key 8).length = 8 := wordsOf_length _ _
  have HC : Hid (∀ i, i < 8 → W1.cell? ⟨g, i, none⟩ = some (.int .u32 (wordAt key i))) := by
    intro i hi
    have := hcell i (by omega)
    rw [this]
    simp [wordsOf, hi]
  have HR : Hid (∀ i, i < n → ∃ b o, a = some ⟨b, o, none⟩ ∧ b < w.heap.size ∧ W1.cell? ⟨b, o + i, none⟩ = some (.int .u32 (nth0 ws i))) := by
    intro i hi
    obtain ⟨b, o, e1, e2⟩ := hr i (by omega)
    have hl := World.block_lt_of_cell? _ _ e2
    exact ⟨b, o, e1, hl, (hbw.cell (p := ⟨b, o + i, none⟩) hl).trans e2⟩
  rw [hwl] at *
  have hgne : g ≠ w.heap.size + 1 + 1 := by omega
  clear hcell hown hr H0 H1 H2 hb hb1 hs hgb hgl hwl hlc hcm
  go_wp2_with fail
  go_loopw [14] (fun i wr => ∃ k : Nat, k ≤ 8 ∧ i = .int .i64 k ∧ wr = W1.setRow (w.heap.size + 1 + 1) (Iv .u32 (putFrom chaC 4 (wordAt key) k))) (fun i _ => 8 - (intOf i).toNat)
  case atStart => exact ⟨0, by omega, rfl, by rw [putFrom_zero, setRow_self _ _ _ _ _ K2]⟩
  case round =>
    obtain ⟨k, hk8, rfl, rfl⟩ := hrel
    by_cases hlt : k < 8
    · have c1 : (W1.setRow (w.heap.size + 1 + 1) (Iv .u32 (putFrom chaC 4 (wordAt key) k))).cell? ⟨g, k, none⟩ = some (.int .u32 (wordAt key k)) := by rw [cell_setRow_far _ _ _ _ hgne]; exact HC.out k hlt
      have c2 : ∃ v, (W1.setRow (w.heap.size + 1 + 1) (Iv .u32 (putFrom chaC 4 (wordAt key) k))).cell? ⟨w.heap.size + 1 + 1, 4 + k, none⟩ = some v := by
        rw [cell_setRow_same _ _ _ _ _ _ _ K2]
        exact Iv_some _ _ _ (by rw [putFrom_length _ _ _ _ (by simp [chaC]; omega)]; simp [chaC]; omega)
      obtain ⟨v2, c2⟩ := c2
      have c3 : (W1.setRow (w.heap.size + 1 + 1) (Iv .u32 (putFrom chaC 4 (wordAt key) k))).frozen? ⟨w.heap.size + 1 + 1, 4 + k, none⟩ = false := by rw [frozen_setRow]; exact frozen_of_row _ _ _ _ _ K2
      have HS : Hid ((W1.setRow (w.heap.size + 1 + 1) (Iv .u32 (putFrom chaC 4 (wordAt key) k))).setCell ⟨w.heap.size + 1 + 1, 4 + k, none⟩ (.int .u32 (wordAt key k)) = W1.setRow (w.heap.size + 1 + 1) (Iv .u32 (putFrom chaC 4 (wordAt key) (k + 1)))) := putFrom_row K2 4 k _ (by simp [chaC]; omega)
      go_wp2
      go_roundw
      case rel => exact ⟨k + 1, by omega, by go_num, HS.out⟩
      case measure => simp [intOf]; omega
    · obtain rfl : k = 8 := by omega
      have J1 : RowAt (W1.setRow (w.heap.size + 1 + 1) (Iv .u32 (putFrom chaC 4 (wordAt key) 8))) (w.heap.size + 1) .u32 (List.replicate 16 0) 36 := K1.far _ _ (by omega) 0
      have J2 : RowAt (W1.setRow (w.heap.size + 1 + 1) (Iv .u32 (putFrom chaC 4 (wordAt key) 8))) (w.heap.size + 1 + 1) .u32 (putFrom chaC 4 (wordAt key) 8) 36 := K2.put _ 0
      have J3 : Below w.heap.size w (W1.setRow (w.heap.size + 1 + 1) (Iv .u32 (putFrom chaC 4 (wordAt key) 8))) := below_setRow hbw _ (by omega) _
      have HR2 : Hid (∀ i, i < n → ∃ b o, a = some ⟨b, o, none⟩ ∧ b < w.heap.size ∧ (W1.setRow (w.heap.size + 1 + 1) (Iv .u32 (putFrom chaC 4 (wordAt key) 8))).cell? ⟨b, o + i, none⟩ = some (.int .u32 (nth0 ws i))) := by
        intro i hi
        obtain ⟨b, o, e1, e2, e3⟩ := HR.out i hi
        exact ⟨b, o, e1, e2, by rw [cell_setRow_far _ _ _ _ (by show b ≠ _; omega)]; exact e3⟩
      generalize W1.setRow (w.heap.size + 1 + 1) (Iv .u32 (putFrom chaC 4 (wordAt key) 8)) = W2 at *
      clear HR HC K1 K2 hbw
      have hlen : (putFrom chaC 4 (wordAt key) 8).length = 16 := by rw [putFrom_length _ _ _ _ (by simp [chaC])]; rfl
      generalize hLe : putFrom chaC 4 (wordAt key) 8 = L at *
      have HLe : Hid _ := hLe
      clear hLe
      go_wp2_with fail
      go_loopw [26] (fun i wr => ∃ k : Nat, k ≤ n ∧ i = .int .i64 k ∧ wr = W2.setRow (w.heap.size + 1 + 1) (Iv .u32 (putFrom L 12 (nth0 ws) k))) (fun i _ => n - (intOf i).toNat)
      case atStart => exact ⟨0, by omega, rfl, by rw [putFrom_zero, setRow_self _ _ _ _ _ J2]⟩
      case round =>
        obtain ⟨k, hkn, rfl, rfl⟩ := hrel
        by_cases hlt2 : k < n
        · obtain ⟨b, o, rfl, hbl, d1⟩ := HR2.out k hlt2
          have c1 : (W2.setRow (w.heap.size + 1 + 1) (Iv .u32 (putFrom L 12 (nth0 ws) k))).cell? ⟨b, o + k, none⟩ = some (.int .u32 (nth0 ws k)) := by rw [cell_setRow_far _ _ _ _ (by show b ≠ _; omega)]; exact d1
          have c2 : ∃ v, (W2.setRow (w.heap.size + 1 + 1) (Iv .u32 (putFrom L 12 (nth0 ws) k))).cell? ⟨w.heap.size + 1 + 1, 12 + k, none⟩ = some v := by
            rw [cell_setRow_same _ _ _ _ _ _ _ J2]
            exact Iv_some _ _ _ (by rw [putFrom_length _ _ _ _ (by omega)]; omega)
          obtain ⟨v2, c2⟩ := c2
          have c3 : (W2.setRow (w.heap.size + 1 + 1) (Iv .u32 (putFrom L 12 (nth0 ws) k))).frozen? ⟨w.heap.size + 1 + 1, 12 + k, none⟩ = false := by rw [frozen_setRow]; exact frozen_of_row _ _ _ _ _ J2
          have HS : Hid _ := putFrom_row J2 12 k (nth0 ws) (by omega)
          have h16 : (12 : Int) + k < 16 := by omega
          clear HR2 d1
          generalize nth0 ws k = x at *
          go_wp2
          go_roundw
          case rel => exact ⟨k + 1, by omega, by go_num, HS.out⟩
          case measure => simp [intOf]; omega
        · obtain rfl : k = n := by omega
          have hL : (putFrom L 12 (nth0 ws) k).length = 16 := by rw [putFrom_length _ _ _ _ (by omega), hlen]
          have HI : Hid ((Tryd.prog.info? 36).map (·.size) = some (Iv .u32 (putFrom L 12 (nth0 ws) k)).size) := by show _ = _; rw [Iv_size, hL]; exact infoS16
          have HZ : Hid ((Iv .u32 (List.replicate 16 0)).size = (Iv .u32 (putFrom L 12 (nth0 ws) k)).size) := by show _ = _; rw [Iv_size, Iv_size, hL, List.length_replicate]
          have M1 : RowAt (W2.setRow (w.heap.size + 1 + 1) (Iv .u32 (putFrom L 12 (nth0 ws) k))) (w.heap.size + 1) .u32 (List.replicate 16 0) 36 := J1.far _ _ (by omega) 0
          have M2 : RowAt (W2.setRow (w.heap.size + 1 + 1) (Iv .u32 (putFrom L 12 (nth0 ws) k))) (w.heap.size + 1 + 1) .u32 (putFrom L 12 (nth0 ws) k) 36 := J2.put _ 0
          have M3 : Below w.heap.size w (W2.setRow (w.heap.size + 1 + 1) (Iv .u32 (putFrom L 12 (nth0 ws) k))) := below_setRow J3 _ (by omega) _
          generalize hFe : putFrom L 12 (nth0 ws) k = F at *
          have HFe : Hid _ := hFe
          clear hFe HR2
          generalize W2.setRow (w.heap.size + 1 + 1) (Iv .u32 F) = W3 at *
          go_wp2_with (first | refine wpList_load_row rfl 36 _ rfl (w.heap.size + 1 + 1) rfl _ (Iv .u32 F) _ _ M2 Tryd.underlying36 rfl HI.out ?_ | refine wpList_store_row rfl 36 _ _ rfl (w.heap.size + 1) (Iv .u32 F) rfl rfl _ _ M1 HI.out HZ.out (Iv_one _ _) ?_)
          refine wpRet (cs := Iv .u32 F) Tryd.results14 ?_ (setRow_heap _ _ _ _ _ _ M1) Tryd.underlying36 HI.out ?_
          · rfl
          · exact ⟨by rw [HLe.out, HFe.out], below_setRow M3 _ (by omega) _⟩
end Go.Proofs.YtfckjjdidkefcaaDoor
