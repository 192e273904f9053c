import Derived.Test.YtlbnmiinokkkgaaDoorMF
import Derived.Test.YtlbnmiinokkkgaaDoorMid
import Derived.Test.YtlbnmiinokkkgaaDoorQuiet
import Derived.Test.YtlbnmiinokkkgaaDoorMA
import Derived.Test.YtlbnmiinokkkgaaDoorLate
import Derived.Test.YtlbnmiinokkkgaaDoorRows
import Derived.Test.YtlbnmiinokkkgaaDoorBase
import Derived.Test.YtlbnmiinokkkgaaDoorNum
namespace Go.Proofs.YtlbnmiinokkkgaaDoor
open Go.RowKit
set_option linter.unusedVariables false
theorem infoE8 : (Tryd.prog.info? 5).map (fun i => (i.zero, i.size, i.bytes)) = some (some (.int .u8 0), 1, 1) := by kernel_rfl
theorem infoE64 : (Tryd.prog.info? 47).map (·.size) = some 64 := by kernel_rfl
theorem infoE32 : (Tryd.prog.info? 22).map (·.size) = some 32 := by kernel_rfl
theorem infoE12 : (Tryd.prog.info? 23).map (·.size) = some 12 := by kernel_rfl
theorem zeroE64 : ∀ W, (zeroValue 47).run Tryd.prog W = .ok (.agg (Iv .u8 (zeroL 64))) W := (zero_of_info (n := 64) (by kernel_rfl)).1
theorem make_room (n : Nat) (hn : n ≤ 65536) (w : World) :
    (Instr.makeSlice 24 (.int .i64 (n : Int)) (.int .i64 ((n : Int) + 16))).run Tryd.prog w = .ok (.slice (some ⟨w.heap.size, 0, none⟩) n (n + 16)) (w.alloc (.cells (Iv .u8 (List.replicate (n + 16) 0)) 5)) := by
  obtain ⟨i, hi, hz, hs, hby⟩ := info_parts infoE8
  have h := run_make (P := Tryd.prog) w 24 5 i (.int .u8 0) Tryd.underlying24 hi hz .i64 .i64 (n : Int) ((n : Int) + 16) (by omega) (by omega) (by rw [hby]; omega) (by omega)
  have e1 : ((n : Int) + 16).toNat = n + 16 := by omega
  rw [h, hs, e1]
  simp only [Int.toNat_natCast, Nat.mul_one]
  rw [show (Value.int .u8 0).cells = #[Value.int .u8 0] from rfl, made_ints]
/-- What has been made of the row while streaming. -/
def strZ (B : Nat → List Int) (text : List Int) (n k : Nat) : List Int := strL B text k ++ List.replicate (n - k) 0
theorem strZ_length (B : Nat → List Int) (text : List Int) (n k : Nat) (hk : k ≤ n) : (strZ B text n k).length = n := by simp [strZ, strL_length]; omega
theorem strZ_step (B : Nat → List Int) (text : List Int) (n k : Nat) (hk : k < n) : (strZ B text n k).set k (xb (text.getD k 0) ((B (1 + k / 64)).getD (k % 64) 0)) = strZ B text n (k + 1) := by
  unfold strZ
  rw [List.set_append, if_neg (by rw [strL_length]; omega), strL_length, Nat.sub_self, strL_succ, List.append_assoc]
  congr 1
  rw [show n - k = (n - (k + 1)) + 1 by omega, List.replicate_succ, List.set_cons_zero]
  rfl
theorem own_free {k : IntKind} {e : TypeId} {base : Nat} {w : World} {g n cap : Nat} {l : List Int} (h : Own k e base w (.slice (some ⟨g, 0, none⟩) n cap) l) (j : Nat) : w.frozen? ⟨g, j, none⟩ = false := by
  obtain ⟨h1, ⟨hv, _⟩ | ⟨g', cap', cur, hv, hg, hh, hc, hmx, hs, ht⟩⟩ := h
  · cases hv
  · simp at hv
    obtain ⟨rfl, rfl, rfl⟩ := hv
    exact frozen_of_row _ _ _ _ _ hh
theorem own_put {k : IntKind} {e : TypeId} {base : Nat} {w W : World} {g n cap b : Nat} {l : List Int} {cs : Array Value} {t : TypeId} (h : Own k e base w (.slice (some ⟨g, 0, none⟩) n cap) l) (hp : Put w b cs t W) (hne : g ≠ b) : Own k e base W (.slice (some ⟨g, 0, none⟩) n cap) l := by
  obtain ⟨h1, ⟨hv, _⟩ | ⟨g', cap', cur, hv, hg, hh, hc, hmx, hs, ht⟩⟩ := h
  · cases hv
  · simp at hv
    obtain ⟨rfl, rfl, rfl⟩ := hv
    exact ⟨h1, .inr ⟨g, cap, cur, rfl, hg, (hp.far _ hne).trans hh, hc, hmx, hs, ht⟩⟩
set_option maxRecDepth 10000 in
set_option maxHeartbeats 2000000 in
theorem streamed_any (key nonce : List Int) (hk : key.length = 32) (hr : nonce.length = 12) (B : Nat → List Int) (hB : ∀ i, (B i).length = 64) (HC : Hid (ChaOk 31 key nonce B MixTab)) (hBb : ∀ i, Bytes (B i))
    (text : List Int) (n : Nat) (hn : text.length = n) (hn2 : n ≤ 65536) (htb : Bytes text) (tg to_ tcap : Nat) (w : World) (HS : Hid (Sl w tg to_ text)) (htc : n ≤ tcap) (htc2 : tcap ≤ 9223372036854775807) (HT : Hid (MixTab w)) :
    Calls Tryd.prog 35 #[.agg (Iv .u8 key), .agg (Iv .u8 nonce), .slice (some ⟨tg, to_, none⟩) n tcap] w fun e w' => ∃ g, e = .returned (.slice (some ⟨g, 0, none⟩) n (n + 16)) ∧ Own .u8 5 w.heap.size w' (.slice (some ⟨g, 0, none⟩) n (n + 16)) (strL B text n) ∧ Below w.heap.size w w' := by
  have hmk := make_room n hn2
  have hzv := zeroE64
  have hi32 : Hid ((Tryd.prog.info? 22).map (·.size) = some (Iv .u8 key).size) := by show _ = _; rw [Iv_size, hk]; exact infoE32
  have hi12 : Hid ((Tryd.prog.info? 23).map (·.size) = some (Iv .u8 nonce).size) := by show _ = _; rw [Iv_size, hr]; exact infoE12
  have hi64 : Hid (∀ l : List Int, l.length = 64 → (Tryd.prog.info? 47).map (·.size) = some (Iv .u8 l).size) := fun l hl => by rw [Iv_size, hl]; exact infoE64
  have hs64 : Hid (∀ l m : List Int, l.length = 64 → m.length = 64 → (Iv .u8 l).size = (Iv .u8 m).size) := fun l m hl hm => by rw [Iv_size, Iv_size, hl, hm]
  have htg := HS.out.1
  go_enter Tryd.func35, Tryd.ntmps35
  go_wp2
  obtain ⟨W, hW, g0, g1, g2, g3, hs, hBW⟩ := alloc4 w (.cells (Iv .u8 key) 22) (.cells (Iv .u8 nonce) 23) (.cells (Iv .u8 (List.replicate (n + 16) 0)) 5) (.cells (Iv .u8 (zeroL 64)) 47)
  rw [hW]
  clear hmk hzv hW
  have hown0 : Own .u8 5 w.heap.size W (.slice (some ⟨w.heap.size + 1 + 1, 0, none⟩) n (n + 16)) (strZ B text n 0) := by
    refine ⟨by rw [iv_length, strZ_length _ _ _ _ (Nat.zero_le _)]; omega, .inr ⟨w.heap.size + 1 + 1, n + 16, _, by rw [strZ_length _ _ _ _ (Nat.zero_le _)], by omega, g2, by rw [strZ_length _ _ _ _ (Nat.zero_le _)]; omega, by unfold maxLen; omega, by simp [Iv_size], ?_⟩⟩
    rw [strZ_length _ _ _ _ (Nat.zero_le _)]
    simp [Iv, iv, strZ, strL, List.take_replicate]
  go_loopw [18] (fun i wr => ∃ k : Nat, k ≤ n ∧ i = .int .i64 k ∧ RowAt wr w.heap.size .u8 key 22 ∧ RowAt wr (w.heap.size + 1) .u8 nonce 23 ∧ (∃ C, RowAt wr (w.heap.size + 1 + 1 + 1) .u8 C 47 ∧ C.length = 64 ∧ (0 < k → C = B (1 + (k - 1) / 64))) ∧ Own .u8 5 w.heap.size wr (.slice (some ⟨w.heap.size + 1 + 1, 0, none⟩) n (n + 16)) (strZ B text n k) ∧ Below w.heap.size w wr ∧ w.heap.size + 1 + 1 + 1 + 1 ≤ wr.heap.size) (fun i _ => n - (intOf i).toNat)
  case atStart => exact ⟨0, Nat.zero_le _, rfl, g0, g1, ⟨zeroL 64, g3, by simp [zeroL], fun h => absurd h (by omega)⟩, hown0, hBW, by omega⟩
  case round =>
    obtain ⟨k, hkn, rfl, r0, r1, ⟨C, r3, hCl, hCk⟩, hown, hbel, hsz⟩ := hrel
    have R0 : Hid _ := r0
    have R1 : Hid _ := r1
    have R3 : Hid _ := r3
    have HO : Hid _ := hown
    have HBL : Hid _ := hbel
    have HCK : Hid _ := hCk
    clear r0 r1 r3 hown hbel hown0 g0 g1 g2 g3 hBW hCk hs
    by_cases hlt : k < n
    · have hlti : (k : Int) < n := by omega
      obtain ⟨m, hm⟩ : ∃ m, m = k % 64 := ⟨_, rfl⟩
      have hmi : (k : Int) % 64 = (m : Int) := by omega
      have hm64 : m < 64 := by omega
      have HM : Hid (m = k % 64) := hm
      by_cases hk64 : m = 0
      · have hm0 : ((m : Int) = 0) := by omega
        have hm0' : ((k : Int) % 64 = 0) := by omega
        have hcast : Hid ((1 + (k : Int) / 64) = ((1 + k / 64 : Nat) : Int)) := by show _ = _; omega
        clear hmi hm
        go_wp2_with (with_reducible refine wpList_id ?_; first
          | refine wpList_load_row rfl 22 _ rfl w.heap.size rfl _ (Iv .u8 key) _ _ R0.out Tryd.underlying22 rfl hi32.out ?_
          | refine wpList_load_row rfl 23 _ rfl (w.heap.size + 1) rfl _ (Iv .u8 nonce) _ _ R1.out Tryd.underlying23 rfl hi12.out ?_)
        rw [hcast.out]
        refine (HC.out (1 + k / 64) wr (by omega) (MixTab.later HT.out HBL.out (Nat.le_refl _))).mono ?_
        rintro e w1 ⟨rfl, hb1⟩
        have Q3 : Hid _ := (hb1.block _ (by omega)).trans R3.out
        go_wp2_with (with_reducible refine wpList_id ?_; refine wpList_put_row rfl 47 _ _ rfl (w.heap.size + 1 + 1 + 1) (Iv .u8 (B (1 + k / 64))) rfl rfl _ _ Q3.out (hi64.out _ (hB _)) (hs64.out _ _ hCl (hB _)) (Iv_one _ _) (fun X hX => stop_here ?_))
        refine hid_mk ?_
        have X3 : Hid (X.heap[w.heap.size + 1 + 1 + 1]? = some (.cells (Iv .u8 (B (1 + k / 64))) 47)) := hX.here
        have X0 : Hid (X.heap[w.heap.size]? = some (.cells (Iv .u8 key) 22)) := (hX.far _ (by omega)).trans ((hb1.block _ (by omega)).trans R0.out)
        have X1 : Hid (X.heap[w.heap.size + 1]? = some (.cells (Iv .u8 nonce) 23)) := (hX.far _ (by omega)).trans ((hb1.block _ (by omega)).trans R1.out)
        have XB : Hid (Below w.heap.size w X) := hX.below _ _ (HBL.out.trans (hb1.mono (by omega))) (by omega)
        have XO : Hid (Own .u8 5 w.heap.size X (.slice (some ⟨w.heap.size + 1 + 1, 0, none⟩) n (n + 16)) (strZ B text n k)) := own_put (Own.later HO.out hb1) hX (by omega)
        have hXs : w.heap.size + 1 + 1 + 1 + 1 ≤ X.heap.size := by rw [hX.size]; have := hb1.size; omega
        have hmi : (k : Int) % 64 = (m : Int) := by have := HM.out; omega
        clear hk64 hm0 hm0' hcast hX hb1 Q3 R0 R1 R3 HO HBL
        have hcell : X.cell? ⟨w.heap.size + 1 + 1 + 1, m, none⟩ = some (.int .u8 ((B (1 + k / 64)).getD m 0)) := by rw [cell_of_row _ _ _ _ _ _ X3.out]; simp [Iv, hB, hm64]
        have htext : X.cell? ⟨tg, to_ + k, none⟩ = some (.int .u8 (text.getD k 0)) := (XB.out.cell (p := ⟨tg, to_ + k, none⟩) htg).trans (HS.out.2 k (by omega))
        have hoc := (Sl.of_own XO.out).2 k (by rw [strZ_length _ _ _ _ hkn]; exact hlt)
        rw [Nat.zero_add] at hoc
        have hof : X.frozen? ⟨w.heap.size + 1 + 1, k, none⟩ = false := own_free XO.out k
        have hbt := htb k
        have hbb := hBb (1 + k / 64) m
        have HST : Hid ((strZ B text n k).set k (xb (text.getD k 0) ((B (1 + k / 64)).getD m 0)) = strZ B text n (k + 1)) := by show _ = _; rw [HM.out]; exact strZ_step B text n k hlt
        have HOS := Own.set XO.out k (xb (text.getD k 0) ((B (1 + k / 64)).getD m 0))
        rw [HST.out] at HOS
        have HOS' : Hid _ := HOS
        have HC2 : Hid (B (1 + k / 64) = B (1 + (k + 1 - 1) / 64)) := by show _ = _; rw [Nat.add_sub_cancel]
        clear HST HOS
        generalize text.getD k 0 = tz at *
        generalize (B (1 + k / 64)).getD m 0 = bz at *
        generalize (strZ B text n k).getD k 0 = oz at *
        go_wp2
        refine wp_region_head 12 (by kernel_rfl) (by kernel_rfl) ?_
        simp only [List.take_succ_cons, List.take_zero, List.drop_succ_cons, List.drop_zero]
        repeat (go_big_quiet_step (fail))
        refine wpQuiet_nil ?_
        go_wp2
        go_roundw
        case rel =>
          refine ⟨k + 1, by omega, by go_num, ?_, ?_, ⟨_, ?_, hB (1 + k / 64), fun _ => HC2.out⟩, Own.drews HOS'.out 1, below_drews (XB.out.setCell (p := ⟨w.heap.size + 1 + 1, k, none⟩) (by show w.heap.size ≤ w.heap.size + 1 + 1; omega) _) 1, by simp; omega⟩
          · exact (heap_setCell_other X.drew _ _ _ (by simp; try omega)).trans X0.out
          · exact (heap_setCell_other X.drew _ _ _ (by simp; try omega)).trans X1.out
          · exact (heap_setCell_other X.drew _ _ _ (by simp; try omega)).trans X3.out
        case measure => simp [intOf]; omega
      · have hm0 : (((m : Int) = 0) = False) := by simp; omega
        have X := wr
        have hC := HCK.out (by omega)
        have hC2 : 1 + (k - 1) / 64 = 1 + k / 64 := by omega
        rw [hC2] at hC
        subst hC
        clear X
        obtain ⟨X, hX⟩ : ∃ X, X = wr := ⟨_, rfl⟩
        rw [← hX] at R0 R1 R3 HO HBL hsz ⊢
        have X3 : Hid (X.heap[w.heap.size + 1 + 1 + 1]? = some (.cells (Iv .u8 (B (1 + k / 64))) 47)) := R3.out
        have X0 : Hid (X.heap[w.heap.size]? = some (.cells (Iv .u8 key) 22)) := R0.out
        have X1 : Hid (X.heap[w.heap.size + 1]? = some (.cells (Iv .u8 nonce) 23)) := R1.out
        have XB : Hid (Below w.heap.size w X) := HBL.out
        have XO : Hid (Own .u8 5 w.heap.size X (.slice (some ⟨w.heap.size + 1 + 1, 0, none⟩) n (n + 16)) (strZ B text n k)) := HO.out
        have hXs := hsz
        clear hX R0 R1 R3 HO HBL hC2 hm
        have hcell : X.cell? ⟨w.heap.size + 1 + 1 + 1, m, none⟩ = some (.int .u8 ((B (1 + k / 64)).getD m 0)) := by rw [cell_of_row _ _ _ _ _ _ X3.out]; simp [Iv, hB, hm64]
        have htext : X.cell? ⟨tg, to_ + k, none⟩ = some (.int .u8 (text.getD k 0)) := (XB.out.cell (p := ⟨tg, to_ + k, none⟩) htg).trans (HS.out.2 k (by omega))
        have hoc := (Sl.of_own XO.out).2 k (by rw [strZ_length _ _ _ _ hkn]; exact hlt)
        rw [Nat.zero_add] at hoc
        have hof : X.frozen? ⟨w.heap.size + 1 + 1, k, none⟩ = false := own_free XO.out k
        have hbt := htb k
        have hbb := hBb (1 + k / 64) m
        have HST : Hid ((strZ B text n k).set k (xb (text.getD k 0) ((B (1 + k / 64)).getD m 0)) = strZ B text n (k + 1)) := by show _ = _; rw [HM.out]; exact strZ_step B text n k hlt
        have HOS := Own.set XO.out k (xb (text.getD k 0) ((B (1 + k / 64)).getD m 0))
        rw [HST.out] at HOS
        have HOS' : Hid _ := HOS
        have HC2 : Hid (B (1 + k / 64) = B (1 + (k + 1 - 1) / 64)) := by show _ = _; rw [Nat.add_sub_cancel]
        clear HST HOS
        generalize text.getD k 0 = tz at *
        generalize (B (1 + k / 64)).getD m 0 = bz at *
        generalize (strZ B text n k).getD k 0 = oz at *
        go_wp2
        refine wp_region_head 12 (by kernel_rfl) (by kernel_rfl) ?_
        simp only [List.take_succ_cons, List.take_zero, List.drop_succ_cons, List.drop_zero]
        repeat (go_big_quiet_step (fail))
        refine wpQuiet_nil ?_
        go_wp2
        go_roundw
        case rel =>
          refine ⟨k + 1, by omega, by go_num, ?_, ?_, ⟨_, ?_, hB (1 + k / 64), fun _ => HC2.out⟩, Own.drews HOS'.out 1, below_drews (XB.out.setCell (p := ⟨w.heap.size + 1 + 1, k, none⟩) (by show w.heap.size ≤ w.heap.size + 1 + 1; omega) _) 1, by simp; omega⟩
          · exact (heap_setCell_other X.drew _ _ _ (by simp; try omega)).trans X0.out
          · exact (heap_setCell_other X.drew _ _ _ (by simp; try omega)).trans X1.out
          · exact (heap_setCell_other X.drew _ _ _ (by simp; try omega)).trans X3.out
        case measure => simp [intOf]; omega
    · obtain rfl : k = n := by omega
      go_wp2
      go_ret
      refine ⟨_, rfl, ?_, HBL.out⟩
      have h := HO.out
      unfold strZ at h
      rw [Nat.sub_self, List.replicate_zero, List.append_nil] at h
      exact h
end Go.Proofs.YtlbnmiinokkkgaaDoor
namespace Go.Proofs.YtlbnmiinokkkgaaDoor
open Go.RowKit
set_option linter.unusedVariables false
theorem mixedF : Tryd.prog.follows .mixedOrders = true := by kernel_rfl
theorem own_form {k : IntKind} {e : TypeId} {base : Nat} {w : World} {v : Value} {l : List Int} (h : Own k e base w v l) (hv : v.ownBlock ≠ none) : ∃ g cap, v = .slice (some ⟨g, 0, none⟩) l.length cap ∧ base ≤ g ∧ l.length ≤ cap ∧ cap ≤ 9223372036854775807 ∧ g < w.heap.size ∧ v.ownBlock = some g := by
  obtain ⟨_, ⟨rfl, _⟩ | ⟨g, cap, cur, rfl, hg, hh, hc, hmx, hs, ht⟩⟩ := h
  · exact absurd rfl hv
  · exact ⟨g, cap, rfl, hg, hc, by unfold maxLen at hmx; omega, (Array.getElem?_eq_some_iff.1 hh).1, rfl⟩
theorem grown_ne {v v' : Value} {n : Nat} (hv : v.ownBlock ≠ none) (h : v'.ownBlock = v.ownBlock ∨ v'.ownBlock = some n) : v'.ownBlock ≠ none := by
  rcases h with h | h
  · rw [h]; exact hv
  · rw [h]; simp
set_option maxHeartbeats 1000000 in
theorem l2Fill_any (l : List Int) (n : Nat) (hl : l.length = n) (hn : n ≤ 1000000) (g o c : Nat) (w : World) (HS : Hid (Sl w g o l)) :
    Calls Tryd.prog 46 #[.slice (some ⟨g, o, none⟩) n c] w fun e w' => ∃ v, e = .returned v ∧ Own .u8 5 w.heap.size w' v (fillL l) ∧ v.ownBlock ≠ none ∧ Below w.heap.size w w' := by
  have HO : Hid (Own .u8 5 w.heap.size (w.alloc (.cells #[] 5)) (.slice (some ⟨w.heap.size, 0, none⟩) 0 0) []) := Own.nil w (Nat.le_refl _)
  have HW : Hid (Below w.heap.size w (w.alloc (.cells #[] 5))) := (Below.refl _ _).alloc (Nat.le_refl _) _
  have HN : Hid (∀ j, j < n → (w.alloc (.cells #[] 5)).cell? ⟨g, o + j, none⟩ = some (.int .u8 (l.getD j 0))) := fun j hj => (Sl.later HS.out HW.out HS.out.1).2 j (by omega)
  have HL : Hid (l.length = n) := hl
  clear hl
  go_enter Tryd.func46, Tryd.ntmps46
  go_wp2_with (at_builtin; refine extend_law .u8 24 5 1 Tryd.underlying24 infoE8 (by decide) rfl (.tmp 4) (.tmp 5) rfl w.heap.size w _ _ [] g o n c l HL.out rfl rfl HO.out HW.out HW.out.size (by simp; omega) HN.out ?_; intro v2 w2 hown2 hbel2 _ hd2; refine stop_here ?_)
  refine hid_mk ?_
  have hne2 : v2.ownBlock ≠ none := grown_ne (v := .slice (some ⟨w.heap.size, 0, none⟩) 0 0) (by simp [Value.ownBlock]) hd2
  have HO2 : Hid _ := hown2
  have HB2 : Hid _ := hbel2
  have HE2 : Hid _ := hne2
  clear hown2 hbel2 hne2 hd2 HO HW HN
  go_wp2
  go_loopw [3] (fun v wr => ∃ k : Nat, k ≤ fillN n ∧ Own .u8 5 w.heap.size wr v (l ++ List.replicate k 0) ∧ v.ownBlock ≠ none ∧ Below w.heap.size w wr ∧ ∃ gg cc, v = .slice (some ⟨gg, 0, none⟩) (n + k) cc) (fun v _ => 2000000 - (match v with | .slice _ a _ => a | _ => 0))
  case atStart =>
    obtain ⟨gg, cc, hv, _⟩ := own_form HO2.out HE2.out
    refine ⟨0, Nat.zero_le _, by rw [List.replicate_zero, List.append_nil]; exact HO2.out, HE2.out, HB2.out, gg, cc, ?_⟩
    rw [hv]
    simp [HL.out]
  case round =>
    obtain ⟨k, hk, hown, hne, hbel, gg, cc, rfl⟩ := hrel
    have hsz := hbel.size
    have h16 := fillN_lt n
    have hfn : Hid (fillN n = (16 - n % 16) % 16) := rfl
    by_cases hlt : k < fillN n
    · have hm : (((n : Int) + (k : Int)) % 16 = 0) = False := by
        have := hfn.out
        simp
        omega
      have hm2 : (((n : Int) + (k : Int)) % 16 != 0) = true := by have := hfn.out; simp; omega
      have HS1 : Hid (l ++ List.replicate (k + 1) 0 = l ++ List.replicate k 0 ++ [0]) := by show _ = _; rw [List.replicate_succ', List.append_assoc]
      have HLL : Hid ((l ++ List.replicate k 0).length ≤ 100000000) := by show _ ≤ _; have := HL.out; simp; omega
      have HOO : Hid _ := hown
      have HNE : Hid _ := hne
      have HBB : Hid _ := hbel
      clear hown hne hbel
      go_wp2_with (at_builtin; refine push_law .u8 24 5 1 Tryd.underlying24 infoE8 (by decide) rfl (.tmp 11) (.tmp 12) rfl w.heap.size w wr _ (l ++ List.replicate k 0) _ rfl rfl HOO.out HBB.out hsz HLL.out ?_; intro v1 w1 hown1 hbel1 _ hd1; refine stop_here ?_)
      refine hid_mk ?_
      rw [← HS1.out] at hown1
      have hne1 : v1.ownBlock ≠ none := grown_ne HNE.out hd1
      obtain ⟨g1, c1, hv1, _⟩ := own_form hown1 hne1
      have hln : (l ++ List.replicate (k + 1) 0).length = n + (k + 1) := by have := HL.out; simp; omega
      rw [hln] at hv1
      have K1 : Hid _ := hown1
      have K2 : Hid _ := hbel1
      have K3 : Hid _ := hne1
      clear hown1 hbel1 hne1 hd1 HOO HNE HBB hln
      subst hv1
      go_wp2
      go_roundw
      case rel => exact ⟨k + 1, by omega, K1.out, K3.out, K2.out, g1, c1, rfl⟩
      case measure => show 2000000 - (n + (k + 1)) < 2000000 - (n + k); omega
    · obtain rfl : k = fillN n := by omega
      have hm : ((n : Int) + ((fillN n : Nat) : Int)) % 16 = 0 := by
        have := hfn.out
        omega
      have hm2 : (((n : Int) + ((fillN n : Nat) : Int)) % 16 != 0) = false := by simp; omega
      go_wp2
      go_ret
      refine ⟨_, rfl, ?_, hne, hbel⟩
      unfold fillL
      rw [HL.out]
      exact hown
set_option maxHeartbeats 1000000 in
theorem join_own (ga oa ca gb ob cb : Nat) (la lb : List Int) (n m : Nat) (hla : la.length = n) (hlb : lb.length = m) (hlen : n + m ≤ 100000000) (w : World) (ha : Sl w ga oa la) (hb : Sl w gb ob lb) :
    Calls Tryd.prog 45 #[.slice (some ⟨ga, oa, none⟩) n ca, .slice (some ⟨gb, ob, none⟩) m cb] w fun e w' => ∃ x, e = .returned x ∧ Own .u8 5 w.heap.size w' x (la ++ lb) ∧ Below w.heap.size w w' := by
  have HA : Hid (Sl w ga oa la) := ha
  have HB : Hid (Sl w gb ob lb) := hb
  have HO : Hid (Own .u8 5 w.heap.size (w.alloc (.cells #[] 5)) (.slice (some ⟨w.heap.size, 0, none⟩) 0 0) []) := Own.nil w (Nat.le_refl _)
  have HW : Hid (Below w.heap.size w (w.alloc (.cells #[] 5))) := (Below.refl _ _).alloc (Nat.le_refl _) _
  have HS : Hid (w.heap.size ≤ (w.alloc (.cells #[] 5)).heap.size) := HW.out.size
  have HN : Hid (∀ j, j < n → (w.alloc (.cells #[] 5)).cell? ⟨ga, oa + j, none⟩ = some (.int .u8 (la.getD j 0))) := fun j hj => (ha.later HW.out ha.1).2 j (by omega)
  have HL : Hid (la.length = n) := hla
  have HM : Hid (lb.length = m) := hlb
  clear ha hb hla hlb
  go_enter Tryd.func45, Tryd.ntmps45
  go_wp2_with (first
    | (at_builtin; refine extend_law .u8 24 5 1 Tryd.underlying24 infoE8 (by decide) rfl (.tmp 6) (.tmp 7) rfl w.heap.size w _ _ [] ga oa n ca la HL.out rfl rfl HO.out HW.out HS.out (by simp; omega) HN.out ?_; intro v2 w2 hown2 hbel2 _ _
       have HN2 : Hid (∀ j, j < m → w2.cell? ⟨gb, ob + j, none⟩ = some (.int .u8 (lb.getD j 0))) := fun j hj => (HB.out.later hbel2 HB.out.1).2 j (by have := HM.out; omega))
    | (at_builtin; refine extend_law .u8 24 5 1 Tryd.underlying24 infoE8 (by decide) rfl (.tmp 9) (.tmp 10) rfl w.heap.size w _ _ la gb ob m cb lb HM.out rfl rfl hown2 hbel2 hbel2.size (by have := HL.out; omega) HN2.out ?_; intro v3 w3 hown3 hbel3 _ _))
  go_ret
  exact ⟨_, rfl, hown3, hbel3⟩
def le8P (n k : Nat) : List Int := (List.range k).map fun i => (n : Int) / 256 ^ i % 256
theorem le8P_succ (n k : Nat) : le8P n (k + 1) = le8P n k ++ [(n : Int) / 256 ^ k % 256] := by simp [le8P, List.range_succ]
set_option maxHeartbeats 1000000 in
theorem l2Eight_any (n : Nat) (hn : n ≤ 1000000) (w : World) :
    Calls Tryd.prog 47 #[.int .i64 n] w fun e w' => ∃ v, e = .returned v ∧ Own .u8 5 w.heap.size w' v (le8 n) ∧ Below w.heap.size w w' := by
  go_enter Tryd.func47, Tryd.ntmps47
  go_wp2
  go_loopw [0, 3, 4] (fun x v i wr => ∃ k : Nat, k ≤ 8 ∧ x = .int .i64 ((n / 256 ^ k : Nat) : Int) ∧ i = .int .i64 k ∧ Own .u8 5 w.heap.size wr v (le8P n k) ∧ Below w.heap.size w wr) (fun _ _ i _ => 8 - (intOf i).toNat)
  case atStart => exact ⟨0, Nat.zero_le _, by simp, rfl, Own.nil w (Nat.le_refl _), (Below.refl _ _).alloc (Nat.le_refl _) _⟩
  case round =>
    obtain ⟨k, hk, rfl, rfl, hown, hbel⟩ := hrel
    have hsz := hbel.size
    by_cases hlt : k < 8
    · have HS1 : Hid (le8P n (k + 1) = le8P n k ++ [((n / 256 ^ k : Nat) : Int) % 256]) := by show _ = _; rw [le8P_succ]; simp
      have HLL : Hid ((le8P n k).length ≤ 100000000) := by show _ ≤ _; simp [le8P]; omega
      have HQ : Hid (((n / 256 ^ (k + 1) : Nat) : Int) = ((n / 256 ^ k : Nat) : Int) / 256) := by show _ = _; rw [Nat.pow_succ, ← Nat.div_div_eq_div_mul]; omega
      have hqb : n / 256 ^ k ≤ 1000000 := Nat.le_trans (Nat.div_le_self _ _) hn
      have HOO : Hid _ := hown
      have HBB : Hid _ := hbel
      clear hown hbel
      generalize n / 256 ^ k = q at *
      generalize le8P n k = L at *
      have hq2 : ((q : Int) % 256) % 256 = (q : Int) % 256 := by omega
      go_wp2_with (at_builtin; refine push_law .u8 24 5 1 Tryd.underlying24 infoE8 (by decide) rfl (.tmp 10) (.tmp 14) rfl w.heap.size w wr _ L _ rfl rfl HOO.out HBB.out hsz HLL.out ?_; intro v1 w1 hown1 hbel1 _ _; refine stop_here ?_)
      refine hid_mk ?_
      have K1 : Hid (Own .u8 5 w.heap.size w1 v1 (le8P n (k + 1))) := by show Own _ _ _ _ _ _; rw [HS1.out]; exact hown1
      have K2 : Hid _ := hbel1
      clear hown1 hbel1 HOO HBB
      go_wp2
      go_roundw
      case rel => exact ⟨k + 1, by omega, by rw [HQ.out], by go_num, K1.out, K2.out⟩
      case measure => simp [intOf]; omega
    · obtain rfl : k = 8 := by omega
      go_wp2
      go_ret
      exact ⟨_, rfl, hown, hbel⟩
end Go.Proofs.YtlbnmiinokkkgaaDoor
namespace Go.Proofs.YtlbnmiinokkkgaaDoor
open Go.RowKit
set_option linter.unusedVariables false
theorem at_norm {K : Act → World → Prop} {Q : Exit → Act → World → Prop} {a : Act} {w : World} (h : K a w) : atEnd K Q .normal a w := h
set_option maxRecDepth 10000 in
set_option maxHeartbeats 2000000 in
theorem l2Stream_any (key nonce : List Int) (hk : key.length = 32) (hr : nonce.length = 12) (B : Nat → List Int) (hB : ∀ i, (B i).length = 64) (HC : Hid (ChaOk 44 key nonce B (fun _ => True))) (hBb : ∀ i, Bytes (B i))
    (text : List Int) (n : Nat) (hn : text.length = n) (hn2 : n ≤ 65536) (htb : Bytes text) (tg to_ tcap : Nat) (w : World) (HS : Hid (Sl w tg to_ text)) (htc : n ≤ tcap) (htc2 : tcap ≤ 9223372036854775807) :
    Calls Tryd.prog 33 #[.agg (Iv .u8 key), .agg (Iv .u8 nonce), .slice (some ⟨tg, to_, none⟩) n tcap] w fun e w' => ∃ v, e = .returned v ∧ Own .u8 5 w.heap.size w' v (strL B text n) ∧ v.ownBlock ≠ none ∧ Below w.heap.size w w' := by
  have hi32 : Hid ((Tryd.prog.info? 22).map (·.size) = some (Iv .u8 key).size) := by show _ = _; rw [Iv_size, hk]; exact infoE32
  have hi12 : Hid ((Tryd.prog.info? 23).map (·.size) = some (Iv .u8 nonce).size) := by show _ = _; rw [Iv_size, hr]; exact infoE12
  have hi64 : Hid (∀ l : List Int, l.length = 64 → (Tryd.prog.info? 47).map (·.size) = some (Iv .u8 l).size) := fun l hl => by rw [Iv_size, hl]; exact infoE64
  have hz64 : Hid (∀ l : List Int, l.length = 64 → (Iv .u8 (zeroL 64)).size = (Iv .u8 l).size) := fun l hl => by rw [Iv_size, Iv_size, hl]; simp [zeroL]
  have htg := HS.out.1
  obtain ⟨W, hW, g0, g1, g2, hs, hBW⟩ := alloc3 w (.cells (Iv .u8 key) 22) (.cells (Iv .u8 nonce) 23) (.cells #[] 5)
  have hown0 : Own .u8 5 (w.heap.size + 1 + 1) W (.slice (some ⟨w.heap.size + 1 + 1, 0, none⟩) 0 0) (strL B text 0) := ⟨by simp [iv_length, strL], .inr ⟨w.heap.size + 1 + 1, 0, #[], by simp [strL], Nat.le_refl _, g2, by simp [strL], by unfold maxLen; omega, rfl, by simp [strL, iv]⟩⟩
  have HO0 : Hid _ := hown0
  have HW : Hid _ := hW
  have G0 : Hid _ := g0
  have G1 : Hid _ := g1
  have GB : Hid _ := hBW
  clear hown0 hW g0 g1 g2 hBW
  go_enter Tryd.func33, Tryd.ntmps33
  go_wp2
  rw [HW.out]
  go_loopw [7, 8] (fun v i wr => ∃ q : Nat, i = .int .i64 ((64 * q : Nat) : Int) ∧ 64 * q < n + 64 ∧ Own .u8 5 (w.heap.size + 1 + 1) wr v (strL B text (min (64 * q) n)) ∧ v.ownBlock ≠ none ∧ RowAt wr w.heap.size .u8 key 22 ∧ RowAt wr (w.heap.size + 1) .u8 nonce 23 ∧ Below w.heap.size w wr ∧ w.heap.size + 1 + 1 + 1 ≤ wr.heap.size) (fun _ i _ => n + 64 - (intOf i).toNat)
  case atStart => exact ⟨0, rfl, by omega, by rw [show min (64 * 0) n = 0 by omega]; exact HO0.out, by simp [Value.ownBlock], G0.out, G1.out, GB.out, by omega⟩
  case round =>
    obtain ⟨q, rfl, hq, hown, hne, r0, r1, hbel, hsz⟩ := hrel
    have R0 : Hid _ := r0
    have R1 : Hid _ := r1
    have HO : Hid _ := hown
    have HE : Hid _ := hne
    have HBL : Hid _ := hbel
    clear r0 r1 hown hne hbel HO0 G0 G1 GB HW
    by_cases hlt : 64 * q < n
    · have hlti : ((64 * q : Nat) : Int) < n := by omega
      have hcast : Hid (∀ x : Int, x = ((64 * q : Nat) : Int) → 1 + x / 64 = ((1 + q : Nat) : Int)) := fun x hx => by omega
      rw [show min (64 * q) n = 64 * q + 0 by omega] at HO
      obtain ⟨a, ha⟩ : ∃ a, a = 64 * q := ⟨_, rfl⟩
      rw [← ha] at HO hlti hcast ⊢
      have ha2 : a < n := by omega
      have HA : Hid (a = 64 * q) := ha
      clear ha hlt hq
      go_wp2_with (with_reducible refine wpList_id ?_; first
        | refine wpList_load_row rfl 22 _ rfl w.heap.size rfl _ (Iv .u8 key) _ _ R0.out Tryd.underlying22 rfl hi32.out ?_
        | refine wpList_load_row rfl 23 _ rfl (w.heap.size + 1) rfl _ (Iv .u8 nonce) _ _ R1.out Tryd.underlying23 rfl hi12.out ?_)
      rw [hcast.out _ rfl]
      have hq2 : 1 + q ≤ 2000 := by have := HA.out; omega
      refine (HC.out (1 + q) wr hq2 trivial).mono ?_
      rintro e w3 ⟨rfl, hb3⟩
      have hs3 := hb3.size
      have hzw := zeroE64
      have K3 : Hid ((w3.alloc (.cells (Iv .u8 (zeroL 64)) 47)).heap[w3.heap.size]? = some (.cells (Iv .u8 (zeroL 64)) 47)) := heap_alloc_new _ _
      go_wp2_with (with_reducible refine wpList_id ?_; refine wpList_put_row rfl 47 _ _ rfl w3.heap.size (Iv .u8 (B (1 + q))) rfl rfl _ _ K3.out (hi64.out _ (hB _)) (hz64.out _ (hB _)) (Iv_one _ _) (fun X hX => stop_here ?_))
      refine hid_mk ?_
      have xs : X.heap.size = w3.heap.size + 1 := by rw [hX.size]; simp
      have XR : Hid (X.heap[w3.heap.size]? = some (.cells (Iv .u8 (B (1 + q))) 47)) := hX.here
      have X0 : Hid (X.heap[w.heap.size]? = some (.cells (Iv .u8 key) 22)) := (hX.far _ (by omega)).trans ((heap_alloc_old _ _ (by omega)).trans ((hb3.block _ (by omega)).trans R0.out))
      have X1 : Hid (X.heap[w.heap.size + 1]? = some (.cells (Iv .u8 nonce) 23)) := (hX.far _ (by omega)).trans ((heap_alloc_old _ _ (by omega)).trans ((hb3.block _ (by omega)).trans R1.out))
      have XB : Hid (Below w.heap.size w X) := hX.below _ _ ((HBL.out.trans (hb3.mono (by omega))).alloc (by omega) _) (by omega)
      obtain ⟨go0, co0, rfl, hgo0, _, _, hgo1, hob0⟩ := own_form HO.out HE.out
      have XO : Hid (Own .u8 5 (w.heap.size + 1 + 1) X (.slice (some ⟨go0, 0, none⟩) (strL B text (a + 0)).length co0) (strL B text (a + 0))) := own_put (Own.later (Own.later HO.out hb3) ((Below.refl _ _).alloc (Nat.le_refl _) _)) hX (by omega)
      have XN : Hid ((Value.slice (some ⟨go0, 0, none⟩) (strL B text (a + 0)).length co0).ownBlock ≠ some w3.heap.size) := by show _ ≠ _; rw [hob0]; intro h; cases h; omega
      obtain ⟨gb, egb⟩ : ∃ x, x = w3.heap.size := ⟨_, rfl⟩
      rw [← egb] at XR xs hs3 XN ⊢
      clear egb hX hb3 K3 R0 R1 HO HE HBL hzw
      generalize Value.slice (some ⟨go0, 0, none⟩) (strL B text (a + 0)).length co0 = v0 at *
      go_wp2
      go_loopw [7, 10] (fun v i wx => ∃ k : Nat, k ≤ 64 ∧ a + k ≤ n ∧ i = .int .i64 k ∧ Own .u8 5 (w.heap.size + 1 + 1) wx v (strL B text (a + k)) ∧ v.ownBlock ≠ none ∧ v.ownBlock ≠ some gb ∧ RowAt wx gb .u8 (B (1 + q)) 47 ∧ RowAt wx w.heap.size .u8 key 22 ∧ RowAt wx (w.heap.size + 1) .u8 nonce 23 ∧ Below w.heap.size w wx ∧ gb + 1 ≤ wx.heap.size) (fun _ i _ => 64 - (intOf i).toNat)
      case atStart => exact ⟨0, by omega, by omega, rfl, XO.out, by rw [hob0]; simp, XN.out, XR.out, X0.out, X1.out, XB.out, by omega⟩
      case round =>
        obtain ⟨k, hk64, hkn, rfl, hown, hne, hngb, rr, r0, r1, hbel, hsz2⟩ := hrel
        have HO : Hid _ := hown
        have HE : Hid _ := hne
        have HG : Hid _ := hngb
        have RR : Hid _ := rr
        have R0 : Hid _ := r0
        have R1 : Hid _ := r1
        have HBL : Hid _ := hbel
        clear hown hne hngb rr r0 r1 hbel XO XR X0 X1 XB XN
        by_cases hkk : k < 64
        · by_cases hak : a + k < n
          · have hki : (k : Int) < 64 := by omega
            have haki : (a : Int) + (k : Int) < n := by omega
            have hcell : wr.cell? ⟨gb, k, none⟩ = some (.int .u8 ((B (1 + q)).getD k 0)) := by rw [cell_of_row _ _ _ _ _ _ RR.out]; simp [Iv, hB, hkk]
            have htext : wr.cell? ⟨tg, to_ + (a + k), none⟩ = some (.int .u8 (text.getD (a + k) 0)) := (HBL.out.cell (p := ⟨tg, to_ + (a + k), none⟩) htg).trans (HS.out.2 (a + k) (by omega))
            have hbt := htb (a + k)
            have hbb := hBb (1 + q) k
            have HST : Hid (strL B text (a + (k + 1)) = strL B text (a + k) ++ [xb (text.getD (a + k) 0) ((B (1 + q)).getD k 0)]) := by
              show _ = _
              have := HA.out
              rw [← Nat.add_assoc, strL_succ, show (a + k) / 64 = q by omega, show (a + k) % 64 = k by omega]
            have HLL : Hid ((strL B text (a + k)).length ≤ 100000000) := by show _ ≤ _; rw [strL_length]; omega
            have hsb : w.heap.size + 1 + 1 ≤ wr.heap.size := by omega
            have HBX : Hid (Below (w.heap.size + 1 + 1) wr.drew wr.drew) := Below.refl _ _
            generalize text.getD (a + k) 0 = tz at *
            generalize (B (1 + q)).getD k 0 = bz at *
            generalize strL B text (a + k) = L at *
            go_wp2
            refine wp_region_late 11 (fun _ => True) [(.held, [0]), (.exact, [1, 2, 3, 4, 5, 6, 7, 8, 9, 10]), (.tail, [11]), (.tail, [12]), (.tail, [13])] mixedF (by kernel_rfl) trivial ?_
            simp only [wpRuns, opsAt_cons, opsAt_nil, nthOp_zero, nthOp_succ, List.cons_append, List.nil_append]
            repeat (go_big_quiet_step (fail))
            refine wpQuiet_nil ?_
            repeat (go_big_quiet_step (fail))
            refine wpQuiet_nil ?_
            go_wp2_with fail
            refine ⟨trivial, ?_⟩
            go_wp2_with (at_builtin; refine push_law .u8 24 5 1 Tryd.underlying24 infoE8 (by decide) rfl (.tmp 37) (.tmp 48) rfl (w.heap.size + 1 + 1) wr.drew wr.drew _ L _ rfl rfl (Own.drews HO.out 1) HBX.out hsb HLL.out ?_; intro v1 w1 hown1 hbel1 hgr1 hd1; refine stop_here ?_)
            refine hid_mk ?_
            have K1 : Hid (Own .u8 5 (w.heap.size + 1 + 1) w1 v1 (strL B text (a + (k + 1)))) := by show Own _ _ _ _ _ _; rw [HST.out]; exact hown1
            have K2 : Hid (v1.ownBlock ≠ none) := grown_ne HE.out hd1
            have K3 : Hid (v1.ownBlock ≠ some gb) := by
              show _ ≠ _
              rcases hd1 with h | h
              · rw [h]; exact HG.out
              · rw [h]; intro h2; have h3 : wr.heap.size + 1 = gb := by simpa using h2
                omega
            have K4 : Hid (w1.heap[gb]? = some (.cells (Iv .u8 (B (1 + q))) 47)) := (hgr1.block gb (by show gb < wr.heap.size; omega) (fun e => HG.out e.symm)).trans RR.out
            have K5 : Hid (w1.heap[w.heap.size]? = some (.cells (Iv .u8 key) 22)) := (hbel1.block _ (by omega)).trans R0.out
            have K6 : Hid (w1.heap[w.heap.size + 1]? = some (.cells (Iv .u8 nonce) 23)) := (hbel1.block _ (by omega)).trans R1.out
            have K7 : Hid (Below w.heap.size w w1) := (below_drews HBL.out 1).trans (hbel1.mono (by omega))
            have hs1 : wr.heap.size ≤ w1.heap.size := hbel1.size
            clear hown1 hbel1 hgr1 hd1 HO HE HG RR R0 R1 HBL
            go_wp2_with fail
            refine at_norm ?_
            go_wp2_with fail
            first
              | refine ⟨trivial, calm_normal ?_⟩
              | refine at_norm (calm_normal ?_)
            go_wp2
            go_roundw
            case rel => exact ⟨k + 1, by omega, by omega, by go_num, K1.out, K2.out, K3.out, K4.out, K5.out, K6.out, K7.out, by omega⟩
            case measure => simp [intOf]; omega
          · have hki : (k : Int) < 64 := by omega
            have haki : ((a : Int) + (k : Int) < n) = False := by simp; omega
            have hmin : Hid (min (64 * (q + 1)) n = a + k) := by show _ = _; have := HA.out; omega
            go_wp2
            go_roundw
            case rel => exact ⟨q + 1, by have := HA.out; rw [this]; go_num, by have := HA.out; omega, by rw [hmin.out]; exact HO.out, HE.out, R0.out, R1.out, HBL.out, by omega⟩
            case measure => simp [intOf]; omega
        · obtain rfl : k = 64 := by omega
          have hmin : Hid (min (64 * (q + 1)) n = a + 64) := by show _ = _; have := HA.out; omega
          go_wp2
          go_roundw
          case rel => exact ⟨q + 1, by have := HA.out; rw [this]; go_num, by have := HA.out; omega, by rw [hmin.out]; exact HO.out, HE.out, R0.out, R1.out, HBL.out, by omega⟩
          case measure => simp [intOf]; omega
    · have hlti : ((64 * (q : Int) < n) = False) := by simp; omega
      rw [show min (64 * q) n = n by omega] at HO
      go_wp2
      go_ret
      exact ⟨_, rfl, Own.mono HO.out (by omega), HE.out, HBL.out⟩
end Go.Proofs.YtlbnmiinokkkgaaDoor
namespace Go.Proofs.YtlbnmiinokkkgaaDoor
open Go.RowKit
set_option linter.unusedVariables false
set_option linter.unusedSimpArgs false
theorem zeroCells_one (k : IntKind) (m : Nat) : Builtin.zeroCells (Value.int k 0).cells m = (List.replicate m (Value.int k 0)).toArray := by
  apply Array.ext'
  simp only [Builtin.zeroCells, Value.cells, List.size_toArray, List.length_cons, List.length_nil, Nat.zero_add, Nat.mul_one, Nat.mod_one, Array.toList_map, Array.toList_range]
  apply List.ext_getElem
  · simp
  · intro i h1 h2
    simp
theorem append_make_eq {P : Program} (w : World) (t ty e it : TypeId) (i : TypeInfo) (k : IntKind) (ht : P.underlying t = some (.slice e)) (hi : P.info? e = some i) (hz : i.zero = some (.int k 0)) (hs : i.size = 1) (hby : i.bytes ≤ 8)
    (hit : P.underlying it = some (.int .i64)) (base : Option Addr) (sLen sCap m c : Nat) (a : Addr) (hm : m ≤ 1000) (hsl : sLen ≤ 1000000000) (hfit : sCap < sLen + m → Builtin.nextslicecap (sLen + m) sCap * i.bytes ≤ 281474976710656)
    (hzero : ∀ j, j < m → w.cell? (a.add j) = some (.int k 0)) (hold : ∃ cs, (Builtin.firstCells 1 sLen (.slice base sLen sCap)).run P w.drew = .ok cs w.drew) :
    (Builtin.append_ #[t, it] ty #[.slice base sLen sCap, .int .i64 m]).run P w = (Builtin.append_ #[t, t] ty #[.slice base sLen sCap, .slice (some a) m c]).run P w := by
  have hnews : ∀ j v, (List.replicate m (Value.int k 0))[j]? = some v → w.cell? (a.add j) = some v := by
    intro j v hj
    have hj2 : j < m := by have := (List.getElem?_eq_some_iff.1 hj).1; simpa using this
    rw [hzero j hj2]
    simp [List.getElem?_replicate, hj2] at hj
    rw [hj]
  have hl : (List.replicate m (Value.int k 0)).length = m * i.size := by simp [hs]
  have hf0 := run_firstCells_some (P := P) w i.size m a m c (List.replicate m (Value.int k 0)) hl hnews
  have hf1 := run_firstCells_some (P := P) w.drew i.size m a m c (List.replicate m (Value.int k 0)) hl (by simpa using hnews)
  have hwr : IntKind.i64.wrap (m : Int) = m := by
    have h1 : (m : Int) % 18446744073709551616 = m := by omega
    simp [IntKind.wrap, IntKind.bits, IntKind.signed, h1]
    try omega
  have hneg : ¬ ((m : Int) < 0) := by omega
  have hb48 : ¬ (281474976710656 < (m : Int) * (i.bytes : Int)) := by
    have h1 : m * i.bytes ≤ 1000 * 8 := Nat.mul_le_mul hm hby
    have h2 : ((m * i.bytes : Nat) : Int) ≤ 8000 := by omega
    rw [Int.natCast_mul] at h2
    omega
  have hzc := zeroCells_one k m
  rw [hs] at hf0 hf1
  obtain ⟨cs, hcs⟩ := hold
  by_cases h0 : m = 0
  · subst h0
    have hl0 : ∀ w' : World, (Builtin.firstCells 1 0 (.slice (some a) 0 c)).run P w' = .ok #[] w' := fun w' => by simp [Builtin.firstCells, loadCells, loadCellsFrom]
    have hwr0 : IntKind.i64.wrap 0 = 0 := by decide
    by_cases hroom : sLen ≤ sCap
    · simp [Builtin.append_, run_underlying ht, run_underlying hit, sizeOf, typeInfo, zeroValue, hi, hz, Builtin.lenOf, hroom, hwr0, asInt, asIntOf, hs, hl0]
    · have h63' : ¬ (9223372036854775807 < (sLen : Int)) := by omega
      have h48' : ¬ (281474976710656 < Builtin.nextslicecap sLen sCap * i.bytes) := by have := hfit (by omega); simp only [Nat.add_zero] at this; omega
      simp [Builtin.append_, run_underlying ht, run_underlying hit, sizeOf, typeInfo, zeroValue, hi, hz, Builtin.lenOf, hroom, hwr0, asInt, asIntOf, hs, h63', h48', Question.forced, hl0, newRow, hcs]
  by_cases hroom : sLen + m ≤ sCap
  · simp [Builtin.append_, run_underlying ht, run_underlying hit, sizeOf, typeInfo, zeroValue, hi, hz, Builtin.lenOf, hroom, hwr, hneg, hb48, asInt, asIntOf, h0, hs, hf0, hzc]
  · have h63' : ¬ (9223372036854775807 < ((sLen : Int) + (m : Int))) := by omega
    have h48' : ¬ (281474976710656 < Builtin.nextslicecap (sLen + m) sCap * i.bytes) := by have := hfit (by omega); omega
    simp [Builtin.append_, run_underlying ht, run_underlying hit, sizeOf, typeInfo, zeroValue, hi, hz, Builtin.lenOf, hroom, hwr, hneg, hb48, asInt, asIntOf, h0, hs, h63', h48', Question.forced, hf1, hzc, newRow, hcs]
/-- 'out = append(out, make([]T, m)...)', where the memory holds m zeros somewhere. -/
theorem zeros_law {P : Program} {ops : Array Oper} {rest : List Oper} {o : Oper} {a : Act} {Q : Exit → Act → World → Prop} (k : IntKind) (t e it : TypeId) (bytes : Nat) (ht : P.underlying t = some (.slice e))
    (hinfo : (P.info? e).map (fun i => (i.zero, i.size, i.bytes)) = some (some (.int k 0), 1, bytes)) (hby : bytes ≤ 8) (hit : P.underlying it = some (.int .i64)) (hgd : o.guard = none) (s x : Operand) (ho : o.op = .call { callee := .builtin .append, args := #[s, x], argTypes := #[t, it] })
    (base : Nat) (w0 wr : World) (v : Value) (l : List Int) (b o' m : Nat) (hs : a.eval s = v) (hx : a.eval x = .int .i64 m) (hown : Own k e base wr v l) (hbel : Below base w0 wr) (hbase : base ≤ wr.heap.size) (hm : m ≤ 1000) (hlen : l.length ≤ 100000000)
    (hnews : ∀ j, j < m → wr.cell? ⟨b, o' + j, none⟩ = some (.int k 0))
    (h : ∀ v' w', Own k e base w' v' (l ++ List.replicate m 0) → Below base w0 w' → wr.grownBy w' v.ownBlock → (v'.ownBlock = v.ownBlock ∨ v'.ownBlock = some wr.heap.size) → wpList P ops Q rest (a.put o.dst v') w') : wpList P ops Q (o :: rest) a wr := by
  obtain ⟨i, hi, hz, hsz, hb⟩ := info_parts hinfo
  have hadd : ∀ j, (⟨b, o', none⟩ : Addr).add j = ⟨b, o' + j, none⟩ := fun j => by unfold Addr.add; split <;> simp_all
  have g1 : ∀ j u, (iv k (List.replicate m 0))[j]? = some u → wr.cell? ((⟨b, o', none⟩ : Addr).add j) = some u := by
    intro j u hj
    have hj' : j < m := by
      have := (List.getElem?_eq_some_iff.1 hj).1
      rw [iv_length] at this
      simpa using this
    rw [hadd, hnews j hj']
    rw [iv_get] at hj
    simp [hj'] at hj
    rw [hj]
  have g2 : l.length + m ≤ maxLen := by unfold maxLen; omega
  have g3 : (l.length + m) * bytes ≤ 140737488355328 := by
    have : (l.length + m) * bytes ≤ (l.length + m) * 8 := Nat.mul_le_mul_left _ hby
    omega
  have g4 : (iv k (List.replicate m 0)).length = m * 1 := by rw [iv_length]; simp
  obtain ⟨v', w', hr, h1, h2, _⟩ := run_append_own (P := P) wr base t o.type e i (.int k 0) 1 bytes ht hi hz hsz hb rfl (by decide) v l.length (iv k l) hown ⟨b, o', none⟩ m m (iv k (List.replicate m 0)) g4 g1 (iv_one k _) g2 g3 hbase
  have h4 := append_block ht hi hz hsz hb rfl hown g4 g1 (iv_one k _) g2 g3 hr
  have hr2 : (Builtin.append_ #[t, it] o.type #[v, .int .i64 m]).run P wr = .ok v' w' := by
    rw [← hr]
    obtain ⟨_, ⟨rfl, hl0⟩ | ⟨g, cap, cur, rfl, hbg, hg, hnc, hcm, hcs, htake⟩⟩ := hown
    · exact append_make_eq wr t o.type e it i k ht hi hz hsz (by rw [hb]; exact hby) hit none 0 0 m m ⟨b, o', none⟩ hm (by omega) (fun _ => by
        have hn : Builtin.nextslicecap (0 + m) 0 ≤ 0 + m := by unfold Builtin.nextslicecap; split <;> omega
        have := Nat.mul_le_mul hn (show i.bytes ≤ 8 by rw [hb]; exact hby)
        omega) (fun j hj => by rw [hadd]; exact hnews j hj) ⟨#[], by simp [Builtin.firstCells]⟩
    · have hold : ∀ j u, (iv k l)[j]? = some u → wr.drew.cell? ((⟨g, 0, none⟩ : Addr).add j) = some u := by
        intro j u hj
        have := World.ownsRow.cells (w := wr) (base := base) (e := e) (size := 1) (v := .slice (some ⟨g, 0, none⟩) l.length cap) (n := l.length) (xs := iv k l) (g := g) ⟨by simp [iv_length], .inr ⟨g, cap, cur, rfl, hbg, hg, hnc, hcm, hcs, htake⟩⟩ rfl j u hj
        simpa using this
      exact append_make_eq wr t o.type e it i k ht hi hz hsz (by rw [hb]; exact hby) hit (some ⟨g, 0, none⟩) l.length cap m m ⟨b, o', none⟩ hm (by omega) (fun hlt => growslice_fits (by omega) (by rw [hb]; exact g3)) (fun j hj => by rw [hadd]; exact hnews j hj)
        ⟨_, run_firstCells_some (P := P) wr.drew 1 l.length ⟨g, 0, none⟩ l.length cap (iv k l) (by simp [iv_length]) hold⟩
  refine wpList_plain hgd fun K hK => ?_
  unfold Oper.wp execOp
  simp only [ho, resolve, invoke, builtin, Sem.run_bind, Sem.run_pure, Result.andThen_ok, List.map_toArray, List.map_cons, List.map_nil, hs, hx, hr2]
  refine hK _ _ (h v' w' ?_ (hbel.grown h2 hbase (fun g hg => (Own.lt hown g hg).1)) h2 h4)
  unfold Own
  rw [iv_append, List.length_append, List.length_replicate]
  exact h1
end Go.Proofs.YtlbnmiinokkkgaaDoor
namespace Go.Proofs.YtlbnmiinokkkgaaDoor
open Go.RowKit
set_option linter.unusedVariables false
/-- The parts so far, each filled up. -/
def padP (P : Nat → List Int) : Nat → List Int
  | 0 => []
  | k + 1 => padP P k ++ fillL (P k)
theorem own_none {k : IntKind} {e : TypeId} {base : Nat} (w : World) : Own k e base w (.slice none 0 0) [] := ⟨by simp [iv_length], .inl ⟨rfl, rfl⟩⟩
theorem i64_and15 (n : Int) : bits .and .i64 n 15 = n % 16 := by
  have h15 : (BitVec.ofInt 64 15).toNat = 2 ^ 4 - 1 := by decide
  have key : (BitVec.ofInt 64 n &&& BitVec.ofInt 64 15).toNat = (n % ((2 ^ 64 : Nat) : Int)).toNat % 2 ^ 4 := by
    rw [BitVec.toNat_and, BitVec.toNat_ofInt, h15, Nat.and_two_pow_sub_one_eq_mod]
  show IntKind.i64.wrap ((BitVec.ofInt 64 n &&& BitVec.ofInt 64 15).toNat : Nat) = n % 16
  rw [key, IntKind.wrap_i64]
  omega
theorem neg_and15 (n : Nat) (h : n ≤ 1000000) : bits .and .i64 (-(n : Int)) 15 = (fillN n : Nat) := by
  rw [i64_and15]
  unfold fillN
  omega
set_option maxRecDepth 10000 in
set_option maxHeartbeats 2000000 in
theorem padded_any (P : Nat → List Int) (pl pg po pc : Nat → Nat) (hpl : ∀ k, k < 3 → (P k).length = pl k) (hps : ∀ k, k < 3 → pl k ≤ 65536) (gp gz : Nat) (w : World) (hgp : gp < w.heap.size)
    (HP : Hid (∀ k, k < 3 → w.cell? ⟨gp, k, none⟩ = some (.slice (some ⟨pg k, po k, none⟩) (pl k) (pc k)))) (HS : Hid (∀ k, k < 3 → Sl w (pg k) (po k) (P k))) (HZ : Hid (∀ j, j < 16 → w.cell? ⟨gz, j, none⟩ = some (.int .u8 0))) (hgz : gz < w.heap.size) :
    Calls Tryd.prog 52 #[.slice (some ⟨gp, 0, none⟩) 3 3] w fun e w' => ∃ v, e = .returned v ∧ Own .u8 5 w.heap.size w' v (padP P 3) ∧ Below w.heap.size w w' := by
  go_enter Tryd.func52, Tryd.ntmps52
  go_wp2
  go_loopw [3, 8] (fun v i wr => ∃ k : Nat, k ≤ 3 ∧ i = .int .i64 k ∧ Own .u8 5 w.heap.size wr v (padP P k) ∧ (padP P k).length ≤ k * 65600 ∧ Below w.heap.size w wr) (fun _ i _ => 3 - (intOf i).toNat)
  case atStart => exact ⟨0, Nat.zero_le _, rfl, own_none w, Nat.le_refl _, Below.refl _ _⟩
  case round =>
    obtain ⟨k, hk, rfl, hown, hpl2, hbel⟩ := hrel
    have hsz := hbel.size
    have HO : Hid _ := hown
    have HBL : Hid _ := hbel
    clear hown hbel
    by_cases hlt : k < 3
    · have hki : (k : Int) < 3 := by omega
      have hc : wr.cell? ⟨gp, k, none⟩ = some (.slice (some ⟨pg k, po k, none⟩) (pl k) (pc k)) := (HBL.out.cell (p := ⟨gp, k, none⟩) hgp).trans (HP.out k hlt)
      have HSk : Hid (Sl wr (pg k) (po k) (P k)) := Sl.later (HS.out k hlt) HBL.out (HS.out k hlt).1
      have HZ2 : Hid (∀ j, j < 16 → wr.cell? ⟨gz, j, none⟩ = some (.int .u8 0)) := fun j hj => (HBL.out.cell (p := ⟨gz, j, none⟩) hgz).trans (HZ.out j hj)
      have HL : Hid ((P k).length = pl k) := hpl k hlt
      have hps2 := hps k hlt
      have HSt : Hid (padP P (k + 1) = padP P k ++ (P k ++ List.replicate (fillN (pl k)) 0)) := by show padP P k ++ fillL (P k) = _; unfold fillL; rw [hpl k hlt]
      have hf16 := fillN_lt (pl k)
      have HN : Hid _ := neg_and15 (pl k) (by omega)
      clear hpl hps HP HS
      obtain ⟨L, eL⟩ : ∃ L, L = padP P k := ⟨_, rfl⟩
      rw [← eL] at HO hpl2 HSt
      obtain ⟨Pk, ePk⟩ : ∃ x, x = P k := ⟨_, rfl⟩
      rw [← ePk] at HSk HL HSt
      obtain ⟨n, en⟩ : ∃ x, x = pl k := ⟨_, rfl⟩
      rw [← en] at hc HL HSt HN hps2 hf16
      obtain ⟨g, eg⟩ : ∃ x, x = pg k := ⟨_, rfl⟩
      rw [← eg] at hc HSk
      obtain ⟨o, eo⟩ : ∃ x, x = po k := ⟨_, rfl⟩
      rw [← eo] at hc HSk
      obtain ⟨c, ec⟩ : ∃ x, x = pc k := ⟨_, rfl⟩
      rw [← ec] at hc
      clear eL ePk en eg eo ec
      go_wp2_with (at_builtin; first
        | (refine extend_law .u8 24 5 1 Tryd.underlying24 infoE8 (by decide) rfl (.tmp 12) (.tmp 13) rfl w.heap.size w wr _ L g o n c Pk HL.out rfl rfl HO.out HBL.out hsz (by have := HL.out; omega) (by have := HL.out; intro j hj; exact HSk.out.2 j (by omega)) ?_; intro v1 w1 ho1 hb1 hg1 hd1; refine stop_here ?_))
      refine hid_mk ?_
      have HO1 : Hid _ := ho1
      have HB1 : Hid _ := hb1
      have HZ3 : Hid (∀ j, j < 16 → w1.cell? ⟨gz, j, none⟩ = some (.int .u8 0)) := fun j hj => (hb1.cell (p := ⟨gz, j, none⟩) hgz).trans (HZ.out j hj)
      have hs1 := hb1.size
      clear ho1 hb1 hg1 hd1 HO HBL HSk HZ2 hc
      go_wp2_with (at_builtin; (refine zeros_law .u8 24 5 3 1 Tryd.underlying24 infoE8 (by decide) Tryd.underlying3 rfl (.tmp 15) (.tmp 19) rfl w.heap.size w w1 _ (L ++ Pk) gz 0 (fillN n) rfl (congrArg (Value.int .i64) HN.out) HO1.out HB1.out hs1 (by omega) (by have := HL.out; rw [List.length_append]; omega) (fun j hj => by rw [Nat.zero_add]; exact HZ3.out j (by omega)) ?_; intro v2 w2 ho2 hb2 hg2 hd2; refine stop_here ?_))
      refine hid_mk ?_
      rw [List.append_assoc, ← HSt.out] at ho2
      have HO2 : Hid _ := ho2
      have HB2 : Hid _ := hb2
      have hln : Hid ((padP P (k + 1)).length ≤ (k + 1) * 65600) := by show _ ≤ _; rw [HSt.out]; have := HL.out; simp; omega
      clear ho2 hb2 hg2 hd2 HO1 HB1
      go_wp2
      go_roundw
      case rel => exact ⟨k + 1, by omega, by go_num, HO2.out, hln.out, HB2.out⟩
      case measure => simp [intOf]; omega
    · obtain rfl : k = 3 := by omega
      go_wp2
      go_ret
      exact ⟨_, rfl, HO.out, HBL.out⟩
end Go.Proofs.YtlbnmiinokkkgaaDoor
namespace Go.Proofs.YtlbnmiinokkkgaaDoor
open Go.RowKit
set_option linter.unusedVariables false
theorem wpQuiet_load_mid {P : Program} {ops : Array Oper} {C : World → Prop} {Q : Act → Prop} {a : Act} {op : Oper} {rest : List Oper} (hgd : op.guard = none) (ty : TypeId) (x : Operand) (ho : op.op = .load ty x)
    (b o : Nat) (hx : a.eval x = .pointer (some ⟨b, o, none⟩)) (cs : List Value) (d : TypeDesc) (hg : ∀ w, C w → w.rangeAt b o cs)
    (hu : P.underlying ty = some d) (hd : d.isRow = true) (hi : (P.info? ty).map (·.size) = some cs.length)
    (h : wpQuiet P ops C Q rest (a.put op.dst (.agg cs.toArray))) : wpQuiet P ops C Q (op :: rest) a := by
  refine wpQuiet_wanted hgd (v := .agg cs.toArray) (fun w hw => ?_) h
  have e : (execOp a.eval op).run P w = .ok (.value (.agg cs.toArray)) w := by
    unfold execOp
    simp only [ho, hx, Instr.loadAt, Instr.sureAddr, Sem.run_bind, Sem.run_pure, Result.andThen_ok, run_loadVar_mid w b o ty cs d (hg w hw) hu hd hi]
  unfold Oper.quietAt
  rw [e]
  exact ⟨rfl, rfl⟩
theorem quietVal {P : Program} {ops : Array Oper} {C : World → Prop} {Q : Act → Prop} {a : Act} {o : Oper} {rest : List Oper} (hgd : o.guard = none) (v : Value) (he : ∀ w, (execOp a.eval o).run P w = .ok (.value v) w) (h : wpQuiet P ops C Q rest (a.put o.dst v)) : wpQuiet P ops C Q (o :: rest) a := by
  refine wpQuiet_wanted hgd (v := v) (fun w hw => ?_) h
  unfold Oper.quietAt
  rw [he w]
  exact ⟨rfl, rfl⟩
end Go.Proofs.YtlbnmiinokkkgaaDoor
namespace Go.Proofs.YtlbnmiinokkkgaaDoor
open Go
set_option linter.unusedVariables false

section
variable {P : Program} {ops : Array Oper} {Q : Exit → Act → World → Prop} {md : Region.Mode} {S1 : World → Prop} {W : World} {n0 z : Nat}

/-- Until operation number n0 has come up the world is W; until number z has, it is one of S1. -/
def LateAt2 (S1 : World → Prop) (W : World) (n0 z : Nat) (listed : Array Bool) (w : World) : Prop := (listed.getD z false = false → S1 w) ∧ (listed.getD n0 false = false → w = W)
def wpAnyT2 (P : Program) (md : Region.Mode) (ops : Array Oper) (Q : Exit → Act → World → Prop) (S1 : World → Prop) (W : World) (n0 z : Nat) : Nat → Array Bool → Act → World → Prop
  | 0, listed, a, w => Region.ready md ops listed = [] ∧ Q .normal a w
  | fuel + 1, listed, a, w =>
    (Region.ready md ops listed = [] → Q .normal a w) ∧
    ∀ i ∈ Region.ready md ops listed, wpOp P ops Q i (fun a' w' => LateAt2 S1 W n0 z (listed.setIfInBounds i true) w' ∧ wpAnyT2 P md ops Q S1 W n0 z fuel (listed.setIfInBounds i true) a' w') a w
theorem wpAny_of_late2 : ∀ (fuel : Nat) (listed : Array Bool) (a : Act) (w : World), wpAnyT2 P md ops Q S1 W n0 z fuel listed a w → wpAny P md ops Q fuel listed a w
  | 0, _, _, _, h => h
  | fuel + 1, _, _, _, h => ⟨h.1, fun i hi => wpOp_mono (fun a' w' h' => wpAny_of_late2 fuel _ a' w' h'.2) (h.2 i hi)⟩
theorem lateAt_set2 {listed : Array Bool} {i : Nat} {w : World} (hi : i ≠ n0) (hz : i ≠ z) : LateAt2 S1 W n0 z (listed.setIfInBounds i true) w ↔ LateAt2 S1 W n0 z listed w := by
  unfold LateAt2
  rw [getD_set_ne false hi, getD_set_ne false hz]

/-- An operation for which number n0 waits, by a chain, may be taken first by what it yields in the world W. -/
theorem wpAnyT2_exact {i : Nat} {oi : Oper} {v : Value} (hi : ops[i]? = some oi) (hin : i ≠ n0) (hiz : i ≠ z) (path : List Nat) (hpath : pathB md ops i path = true) (hn0 : n0 ∈ path) (hsel : ∀ (j : Nat) (o : Oper) cs b, ops[j]? = some o → o.op ≠ .select cs b)
    (hQ : ∀ c a w, Q (.panic c) (a.put oi.dst v) w → Q (.panic c) a w) :
    ∀ (fuel : Nat) (listed : Array Bool) (a : Act) (w : World),
      (∀ j oj, ops[j]? = some oj → j ≠ i → listed.getD j true = false → (∀ e ∈ oj.after, Region.binds md e = true → e.on ≠ i) → oi.apart ops oj = true) →
      i ∈ Region.ready md ops listed → YieldsIf P ops (fun w' => w' = W) oi v a → LateAt2 S1 W n0 z listed w → (∀ k ∈ path, listed.getD k false = false) →
      wpAnyT2 P md ops Q S1 W n0 z fuel (listed.setIfInBounds i true) (a.put oi.dst v) w → wpAnyT2 P md ops Q S1 W n0 z (fuel + 1) listed a w := by
  intro fuel
  induction fuel with
  | zero =>
    intro listed a w _ hr hy hS hun0 H
    refine ⟨fun h => (by rw [h] at hr; cases hr), fun j hj => ?_⟩
    by_cases hji : j = i
    · subst hji; exact hy.wpOp hi (hS.2 (hun0 _ hn0)) ⟨(lateAt_set2 hin hiz).2 hS, H⟩
    · have := ready_mono hj hji
      rw [H.1] at this
      cases this
  | succ fuel ih =>
    intro listed a w hfree hr hy hS hun0 H
    refine ⟨fun h => (by rw [h] at hr; cases hr), fun j hj => ?_⟩
    by_cases hji : j = i
    · subst hji; exact hy.wpOp hi (hS.2 (hun0 _ hn0)) ⟨(lateAt_set2 hin hiz).2 hS, H⟩
    · have h1 := H.2 j (ready_mono hj hji)
      obtain ⟨hjun, oj, hoj, hall⟩ := mem_ready.1 hj
      have hiun := (mem_ready.1 hr).1
      have hnot : ∀ e ∈ oj.after, Region.binds md e = true → e.on ≠ i := fun e he hb heq => by
        have h1 := hall e he hb
        rw [heq, getD_both hiun] at h1
        cases h1
      have hjn : ∀ k ∈ path, j ≠ k := by
        intro k hk hjk
        subst hjk
        obtain ⟨p, hp, hw⟩ := path_prev path i hpath j hk
        obtain ⟨o', ho', e, he, hb, hon⟩ := Region.waitsFor_spec hw
        have : o' = oj := Option.some.inj (ho'.symm.trans hoj)
        subst this
        rcases hp with rfl | hp
        · exact hnot e he hb hon
        · have h3 := hall e he hb
          rw [hon, hun0 p hp] at h3
          cases h3
      have h2 := wpOp_putIf hoj (hfree j oj hoj hji hjun hnot) (fun cs b => hsel i oi cs b hi) (fun cs b => hsel j oj cs b hoj) hQ hy h1
      have hfree' : ∀ k ok, ops[k]? = some ok → k ≠ i → (listed.setIfInBounds j true).getD k true = false →
          (∀ e ∈ ok.after, Region.binds md e = true → e.on ≠ i) → oi.apart ops ok = true := fun k ok hk hki hun hno => by
        refine hfree k ok hk hki ?_ hno
        by_cases hjk : j = k
        · subst hjk; exact hjun
        · rw [getD_set_ne true hjk] at hun; exact hun
      refine wpOp_mono (fun a' w' h3 => ?_) h2
      have h4 := h3.2.1
      rw [Array.setIfInBounds_comm _ _ (Ne.symm hji)] at h4
      have h5 := (lateAt_set2 hin hiz).1 h4
      refine ⟨h5, ih (listed.setIfInBounds j true) a' w' hfree' (ready_mono hr (Ne.symm hji)) h3.1 h5 (fun k hk => by rw [getD_set_ne false (hjn k hk)]; exact hun0 k hk) ?_⟩
      rw [Array.setIfInBounds_comm _ _ hji]
      exact h3.2.2

/-- An operation for which number z waits, by a chain, may be taken first by what it yields in every world of S1. -/
theorem wpAnyT2_held {i : Nat} {oi : Oper} {v : Value} (hi : ops[i]? = some oi) (hin : i ≠ n0) (hiz : i ≠ z) (path : List Nat) (hpath : pathB md ops i path = true) (hn0 : z ∈ path) (hsel : ∀ (j : Nat) (o : Oper) cs b, ops[j]? = some o → o.op ≠ .select cs b)
    (hQ : ∀ c a w, Q (.panic c) (a.put oi.dst v) w → Q (.panic c) a w) :
    ∀ (fuel : Nat) (listed : Array Bool) (a : Act) (w : World),
      (∀ j oj, ops[j]? = some oj → j ≠ i → listed.getD j true = false → (∀ e ∈ oj.after, Region.binds md e = true → e.on ≠ i) → oi.apart ops oj = true) →
      i ∈ Region.ready md ops listed → YieldsIf P ops S1 oi v a → LateAt2 S1 W n0 z listed w → (∀ k ∈ path, listed.getD k false = false) →
      wpAnyT2 P md ops Q S1 W n0 z fuel (listed.setIfInBounds i true) (a.put oi.dst v) w → wpAnyT2 P md ops Q S1 W n0 z (fuel + 1) listed a w := by
  intro fuel
  induction fuel with
  | zero =>
    intro listed a w _ hr hy hS hun0 H
    refine ⟨fun h => (by rw [h] at hr; cases hr), fun j hj => ?_⟩
    by_cases hji : j = i
    · subst hji; exact hy.wpOp hi (hS.1 (hun0 _ hn0)) ⟨(lateAt_set2 hin hiz).2 hS, H⟩
    · have := ready_mono hj hji
      rw [H.1] at this
      cases this
  | succ fuel ih =>
    intro listed a w hfree hr hy hS hun0 H
    refine ⟨fun h => (by rw [h] at hr; cases hr), fun j hj => ?_⟩
    by_cases hji : j = i
    · subst hji; exact hy.wpOp hi (hS.1 (hun0 _ hn0)) ⟨(lateAt_set2 hin hiz).2 hS, H⟩
    · have h1 := H.2 j (ready_mono hj hji)
      obtain ⟨hjun, oj, hoj, hall⟩ := mem_ready.1 hj
      have hiun := (mem_ready.1 hr).1
      have hnot : ∀ e ∈ oj.after, Region.binds md e = true → e.on ≠ i := fun e he hb heq => by
        have h1 := hall e he hb
        rw [heq, getD_both hiun] at h1
        cases h1
      have hjn : ∀ k ∈ path, j ≠ k := by
        intro k hk hjk
        subst hjk
        obtain ⟨p, hp, hw⟩ := path_prev path i hpath j hk
        obtain ⟨o', ho', e, he, hb, hon⟩ := Region.waitsFor_spec hw
        have : o' = oj := Option.some.inj (ho'.symm.trans hoj)
        subst this
        rcases hp with rfl | hp
        · exact hnot e he hb hon
        · have h3 := hall e he hb
          rw [hon, hun0 p hp] at h3
          cases h3
      have h2 := wpOp_putIf hoj (hfree j oj hoj hji hjun hnot) (fun cs b => hsel i oi cs b hi) (fun cs b => hsel j oj cs b hoj) hQ hy h1
      have hfree' : ∀ k ok, ops[k]? = some ok → k ≠ i → (listed.setIfInBounds j true).getD k true = false →
          (∀ e ∈ ok.after, Region.binds md e = true → e.on ≠ i) → oi.apart ops ok = true := fun k ok hk hki hun hno => by
        refine hfree k ok hk hki ?_ hno
        by_cases hjk : j = k
        · subst hjk; exact hjun
        · rw [getD_set_ne true hjk] at hun; exact hun
      refine wpOp_mono (fun a' w' h3 => ?_) h2
      have h4 := h3.2.1
      rw [Array.setIfInBounds_comm _ _ (Ne.symm hji)] at h4
      have h5 := (lateAt_set2 hin hiz).1 h4
      refine ⟨h5, ih (listed.setIfInBounds j true) a' w' hfree' (ready_mono hr (Ne.symm hji)) h3.1 h5 (fun k hk => by rw [getD_set_ne false (hjn k hk)]; exact hun0 k hk) ?_⟩
      rw [Array.setIfInBounds_comm _ _ hji]
      exact h3.2.2

inductive Tag2
  | held | exact | only | tail | last
def wpRuns2 (P : Program) (ops : Array Oper) (Q : Exit → Act → World → Prop) (S1 : World → Prop) (W : World) : List (Tag2 × List Nat) → Act → World → Prop
  | [], a, w => Q .normal a w
  | (.held, ks) :: r, a, w => wpQuiet P ops S1 (fun a' => wpRuns2 P ops Q S1 W r a' w) (opsAt ops ks) a
  | (.exact, ks) :: r, a, w => wpQuiet P ops (fun w' => w' = W) (fun a' => wpRuns2 P ops Q S1 W r a' w) (opsAt ops ks) a
  | (.only, ks) :: r, a, w => wpList P ops (atEnd (fun a' w' => w' = W ∧ wpRuns2 P ops Q S1 W r a' w') Q) (opsAt ops ks) a w
  | (.tail, ks) :: r, a, w => wpList P ops (atEnd (fun a' w' => S1 w' ∧ wpRuns2 P ops Q S1 W r a' w') Q) (opsAt ops ks) a w
  | (.last, ks) :: r, a, w => wpList P ops (atEnd (fun a' w' => wpRuns2 P ops Q S1 W r a' w') Q) (opsAt ops ks) a w
def takeB2 (md : Region.Mode) (ops : Array Oper) (n0 z m : Nat) : List Nat → Array Bool → Bool
  | [], _ => true
  | k :: ks, listed => (Region.ready md ops listed).contains k && Region.free md ops listed k && plainAt ops k && (k != n0) && (k != z) && (pathB md ops k (findPath md ops m ops.size k) && (findPath md ops m ops.size k).contains m && (findPath md ops m ops.size k).all (fun j => !(listed.getD j false))) && takeB2 md ops n0 z m ks (listed.setIfInBounds k true)
def runsB2 (md : Region.Mode) (ops : Array Oper) (n0 z : Nat) : List (Tag2 × List Nat) → Array Bool → Bool
  | [], listed => (Region.ready md ops listed).isEmpty
  | (.held, ks) :: r, listed => takeB2 md ops n0 z z ks listed && runsB2 md ops n0 z r (setAll ks listed)
  | (.exact, ks) :: r, listed => takeB2 md ops n0 z n0 ks listed && runsB2 md ops n0 z r (setAll ks listed)
  | (.only, [k]) :: r, listed => decide (Region.ready md ops listed = [k]) && (k != n0) && (k != z) && !(listed.getD n0 false) && runsB2 md ops n0 z r (listed.setIfInBounds k true)
  | (.tail, [k]) :: r, listed => decide (Region.ready md ops listed = [k]) && (k == n0 || listed.getD n0 false) && runsB2 md ops n0 z r (listed.setIfInBounds k true)
  | (.last, [k]) :: r, listed => decide (Region.ready md ops listed = [k]) && (k == n0 || listed.getD n0 false) && (k == z || listed.getD z false) && runsB2 md ops n0 z r (listed.setIfInBounds k true)
  | _, _ => false
def runsLen2 : List (Tag2 × List Nat) → Nat
  | [] => 0
  | (_, ks) :: r => ks.length + runsLen2 r
theorem takes_exact2 (hs : Region.noSelect ops = true) (hQ : ∀ c a d v w, Q (.panic c) (a.put d v) w → Q (.panic c) a w) (n : Nat) : ∀ (ks : List Nat) (listed : Array Bool) (a : Act) (w : World), takeB2 md ops n0 z n0 ks listed = true → LateAt2 S1 W n0 z listed w →
    wpQuiet P ops (fun w' => w' = W) (fun a' => wpAnyT2 P md ops Q S1 W n0 z n (setAll ks listed) a' w) (opsAt ops ks) a → wpAnyT2 P md ops Q S1 W n0 z (ks.length + n) listed a w
  | [], listed, a, w, _, _, h => by rw [List.length_nil, Nat.zero_add]; exact h
  | k :: ks, listed, a, w, hB, hS, h => by
    simp only [takeB2, Bool.and_eq_true, bne_iff_ne, ne_eq, List.contains_eq_mem, decide_eq_true_eq, List.all_eq_true, Bool.not_eq_true'] at hB
    obtain ⟨⟨⟨⟨⟨⟨hr, hf⟩, hp⟩, hk⟩, hkz⟩, ⟨hw0, hn0⟩, hun⟩, hB'⟩ := hB
    unfold plainAt at hp
    split at hp
    · rename_i o ho
      have hops : opsAt ops (k :: ks) = o :: opsAt ops ks := by simp [opsAt, ho]
      rw [hops] at h
      unfold wpQuiet at h
      rw [show (k :: ks).length + n = (ks.length + n) + 1 by simp; omega]
      by_cases hw : Region.wanted o (yielded ops a.tmps) = true
      · simp only [hw, if_true] at h
        obtain ⟨v, h1, h2⟩ := h
        refine wpAnyT2_exact ho hk hkz _ hw0 hn0 (Region.noSelect_spec hs) (fun c a w => hQ c a _ _ w) _ listed a w (Region.free_spec ho hf) (by simpa using hr) (.inl ⟨hw, fun w' hw' => ?_⟩) hS hun (takes_exact2 hs hQ n ks _ _ w hB' ((lateAt_set2 hk hkz).2 hS) h2)
        have h3 := h1 w' hw'
        unfold Oper.quietAt at h3
        generalize hrun : (execOp a.eval o).run P w' = r at h3
        cases r with
        | ok m w'' =>
          obtain ⟨u, rfl⟩ := plain_value hp hrun
          simp only [Oper.quietUpon] at h3
          rw [h3.1, h3.2]
        | halt x w'' => simp only [Oper.quietUpon] at h3
      · simp only [hw] at h
        exact wpAnyT2_exact ho hk hkz _ hw0 hn0 (Region.noSelect_spec hs) (fun c a w => hQ c a _ _ w) _ listed a w (Region.free_spec ho hf) (by simpa using hr) (.inr ⟨by simpa using hw, rfl⟩) hS hun (takes_exact2 hs hQ n ks _ _ w hB' ((lateAt_set2 hk hkz).2 hS) h)
    · cases hp
theorem takes_held2 (hs : Region.noSelect ops = true) (hQ : ∀ c a d v w, Q (.panic c) (a.put d v) w → Q (.panic c) a w) (n : Nat) : ∀ (ks : List Nat) (listed : Array Bool) (a : Act) (w : World), takeB2 md ops n0 z z ks listed = true → LateAt2 S1 W n0 z listed w →
    wpQuiet P ops S1 (fun a' => wpAnyT2 P md ops Q S1 W n0 z n (setAll ks listed) a' w) (opsAt ops ks) a → wpAnyT2 P md ops Q S1 W n0 z (ks.length + n) listed a w
  | [], listed, a, w, _, _, h => by rw [List.length_nil, Nat.zero_add]; exact h
  | k :: ks, listed, a, w, hB, hS, h => by
    simp only [takeB2, Bool.and_eq_true, bne_iff_ne, ne_eq, List.contains_eq_mem, decide_eq_true_eq, List.all_eq_true, Bool.not_eq_true'] at hB
    obtain ⟨⟨⟨⟨⟨⟨hr, hf⟩, hp⟩, hk⟩, hkz⟩, ⟨hw0, hn0⟩, hun⟩, hB'⟩ := hB
    unfold plainAt at hp
    split at hp
    · rename_i o ho
      have hops : opsAt ops (k :: ks) = o :: opsAt ops ks := by simp [opsAt, ho]
      rw [hops] at h
      unfold wpQuiet at h
      rw [show (k :: ks).length + n = (ks.length + n) + 1 by simp; omega]
      by_cases hw : Region.wanted o (yielded ops a.tmps) = true
      · simp only [hw, if_true] at h
        obtain ⟨v, h1, h2⟩ := h
        refine wpAnyT2_held ho hk hkz _ hw0 hn0 (Region.noSelect_spec hs) (fun c a w => hQ c a _ _ w) _ listed a w (Region.free_spec ho hf) (by simpa using hr) (.inl ⟨hw, fun w' hw' => ?_⟩) hS hun (takes_held2 hs hQ n ks _ _ w hB' ((lateAt_set2 hk hkz).2 hS) h2)
        have h3 := h1 w' hw'
        unfold Oper.quietAt at h3
        generalize hrun : (execOp a.eval o).run P w' = r at h3
        cases r with
        | ok m w'' =>
          obtain ⟨u, rfl⟩ := plain_value hp hrun
          simp only [Oper.quietUpon] at h3
          rw [h3.1, h3.2]
        | halt x w'' => simp only [Oper.quietUpon] at h3
      · simp only [hw] at h
        exact wpAnyT2_held ho hk hkz _ hw0 hn0 (Region.noSelect_spec hs) (fun c a w => hQ c a _ _ w) _ listed a w (Region.free_spec ho hf) (by simpa using hr) (.inr ⟨by simpa using hw, rfl⟩) hS hun (takes_held2 hs hQ n ks _ _ w hB' ((lateAt_set2 hk hkz).2 hS) h)
    · cases hp
theorem setAll_late2 {m : Nat} {w : World} : ∀ (ks : List Nat) (listed : Array Bool), takeB2 md ops n0 z m ks listed = true → LateAt2 S1 W n0 z listed w → LateAt2 S1 W n0 z (setAll ks listed) w
  | [], _, _, h => h
  | k :: ks, listed, hB, h => by
    simp only [takeB2, Bool.and_eq_true, bne_iff_ne, ne_eq] at hB
    exact setAll_late2 ks _ hB.2 ((lateAt_set2 hB.1.1.1.2 hB.1.1.2).2 h)
theorem runs_sound2 (hs : Region.noSelect ops = true) (hQ : ∀ c a d v w, Q (.panic c) (a.put d v) w → Q (.panic c) a w) : ∀ (runs : List (Tag2 × List Nat)) (listed : Array Bool) (a : Act) (w : World), runsB2 md ops n0 z runs listed = true → LateAt2 S1 W n0 z listed w →
    wpRuns2 P ops Q S1 W runs a w → wpAnyT2 P md ops Q S1 W n0 z (runsLen2 runs) listed a w
  | [], listed, a, w, hB, _, h => by
    simp only [runsB2, List.isEmpty_iff] at hB
    exact ⟨hB, h⟩
  | (.held, ks) :: r, listed, a, w, hB, hS, h => by
    simp only [runsB2, Bool.and_eq_true] at hB
    refine takes_held2 hs hQ _ ks listed a w hB.1 hS (wpQuiet_post (fun a' h' => ?_) _ _ h)
    refine runs_sound2 hs hQ r _ a' w hB.2 ?_ h'
    exact setAll_late2 ks listed hB.1 hS
  | (.exact, ks) :: r, listed, a, w, hB, hS, h => by
    simp only [runsB2, Bool.and_eq_true] at hB
    refine takes_exact2 hs hQ _ ks listed a w hB.1 hS (wpQuiet_post (fun a' h' => ?_) _ _ h)
    refine runs_sound2 hs hQ r _ a' w hB.2 ?_ h'
    exact setAll_late2 ks listed hB.1 hS
  | (.only, [k]) :: r, listed, a, w, hB, hS, h => by
    simp only [runsB2, Bool.and_eq_true, decide_eq_true_eq, bne_iff_ne, ne_eq, Bool.not_eq_true'] at hB
    obtain ⟨⟨⟨⟨hr, hk⟩, hkz⟩, hun⟩, hB'⟩ := hB
    rw [show runsLen2 ((Tag2.only, [k]) :: r) = runsLen2 r + 1 by simp [runsLen2]; omega]
    refine ⟨fun h0 => (by rw [hr] at h0; cases h0), fun i hi => ?_⟩
    rw [hr] at hi
    obtain rfl : i = k := by simpa using hi
    obtain ⟨_, o, ho, _⟩ := mem_ready.1 (show i ∈ Region.ready md ops listed by rw [hr]; simp)
    have hops : opsAt ops [i] = [o] := by simp [opsAt, ho]
    simp only [wpRuns2, hops] at h
    refine wpOp_mono (fun a' w' h' => ?_) (wpOp_of_list ho h)
    have hl : LateAt2 S1 W n0 z (listed.setIfInBounds i true) w' := by
      refine (lateAt_set2 hk hkz).2 ⟨fun hzz => ?_, fun _ => h'.1⟩
      rw [h'.1, ← hS.2 hun]
      exact hS.1 hzz
    exact ⟨hl, runs_sound2 hs hQ r _ a' w' hB' hl h'.2⟩
  | (.tail, [k]) :: r, listed, a, w, hB, hS, h => by
    simp only [runsB2, Bool.and_eq_true, decide_eq_true_eq, Bool.or_eq_true, beq_iff_eq] at hB
    obtain ⟨⟨hr, hk⟩, hB'⟩ := hB
    rw [show runsLen2 ((Tag2.tail, [k]) :: r) = runsLen2 r + 1 by simp [runsLen2]; omega]
    refine ⟨fun h0 => (by rw [hr] at h0; cases h0), fun i hi => ?_⟩
    rw [hr] at hi
    obtain rfl : i = k := by simpa using hi
    obtain ⟨hiun, o, ho, _⟩ := mem_ready.1 (show i ∈ Region.ready md ops listed by rw [hr]; simp)
    have hops : opsAt ops [i] = [o] := by simp [opsAt, ho]
    simp only [wpRuns2, hops] at h
    refine wpOp_mono (fun a' w' h' => ?_) (wpOp_of_list ho h)
    have hl : LateAt2 S1 W n0 z (listed.setIfInBounds i true) w' := by
      refine ⟨fun _ => h'.1, fun hx => ?_⟩
      exfalso
      rcases hk with hk | hk
      · subst hk
        rcases Nat.lt_or_ge i listed.size with hlt | hge
        · simp [hlt] at hx
        · simp [Array.getElem?_eq_none hge] at hiun
      · rw [getD_set_true hk] at hx
        cases hx
    exact ⟨hl, runs_sound2 hs hQ r _ a' w' hB' hl h'.2⟩
  | (.last, [k]) :: r, listed, a, w, hB, hS, h => by
    simp only [runsB2, Bool.and_eq_true, decide_eq_true_eq, Bool.or_eq_true, beq_iff_eq] at hB
    obtain ⟨⟨⟨hr, hk⟩, hkz⟩, hB'⟩ := hB
    rw [show runsLen2 ((Tag2.last, [k]) :: r) = runsLen2 r + 1 by simp [runsLen2]; omega]
    refine ⟨fun h0 => (by rw [hr] at h0; cases h0), fun i hi => ?_⟩
    rw [hr] at hi
    obtain rfl : i = k := by simpa using hi
    obtain ⟨hiun, o, ho, _⟩ := mem_ready.1 (show i ∈ Region.ready md ops listed by rw [hr]; simp)
    have hops : opsAt ops [i] = [o] := by simp [opsAt, ho]
    simp only [wpRuns2, hops] at h
    refine wpOp_mono (fun a' w' h' => ?_) (wpOp_of_list ho h)
    have hl : LateAt2 S1 W n0 z (listed.setIfInBounds i true) w' := by
      refine ⟨fun hx => ?_, fun hx => ?_⟩
      · exfalso
        rcases hkz with hk | hk
        · subst hk
          rcases Nat.lt_or_ge i listed.size with hlt | hge
          · simp [hlt] at hx
          · simp [Array.getElem?_eq_none hge] at hiun
        · rw [getD_set_true hk] at hx
          cases hx
      exfalso
      rcases hk with hk | hk
      · subst hk
        rcases Nat.lt_or_ge i listed.size with hlt | hge
        · simp [hlt] at hx
        · simp [Array.getElem?_eq_none hge] at hiun
      · rw [getD_set_true hk] at hx
        cases hx
    exact ⟨hl, runs_sound2 hs hQ r _ a' w' hB' hl h'⟩
/-- THE LAW. -/
theorem wp_region_late2 {id : Nat} {a : Act} {w : World} {l : List Oper} (n0 z : Nat) (S1 : World → Prop) (runs : List (Tag2 × List Nat)) (hm : P.follows .mixedOrders = true)
    (hB : (Region.noSelect l.toArray && decide (runsLen2 runs = l.toArray.size) && runsB2 .any l.toArray n0 z runs (Array.replicate l.toArray.size false)) = true)
    (hS : S1 w.drew) (h : wpRuns2 P l.toArray (Calm Q) S1 w.drew runs a w.drew) : (Code.region id l.toArray true).wp P Q a w := by
  simp only [Bool.and_eq_true, decide_eq_true_eq] at hB
  refine Code.wp_mono (Q := Calm Q) calm_imp ?_
  have h1 := runs_sound2 (md := .any) (n0 := n0) (z := z) (Q := Calm Q) hB.1.1 (fun _ _ _ _ _ h => h) runs (Array.replicate l.toArray.size false) a w.drew hB.2 ⟨fun _ => hS, fun _ => rfl⟩ h
  rw [hB.1.2] at h1
  exact wp_region_any hm (wpAny_of_late2 _ _ _ _ h1)
end
end Go.Proofs.YtlbnmiinokkkgaaDoor
namespace Go.Proofs.YtlbnmiinokkkgaaDoor
open Go.RowKit
set_option linter.unusedVariables false

/-- 'putLittle(out, value)': out lies in a row of bytes. -/
theorem putLittle64_any (g off n cap : Nat) (te : TypeId) (l : List Int) (x : Int) (w : World)
    (hg : w.heap[g]? = some (.cells (Iv .u8 l) te)) (hl : off + n ≤ l.length) (hn : n ≤ 8) (hx : 0 ≤ x) :
    Calls Tryd.prog 50 #[.slice (some ⟨g, off, none⟩) n cap, .int .u64 x] w fun e w' =>
      e = .returned (.tuple #[]) ∧ w' = w.setRow g (Iv .u8 (putFrom l off (fun i => x / 256 ^ i % 256) n)) := by
  go_enter Tryd.func50, Tryd.ntmps50
  go_wp2
  go_loopw [7] (fun i wr => ∃ k : Nat, k ≤ n ∧ i = .int .i64 k ∧ wr = w.setRow g (Iv .u8 (putFrom l off (fun i => x / 256 ^ i % 256) k))) (fun i _ => n - (intOf i).toNat)
  case atStart =>
    refine ⟨0, Nat.zero_le _, rfl, ?_⟩
    rw [putFrom_zero, setRow_self w g _ _ _ hg]
  case round =>
    obtain ⟨k, hk, rfl, rfl⟩ := hrel
    by_cases hlt : k < n
    · have ho : ∃ v, (w.setRow g (Iv .u8 (putFrom l off (fun i => x / 256 ^ i % 256) k))).cell? ⟨g, off + k, none⟩ = some v := by
        rw [cell_setRow_same _ _ _ _ _ _ _ hg]
        exact Iv_some _ _ _ (by rw [putFrom_length _ _ _ _ (by omega)]; omega)
      obtain ⟨v, hv⟩ := ho
      have hf : (w.setRow g (Iv .u8 (putFrom l off (fun i => x / 256 ^ i % 256) k))).frozen? ⟨g, off + k, none⟩ = false := by rw [frozen_setRow]; exact frozen_of_row _ _ _ _ _ hg
      go_wp2
      go_roundw
      case rel => exact ⟨k + 1, by omega, by go_num, by rw [setCell_setRow, Iv_set, pow8, putFrom_step l off (fun i => x / 256 ^ i % 256) k (by omega)]⟩
      case measure => simp [intOf]; omega
    · obtain rfl : k = n := by omega
      go_wp2
      go_end0
      exact ⟨rfl, rfl⟩

end Go.Proofs.YtlbnmiinokkkgaaDoor
