import Derived.Test.YtfipcjchjpihkaaDoorMG12
import Derived.Test.YtfipcjchjpihkaaDoorMG08
import Derived.Test.YtfipcjchjpihkaaDoorMG03
import Derived.Test.YtfipcjchjpihkaaDoorMG07
/- The program's 'streamed'. -/
namespace Go.Proofs.YtfipcjchjpihkaaDoor
open Go.RowKit
set_option linter.unusedVariables false
theorem infoE64 : (Tryd.prog.info? 76).map (·.size) = some 64 := by kernel_rfl
theorem infoE32 : (Tryd.prog.info? 24).map (·.size) = some 32 := by kernel_rfl
theorem infoE12 : (Tryd.prog.info? 57).map (·.size) = some 12 := by kernel_rfl
theorem zeroE64 : ∀ W, (zeroValue 76).run Tryd.prog W = .ok (.agg (Iv .u8 (zeroL 64))) W := (zero_of_info (n := 64) (by kernel_rfl)).1
theorem make_room (n : Nat) (hn : n ≤ 65536) (w : World) :
    (Instr.makeSlice 46 (.int .i64 (n : Int)) (.int .i64 ((n : Int) + 16))).run Tryd.prog w = .ok (.slice (some ⟨w.heap.size, 0, none⟩) n (n + 16)) (w.alloc (.cells (Iv .u8 (List.replicate (n + 16) 0)) 5)) := by
  obtain ⟨i, hi, hz, hs, hby⟩ := info_parts infoE8
  have h := run_make (P := Tryd.prog) w 46 5 i (.int .u8 0) Tryd.underlying46 hi hz .i64 .i64 (n : Int) ((n : Int) + 16) (by omega) (by omega) (by rw [hby]; omega) (by omega)
  have e1 : ((n : Int) + 16).toNat = n + 16 := by omega
  rw [h, hs, e1]
  simp only [Int.toNat_natCast, Nat.mul_one]
  rw [show (Value.int .u8 0).cells = #[Value.int .u8 0] from rfl, made_ints]
/-- What has been made of the row while streaming. -/
def strZ (B : Nat → List Int) (text : List Int) (n k : Nat) : List Int := strL B text k ++ List.replicate (n - k) 0
theorem strZ_length (B : Nat → List Int) (text : List Int) (n k : Nat) (hk : k ≤ n) : (strZ B text n k).length = n := by simp [strZ, strL_length]; omega
theorem strZ_step (B : Nat → List Int) (text : List Int) (n k : Nat) (hk : k < n) : (strZ B text n k).set k (xb (text.getD k 0) ((B (1 + k / 64)).getD (k % 64) 0)) = strZ B text n (k + 1) := by
  unfold strZ
  rw [List.set_append, if_neg (by rw [strL_length]; omega), strL_length, Nat.sub_self, strL_succ, List.append_assoc]
  congr 1
  rw [show n - k = (n - (k + 1)) + 1 by omega, List.replicate_succ, List.set_cons_zero]
  rfl
set_option maxRecDepth 10000 in
set_option maxHeartbeats 2000000 in
theorem streamed_any (key nonce : List Int) (hk : key.length = 32) (hr : nonce.length = 12) (B : Nat → List Int) (hB : ∀ i, (B i).length = 64) (HC : Hid (ChaOk 59 key nonce B MixTab)) (hBb : ∀ i, Bytes (B i))
    (text : List Int) (n : Nat) (hn : text.length = n) (hn2 : n ≤ 65536) (htb : Bytes text) (tg to_ tcap : Nat) (w : World) (HS : Hid (Sl w tg to_ text)) (htc : n ≤ tcap) (htc2 : tcap ≤ 9223372036854775807) (HT : Hid (MixTab w)) :
    Calls Tryd.prog 43 #[.agg (Iv .u8 key), .agg (Iv .u8 nonce), .slice (some ⟨tg, to_, none⟩) n tcap] w fun e w' => ∃ g, e = .returned (.slice (some ⟨g, 0, none⟩) n (n + 16)) ∧ Own .u8 5 w.heap.size w' (.slice (some ⟨g, 0, none⟩) n (n + 16)) (strL B text n) ∧ Below w.heap.size w w' := by
  have hmk := make_room n hn2
  have hzv := zeroE64
  have hi32 : Hid ((Tryd.prog.info? 24).map (·.size) = some (Iv .u8 key).size) := by show _ = _; rw [Iv_size, hk]; exact infoE32
  have hi12 : Hid ((Tryd.prog.info? 57).map (·.size) = some (Iv .u8 nonce).size) := by show _ = _; rw [Iv_size, hr]; exact infoE12
  have hi64 : Hid (∀ l : List Int, l.length = 64 → (Tryd.prog.info? 76).map (·.size) = some (Iv .u8 l).size) := fun l hl => by rw [Iv_size, hl]; exact infoE64
  have hs64 : Hid (∀ l m : List Int, l.length = 64 → m.length = 64 → (Iv .u8 l).size = (Iv .u8 m).size) := fun l m hl hm => by rw [Iv_size, Iv_size, hl, hm]
  have htg := HS.out.1
  go_enter Tryd.func43, Tryd.ntmps43
  go_wp2
  obtain ⟨W, hW, g0, g1, g2, g3, hs, hBW⟩ := alloc4 w (.cells (Iv .u8 key) 24) (.cells (Iv .u8 nonce) 57) (.cells (Iv .u8 (List.replicate (n + 16) 0)) 5) (.cells (Iv .u8 (zeroL 64)) 76)
  rw [hW]
  clear hmk hzv hW
  have hown0 : Own .u8 5 w.heap.size W (.slice (some ⟨w.heap.size + 1 + 1, 0, none⟩) n (n + 16)) (strZ B text n 0) := by
    refine ⟨by rw [iv_length, strZ_length _ _ _ _ (Nat.zero_le _)]; omega, .inr ⟨w.heap.size + 1 + 1, n + 16, _, by rw [strZ_length _ _ _ _ (Nat.zero_le _)], by omega, g2, by rw [strZ_length _ _ _ _ (Nat.zero_le _)]; omega, by unfold maxLen; omega, by simp [Iv_size], ?_⟩⟩
    rw [strZ_length _ _ _ _ (Nat.zero_le _)]
    simp [Iv, iv, strZ, strL, List.take_replicate]
  go_loopw [18] (fun i wr => ∃ k : Nat, k ≤ n ∧ i = .int .i64 k ∧ RowAt wr w.heap.size .u8 key 24 ∧ RowAt wr (w.heap.size + 1) .u8 nonce 57 ∧ (∃ C, RowAt wr (w.heap.size + 1 + 1 + 1) .u8 C 76 ∧ C.length = 64 ∧ (0 < k → C = B (1 + (k - 1) / 64))) ∧ Own .u8 5 w.heap.size wr (.slice (some ⟨w.heap.size + 1 + 1, 0, none⟩) n (n + 16)) (strZ B text n k) ∧ Below w.heap.size w wr ∧ w.heap.size + 1 + 1 + 1 + 1 ≤ wr.heap.size) (fun i _ => n - (intOf i).toNat)
  case atStart => exact ⟨0, Nat.zero_le _, rfl, g0, g1, ⟨zeroL 64, g3, by simp [zeroL], fun h => absurd h (by omega)⟩, hown0, hBW, by omega⟩
  case round =>
    obtain ⟨k, hkn, rfl, r0, r1, ⟨C, r3, hCl, hCk⟩, hown, hbel, hsz⟩ := hrel
    have R0 : Hid _ := r0
    have R1 : Hid _ := r1
    have R3 : Hid _ := r3
    have HO : Hid _ := hown
    have HBL : Hid _ := hbel
    have HCK : Hid _ := hCk
    clear r0 r1 r3 hown hbel hown0 g0 g1 g2 g3 hBW hCk hs
    by_cases hlt : k < n
    · have hlti : (k : Int) < n := by omega
      obtain ⟨m, hm⟩ : ∃ m, m = k % 64 := ⟨_, rfl⟩
      have hmi : (k : Int) % 64 = (m : Int) := by omega
      have hm64 : m < 64 := by omega
      have HM : Hid (m = k % 64) := hm
      by_cases hk64 : m = 0
      · have hm0 : ((m : Int) = 0) := by omega
        have hm0' : ((k : Int) % 64 = 0) := by omega
        have hcast : Hid ((1 + (k : Int) / 64) = ((1 + k / 64 : Nat) : Int)) := by show _ = _; omega
        clear hmi hm
        go_wp2_with (with_reducible refine wpList_id ?_; first
          | refine wpList_load_row rfl 24 _ rfl w.heap.size rfl _ (Iv .u8 key) _ _ R0.out Tryd.underlying24 rfl hi32.out ?_
          | refine wpList_load_row rfl 57 _ rfl (w.heap.size + 1) rfl _ (Iv .u8 nonce) _ _ R1.out Tryd.underlying57 rfl hi12.out ?_)
        rw [hcast.out]
        refine (HC.out (1 + k / 64) wr (by omega) (MixTab.later HT.out HBL.out (Nat.le_refl _))).mono ?_
        rintro e w1 ⟨rfl, hb1⟩
        have Q3 : Hid _ := (hb1.block _ (by omega)).trans R3.out
        go_wp2_with (with_reducible refine wpList_id ?_; refine wpList_put_row rfl 76 _ _ rfl (w.heap.size + 1 + 1 + 1) (Iv .u8 (B (1 + k / 64))) rfl rfl _ _ Q3.out (hi64.out _ (hB _)) (hs64.out _ _ hCl (hB _)) (Iv_one _ _) (fun X hX => stop_here ?_))
        refine hid_mk ?_
        have X3 : Hid (X.heap[w.heap.size + 1 + 1 + 1]? = some (.cells (Iv .u8 (B (1 + k / 64))) 76)) := hX.here
        have X0 : Hid (X.heap[w.heap.size]? = some (.cells (Iv .u8 key) 24)) := (hX.far _ (by omega)).trans ((hb1.block _ (by omega)).trans R0.out)
        have X1 : Hid (X.heap[w.heap.size + 1]? = some (.cells (Iv .u8 nonce) 57)) := (hX.far _ (by omega)).trans ((hb1.block _ (by omega)).trans R1.out)
        have XB : Hid (Below w.heap.size w X) := hX.below _ _ (HBL.out.trans (hb1.mono (by omega))) (by omega)
        have XO : Hid (Own .u8 5 w.heap.size X (.slice (some ⟨w.heap.size + 1 + 1, 0, none⟩) n (n + 16)) (strZ B text n k)) := own_put (Own.later HO.out hb1) hX (by omega)
        have hXs : w.heap.size + 1 + 1 + 1 + 1 ≤ X.heap.size := by rw [hX.size]; have := hb1.size; omega
        have hmi : (k : Int) % 64 = (m : Int) := by have := HM.out; omega
        clear hk64 hm0 hm0' hcast hX hb1 Q3 R0 R1 R3 HO HBL
        have hcell : X.cell? ⟨w.heap.size + 1 + 1 + 1, m, none⟩ = some (.int .u8 ((B (1 + k / 64)).getD m 0)) := by rw [cell_of_row _ _ _ _ _ _ X3.out]; simp [Iv, hB, hm64]
        have htext : X.cell? ⟨tg, to_ + k, none⟩ = some (.int .u8 (text.getD k 0)) := (XB.out.cell (p := ⟨tg, to_ + k, none⟩) htg).trans (HS.out.2 k (by omega))
        have hoc := (Sl.of_own XO.out).2 k (by rw [strZ_length _ _ _ _ hkn]; exact hlt)
        rw [Nat.zero_add] at hoc
        have hof : X.frozen? ⟨w.heap.size + 1 + 1, k, none⟩ = false := own_free XO.out k
        have hbt := htb k
        have hbb := hBb (1 + k / 64) m
        have HST : Hid ((strZ B text n k).set k (xb (text.getD k 0) ((B (1 + k / 64)).getD m 0)) = strZ B text n (k + 1)) := by show _ = _; rw [HM.out]; exact strZ_step B text n k hlt
        have HOS := Own.set XO.out k (xb (text.getD k 0) ((B (1 + k / 64)).getD m 0))
        rw [HST.out] at HOS
        have HOS' : Hid _ := HOS
        have HC2 : Hid (B (1 + k / 64) = B (1 + (k + 1 - 1) / 64)) := by show _ = _; rw [Nat.add_sub_cancel]
        clear HST HOS
        generalize text.getD k 0 = tz at *
        generalize (B (1 + k / 64)).getD m 0 = bz at *
        generalize (strZ B text n k).getD k 0 = oz at *
        go_wp2
        refine wp_region_head 12 (by kernel_rfl) (by kernel_rfl) ?_
        simp only [List.take_succ_cons, List.take_zero, List.drop_succ_cons, List.drop_zero]
        repeat (go_big_quiet_step (fail))
        refine wpQuiet_nil ?_
        go_wp2
        go_roundw
        case rel =>
          refine ⟨k + 1, by omega, by go_num, ?_, ?_, ⟨_, ?_, hB (1 + k / 64), fun _ => HC2.out⟩, Own.drews HOS'.out 1, below_drews (XB.out.setCell (p := ⟨w.heap.size + 1 + 1, k, none⟩) (by show w.heap.size ≤ w.heap.size + 1 + 1; omega) _) 1, by simp; omega⟩
          · exact (heap_setCell_other X.drew _ _ _ (by simp; try omega)).trans X0.out
          · exact (heap_setCell_other X.drew _ _ _ (by simp; try omega)).trans X1.out
          · exact (heap_setCell_other X.drew _ _ _ (by simp; try omega)).trans X3.out
        case measure => simp [intOf]; omega
      · have hm0 : (((m : Int) = 0) = False) := by simp; omega
        have X := wr
        have hC := HCK.out (by omega)
        have hC2 : 1 + (k - 1) / 64 = 1 + k / 64 := by omega
        rw [hC2] at hC
        subst hC
        clear X
        obtain ⟨X, hX⟩ : ∃ X, X = wr := ⟨_, rfl⟩
        rw [← hX] at R0 R1 R3 HO HBL hsz ⊢
        have X3 : Hid (X.heap[w.heap.size + 1 + 1 + 1]? = some (.cells (Iv .u8 (B (1 + k / 64))) 76)) := R3.out
        have X0 : Hid (X.heap[w.heap.size]? = some (.cells (Iv .u8 key) 24)) := R0.out
        have X1 : Hid (X.heap[w.heap.size + 1]? = some (.cells (Iv .u8 nonce) 57)) := R1.out
        have XB : Hid (Below w.heap.size w X) := HBL.out
        have XO : Hid (Own .u8 5 w.heap.size X (.slice (some ⟨w.heap.size + 1 + 1, 0, none⟩) n (n + 16)) (strZ B text n k)) := HO.out
        have hXs := hsz
        clear hX R0 R1 R3 HO HBL hC2 hm
        have hcell : X.cell? ⟨w.heap.size + 1 + 1 + 1, m, none⟩ = some (.int .u8 ((B (1 + k / 64)).getD m 0)) := by rw [cell_of_row _ _ _ _ _ _ X3.out]; simp [Iv, hB, hm64]
        have htext : X.cell? ⟨tg, to_ + k, none⟩ = some (.int .u8 (text.getD k 0)) := (XB.out.cell (p := ⟨tg, to_ + k, none⟩) htg).trans (HS.out.2 k (by omega))
        have hoc := (Sl.of_own XO.out).2 k (by rw [strZ_length _ _ _ _ hkn]; exact hlt)
        rw [Nat.zero_add] at hoc
        have hof : X.frozen? ⟨w.heap.size + 1 + 1, k, none⟩ = false := own_free XO.out k
        have hbt := htb k
        have hbb := hBb (1 + k / 64) m
        have HST : Hid ((strZ B text n k).set k (xb (text.getD k 0) ((B (1 + k / 64)).getD m 0)) = strZ B text n (k + 1)) := by show _ = _; rw [HM.out]; exact strZ_step B text n k hlt
        have HOS := Own.set XO.out k (xb (text.getD k 0) ((B (1 + k / 64)).getD m 0))
        rw [HST.out] at HOS
        have HOS' : Hid _ := HOS
        have HC2 : Hid (B (1 + k / 64) = B (1 + (k + 1 - 1) / 64)) := by show _ = _; rw [Nat.add_sub_cancel]
        clear HST HOS
        generalize text.getD k 0 = tz at *
        generalize (B (1 + k / 64)).getD m 0 = bz at *
        generalize (strZ B text n k).getD k 0 = oz at *
        go_wp2
        refine wp_region_head 12 (by kernel_rfl) (by kernel_rfl) ?_
        simp only [List.take_succ_cons, List.take_zero, List.drop_succ_cons, List.drop_zero]
        repeat (go_big_quiet_step (fail))
        refine wpQuiet_nil ?_
        go_wp2
        go_roundw
        case rel =>
          refine ⟨k + 1, by omega, by go_num, ?_, ?_, ⟨_, ?_, hB (1 + k / 64), fun _ => HC2.out⟩, Own.drews HOS'.out 1, below_drews (XB.out.setCell (p := ⟨w.heap.size + 1 + 1, k, none⟩) (by show w.heap.size ≤ w.heap.size + 1 + 1; omega) _) 1, by simp; omega⟩
          · exact (heap_setCell_other X.drew _ _ _ (by simp; try omega)).trans X0.out
          · exact (heap_setCell_other X.drew _ _ _ (by simp; try omega)).trans X1.out
          · exact (heap_setCell_other X.drew _ _ _ (by simp; try omega)).trans X3.out
        case measure => simp [intOf]; omega
    · obtain rfl : k = n := by omega
      go_wp2
      go_ret
      refine ⟨_, rfl, ?_, HBL.out⟩
      have h := HO.out
      unfold strZ at h
      rw [Nat.sub_self, List.replicate_zero, List.append_nil] at h
      exact h
end Go.Proofs.YtfipcjchjpihkaaDoor
/- The model's 'l2Stream', 'l2Fill', 'l2Eight', 'l1Join' (of any two). -/
namespace Go.Proofs.YtfipcjchjpihkaaDoor
open Go.RowKit
set_option linter.unusedVariables false
theorem mixedF : Tryd.prog.follows .mixedOrders = true := by kernel_rfl
set_option maxHeartbeats 1000000 in
theorem l2Fill_any (l : List Int) (n : Nat) (hl : l.length = n) (hn : n ≤ 1000000) (g o c : Nat) (w : World) (HS : Hid (Sl w g o l)) :
    Calls Tryd.prog 50 #[.slice (some ⟨g, o, none⟩) n c] w fun e w' => ∃ v, e = .returned v ∧ Own .u8 5 w.heap.size w' v (fillL l) ∧ v.ownBlock ≠ none ∧ Below w.heap.size w w' := by
  have HO : Hid (Own .u8 5 w.heap.size (w.alloc (.cells #[] 5)) (.slice (some ⟨w.heap.size, 0, none⟩) 0 0) []) := Own.nil w (Nat.le_refl _)
  have HW : Hid (Below w.heap.size w (w.alloc (.cells #[] 5))) := (Below.refl _ _).alloc (Nat.le_refl _) _
  have HN : Hid (∀ j, j < n → (w.alloc (.cells #[] 5)).cell? ⟨g, o + j, none⟩ = some (.int .u8 (l.getD j 0))) := fun j hj => (Sl.later HS.out HW.out HS.out.1).2 j (by omega)
  have HL : Hid (l.length = n) := hl
  clear hl
  go_enter Tryd.func50, Tryd.ntmps50
  go_wp2_with (at_builtin; refine extend_law .u8 46 5 1 Tryd.underlying46 infoE8 (by decide) rfl (.tmp 4) (.tmp 5) rfl w.heap.size w _ _ [] g o n c l HL.out rfl rfl HO.out HW.out HW.out.size (by simp; omega) HN.out ?_; intro v2 w2 hown2 hbel2 _ hd2; refine stop_here ?_)
  refine hid_mk ?_
  have hne2 : v2.ownBlock ≠ none := grown_ne (v := .slice (some ⟨w.heap.size, 0, none⟩) 0 0) (by simp [Value.ownBlock]) hd2
  have HO2 : Hid _ := hown2
  have HB2 : Hid _ := hbel2
  have HE2 : Hid _ := hne2
  clear hown2 hbel2 hne2 hd2 HO HW HN
  go_wp2
  go_loopw [3] (fun v wr => ∃ k : Nat, k ≤ fillN n ∧ Own .u8 5 w.heap.size wr v (l ++ List.replicate k 0) ∧ v.ownBlock ≠ none ∧ Below w.heap.size w wr ∧ ∃ gg cc, v = .slice (some ⟨gg, 0, none⟩) (n + k) cc) (fun v _ => 2000000 - (match v with | .slice _ a _ => a | _ => 0))
  case atStart =>
    obtain ⟨gg, cc, hv, _⟩ := own_form HO2.out HE2.out
    refine ⟨0, Nat.zero_le _, by rw [List.replicate_zero, List.append_nil]; exact HO2.out, HE2.out, HB2.out, gg, cc, ?_⟩
    rw [hv]
    simp [HL.out]
  case round =>
    obtain ⟨k, hk, hown, hne, hbel, gg, cc, rfl⟩ := hrel
    have hsz := hbel.size
    have h16 := fillN_lt n
    have hfn : Hid (fillN n = (16 - n % 16) % 16) := rfl
    by_cases hlt : k < fillN n
    · have hm : (((n : Int) + (k : Int)) % 16 = 0) = False := by
        have := hfn.out
        simp
        omega
      have hm2 : (((n : Int) + (k : Int)) % 16 != 0) = true := by have := hfn.out; simp; omega
      have HS1 : Hid (l ++ List.replicate (k + 1) 0 = l ++ List.replicate k 0 ++ [0]) := by show _ = _; rw [List.replicate_succ', List.append_assoc]
      have HLL : Hid ((l ++ List.replicate k 0).length ≤ 100000000) := by show _ ≤ _; have := HL.out; simp; omega
      have HOO : Hid _ := hown
      have HNE : Hid _ := hne
      have HBB : Hid _ := hbel
      clear hown hne hbel
      go_wp2_with (at_builtin; refine push_law .u8 46 5 1 Tryd.underlying46 infoE8 (by decide) rfl (.tmp 11) (.tmp 12) rfl w.heap.size w wr _ (l ++ List.replicate k 0) _ rfl rfl HOO.out HBB.out hsz HLL.out ?_; intro v1 w1 hown1 hbel1 _ hd1; refine stop_here ?_)
      refine hid_mk ?_
      rw [← HS1.out] at hown1
      have hne1 : v1.ownBlock ≠ none := grown_ne HNE.out hd1
      obtain ⟨g1, c1, hv1, _⟩ := own_form hown1 hne1
      have hln : (l ++ List.replicate (k + 1) 0).length = n + (k + 1) := by have := HL.out; simp; omega
      rw [hln] at hv1
      have K1 : Hid _ := hown1
      have K2 : Hid _ := hbel1
      have K3 : Hid _ := hne1
      clear hown1 hbel1 hne1 hd1 HOO HNE HBB hln
      subst hv1
      go_wp2
      go_roundw
      case rel => exact ⟨k + 1, by omega, K1.out, K3.out, K2.out, g1, c1, rfl⟩
      case measure => show 2000000 - (n + (k + 1)) < 2000000 - (n + k); omega
    · obtain rfl : k = fillN n := by omega
      have hm : ((n : Int) + ((fillN n : Nat) : Int)) % 16 = 0 := by
        have := hfn.out
        omega
      have hm2 : (((n : Int) + ((fillN n : Nat) : Int)) % 16 != 0) = false := by simp; omega
      go_wp2
      go_ret
      refine ⟨_, rfl, ?_, hne, hbel⟩
      unfold fillL
      rw [HL.out]
      exact hown
set_option maxHeartbeats 1000000 in
theorem join_own (ga oa ca gb ob cb : Nat) (la lb : List Int) (n m : Nat) (hla : la.length = n) (hlb : lb.length = m) (hlen : n + m ≤ 100000000) (w : World) (ha : Sl w ga oa la) (hb : Sl w gb ob lb) :
    Calls Tryd.prog 31 #[.slice (some ⟨ga, oa, none⟩) n ca, .slice (some ⟨gb, ob, none⟩) m cb] w fun e w' => ∃ x, e = .returned x ∧ Own .u8 5 w.heap.size w' x (la ++ lb) ∧ Below w.heap.size w w' := by
  have HA : Hid (Sl w ga oa la) := ha
  have HB : Hid (Sl w gb ob lb) := hb
  have HO : Hid (Own .u8 5 w.heap.size (w.alloc (.cells #[] 5)) (.slice (some ⟨w.heap.size, 0, none⟩) 0 0) []) := Own.nil w (Nat.le_refl _)
  have HW : Hid (Below w.heap.size w (w.alloc (.cells #[] 5))) := (Below.refl _ _).alloc (Nat.le_refl _) _
  have HS : Hid (w.heap.size ≤ (w.alloc (.cells #[] 5)).heap.size) := HW.out.size
  have HN : Hid (∀ j, j < n → (w.alloc (.cells #[] 5)).cell? ⟨ga, oa + j, none⟩ = some (.int .u8 (la.getD j 0))) := fun j hj => (ha.later HW.out ha.1).2 j (by omega)
  have HL : Hid (la.length = n) := hla
  have HM : Hid (lb.length = m) := hlb
  clear ha hb hla hlb
  go_enter Tryd.func31, Tryd.ntmps31
  go_wp2_with (first
    | (at_builtin; refine extend_law .u8 46 5 1 Tryd.underlying46 infoE8 (by decide) rfl (.tmp 6) (.tmp 7) rfl w.heap.size w _ _ [] ga oa n ca la HL.out rfl rfl HO.out HW.out HS.out (by simp; omega) HN.out ?_; intro v2 w2 hown2 hbel2 _ _
       have HN2 : Hid (∀ j, j < m → w2.cell? ⟨gb, ob + j, none⟩ = some (.int .u8 (lb.getD j 0))) := fun j hj => (HB.out.later hbel2 HB.out.1).2 j (by have := HM.out; omega))
    | (at_builtin; refine extend_law .u8 46 5 1 Tryd.underlying46 infoE8 (by decide) rfl (.tmp 9) (.tmp 10) rfl w.heap.size w _ _ la gb ob m cb lb HM.out rfl rfl hown2 hbel2 hbel2.size (by have := HL.out; omega) HN2.out ?_; intro v3 w3 hown3 hbel3 _ _))
  go_ret
  exact ⟨_, rfl, hown3, hbel3⟩
def le8P (n k : Nat) : List Int := (List.range k).map fun i => (n : Int) / 256 ^ i % 256
theorem le8P_succ (n k : Nat) : le8P n (k + 1) = le8P n k ++ [(n : Int) / 256 ^ k % 256] := by simp [le8P, List.range_succ]
set_option maxHeartbeats 1000000 in
theorem l2Eight_any (n : Nat) (hn : n ≤ 1000000) (w : World) :
    Calls Tryd.prog 51 #[.int .i64 n] w fun e w' => ∃ v, e = .returned v ∧ Own .u8 5 w.heap.size w' v (le8 n) ∧ Below w.heap.size w w' := by
  go_enter Tryd.func51, Tryd.ntmps51
  go_wp2
  go_loopw [0, 3, 4] (fun x v i wr => ∃ k : Nat, k ≤ 8 ∧ x = .int .i64 ((n / 256 ^ k : Nat) : Int) ∧ i = .int .i64 k ∧ Own .u8 5 w.heap.size wr v (le8P n k) ∧ Below w.heap.size w wr) (fun _ _ i _ => 8 - (intOf i).toNat)
  case atStart => exact ⟨0, Nat.zero_le _, by simp, rfl, Own.nil w (Nat.le_refl _), (Below.refl _ _).alloc (Nat.le_refl _) _⟩
  case round =>
    obtain ⟨k, hk, rfl, rfl, hown, hbel⟩ := hrel
    have hsz := hbel.size
    by_cases hlt : k < 8
    · have HS1 : Hid (le8P n (k + 1) = le8P n k ++ [((n / 256 ^ k : Nat) : Int) % 256]) := by show _ = _; rw [le8P_succ]; simp
      have HLL : Hid ((le8P n k).length ≤ 100000000) := by show _ ≤ _; simp [le8P]; omega
      have HQ : Hid (((n / 256 ^ (k + 1) : Nat) : Int) = ((n / 256 ^ k : Nat) : Int) / 256) := by show _ = _; rw [Nat.pow_succ, ← Nat.div_div_eq_div_mul]; omega
      have hqb : n / 256 ^ k ≤ 1000000 := Nat.le_trans (Nat.div_le_self _ _) hn
      have HOO : Hid _ := hown
      have HBB : Hid _ := hbel
      clear hown hbel
      generalize n / 256 ^ k = q at *
      generalize le8P n k = L at *
      have hq2 : ((q : Int) % 256) % 256 = (q : Int) % 256 := by omega
      go_wp2_with (at_builtin; refine push_law .u8 46 5 1 Tryd.underlying46 infoE8 (by decide) rfl (.tmp 10) (.tmp 14) rfl w.heap.size w wr _ L _ rfl rfl HOO.out HBB.out hsz HLL.out ?_; intro v1 w1 hown1 hbel1 _ _; refine stop_here ?_)
      refine hid_mk ?_
      have K1 : Hid (Own .u8 5 w.heap.size w1 v1 (le8P n (k + 1))) := by show Own _ _ _ _ _ _; rw [HS1.out]; exact hown1
      have K2 : Hid _ := hbel1
      clear hown1 hbel1 HOO HBB
      go_wp2
      go_roundw
      case rel => exact ⟨k + 1, by omega, by rw [HQ.out], by go_num, K1.out, K2.out⟩
      case measure => simp [intOf]; omega
    · obtain rfl : k = 8 := by omega
      go_wp2
      go_ret
      exact ⟨_, rfl, hown, hbel⟩
end Go.Proofs.YtfipcjchjpihkaaDoor
/- The model's 'l2Stream'. -/
namespace Go.Proofs.YtfipcjchjpihkaaDoor
open Go.RowKit
set_option linter.unusedVariables false
theorem at_norm {K : Act → World → Prop} {Q : Exit → Act → World → Prop} {a : Act} {w : World} (h : K a w) : atEnd K Q .normal a w := h
set_option maxRecDepth 10000 in
set_option maxHeartbeats 2000000 in
theorem l2Stream_any (key nonce : List Int) (hk : key.length = 32) (hr : nonce.length = 12) (B : Nat → List Int) (hB : ∀ i, (B i).length = 64) (HC : Hid (ChaOk 49 key nonce B (fun _ => True))) (hBb : ∀ i, Bytes (B i))
    (text : List Int) (n : Nat) (hn : text.length = n) (hn2 : n ≤ 65536) (htb : Bytes text) (tg to_ tcap : Nat) (w : World) (HS : Hid (Sl w tg to_ text)) (htc : n ≤ tcap) (htc2 : tcap ≤ 9223372036854775807) :
    Calls Tryd.prog 39 #[.agg (Iv .u8 key), .agg (Iv .u8 nonce), .slice (some ⟨tg, to_, none⟩) n tcap] w fun e w' => ∃ v, e = .returned v ∧ Own .u8 5 w.heap.size w' v (strL B text n) ∧ v.ownBlock ≠ none ∧ Below w.heap.size w w' := by
  have hi32 : Hid ((Tryd.prog.info? 24).map (·.size) = some (Iv .u8 key).size) := by show _ = _; rw [Iv_size, hk]; exact infoE32
  have hi12 : Hid ((Tryd.prog.info? 57).map (·.size) = some (Iv .u8 nonce).size) := by show _ = _; rw [Iv_size, hr]; exact infoE12
  have hi64 : Hid (∀ l : List Int, l.length = 64 → (Tryd.prog.info? 76).map (·.size) = some (Iv .u8 l).size) := fun l hl => by rw [Iv_size, hl]; exact infoE64
  have hz64 : Hid (∀ l : List Int, l.length = 64 → (Iv .u8 (zeroL 64)).size = (Iv .u8 l).size) := fun l hl => by rw [Iv_size, Iv_size, hl]; simp [zeroL]
  have htg := HS.out.1
  obtain ⟨W, hW, g0, g1, g2, hs, hBW⟩ := alloc3 w (.cells (Iv .u8 key) 24) (.cells (Iv .u8 nonce) 57) (.cells #[] 5)
  have hown0 : Own .u8 5 (w.heap.size + 1 + 1) W (.slice (some ⟨w.heap.size + 1 + 1, 0, none⟩) 0 0) (strL B text 0) := ⟨by simp [iv_length, strL], .inr ⟨w.heap.size + 1 + 1, 0, #[], by simp [strL], Nat.le_refl _, g2, by simp [strL], by unfold maxLen; omega, rfl, by simp [strL, iv]⟩⟩
  have HO0 : Hid _ := hown0
  have HW : Hid _ := hW
  have G0 : Hid _ := g0
  have G1 : Hid _ := g1
  have GB : Hid _ := hBW
  clear hown0 hW g0 g1 g2 hBW
  go_enter Tryd.func39, Tryd.ntmps39
  go_wp2
  rw [HW.out]
  go_loopw [7, 8] (fun v i wr => ∃ q : Nat, i = .int .i64 ((64 * q : Nat) : Int) ∧ 64 * q < n + 64 ∧ Own .u8 5 (w.heap.size + 1 + 1) wr v (strL B text (min (64 * q) n)) ∧ v.ownBlock ≠ none ∧ RowAt wr w.heap.size .u8 key 24 ∧ RowAt wr (w.heap.size + 1) .u8 nonce 57 ∧ Below w.heap.size w wr ∧ w.heap.size + 1 + 1 + 1 ≤ wr.heap.size) (fun _ i _ => n + 64 - (intOf i).toNat)
  case atStart => exact ⟨0, rfl, by omega, by rw [show min (64 * 0) n = 0 by omega]; exact HO0.out, by simp [Value.ownBlock], G0.out, G1.out, GB.out, by omega⟩
  case round =>
    obtain ⟨q, rfl, hq, hown, hne, r0, r1, hbel, hsz⟩ := hrel
    have R0 : Hid _ := r0
    have R1 : Hid _ := r1
    have HO : Hid _ := hown
    have HE : Hid _ := hne
    have HBL : Hid _ := hbel
    clear r0 r1 hown hne hbel HO0 G0 G1 GB HW
    by_cases hlt : 64 * q < n
    · have hlti : ((64 * q : Nat) : Int) < n := by omega
      have hcast : Hid (∀ x : Int, x = ((64 * q : Nat) : Int) → 1 + x / 64 = ((1 + q : Nat) : Int)) := fun x hx => by omega
      rw [show min (64 * q) n = 64 * q + 0 by omega] at HO
      obtain ⟨a, ha⟩ : ∃ a, a = 64 * q := ⟨_, rfl⟩
      rw [← ha] at HO hlti hcast ⊢
      have ha2 : a < n := by omega
      have HA : Hid (a = 64 * q) := ha
      clear ha hlt hq
      go_wp2_with (with_reducible refine wpList_id ?_; first
        | refine wpList_load_row rfl 24 _ rfl w.heap.size rfl _ (Iv .u8 key) _ _ R0.out Tryd.underlying24 rfl hi32.out ?_
        | refine wpList_load_row rfl 57 _ rfl (w.heap.size + 1) rfl _ (Iv .u8 nonce) _ _ R1.out Tryd.underlying57 rfl hi12.out ?_)
      rw [hcast.out _ rfl]
      have hq2 : 1 + q ≤ 2000 := by have := HA.out; omega
      refine (HC.out (1 + q) wr hq2 trivial).mono ?_
      rintro e w3 ⟨rfl, hb3⟩
      have hs3 := hb3.size
      have hzw := zeroE64
      have K3 : Hid ((w3.alloc (.cells (Iv .u8 (zeroL 64)) 76)).heap[w3.heap.size]? = some (.cells (Iv .u8 (zeroL 64)) 76)) := heap_alloc_new _ _
      go_wp2_with (with_reducible refine wpList_id ?_; refine wpList_put_row rfl 76 _ _ rfl w3.heap.size (Iv .u8 (B (1 + q))) rfl rfl _ _ K3.out (hi64.out _ (hB _)) (hz64.out _ (hB _)) (Iv_one _ _) (fun X hX => stop_here ?_))
      refine hid_mk ?_
      have xs : X.heap.size = w3.heap.size + 1 := by rw [hX.size]; simp
      have XR : Hid (X.heap[w3.heap.size]? = some (.cells (Iv .u8 (B (1 + q))) 76)) := hX.here
      have X0 : Hid (X.heap[w.heap.size]? = some (.cells (Iv .u8 key) 24)) := (hX.far _ (by omega)).trans ((heap_alloc_old _ _ (by omega)).trans ((hb3.block _ (by omega)).trans R0.out))
      have X1 : Hid (X.heap[w.heap.size + 1]? = some (.cells (Iv .u8 nonce) 57)) := (hX.far _ (by omega)).trans ((heap_alloc_old _ _ (by omega)).trans ((hb3.block _ (by omega)).trans R1.out))
      have XB : Hid (Below w.heap.size w X) := hX.below _ _ ((HBL.out.trans (hb3.mono (by omega))).alloc (by omega) _) (by omega)
      obtain ⟨go0, co0, rfl, hgo0, _, _, hgo1, hob0⟩ := own_form HO.out HE.out
      have XO : Hid (Own .u8 5 (w.heap.size + 1 + 1) X (.slice (some ⟨go0, 0, none⟩) (strL B text (a + 0)).length co0) (strL B text (a + 0))) := own_put (Own.later (Own.later HO.out hb3) ((Below.refl _ _).alloc (Nat.le_refl _) _)) hX (by omega)
      have XN : Hid ((Value.slice (some ⟨go0, 0, none⟩) (strL B text (a + 0)).length co0).ownBlock ≠ some w3.heap.size) := by show _ ≠ _; rw [hob0]; intro h; cases h; omega
      obtain ⟨gb, egb⟩ : ∃ x, x = w3.heap.size := ⟨_, rfl⟩
      rw [← egb] at XR xs hs3 XN ⊢
      clear egb hX hb3 K3 R0 R1 HO HE HBL hzw
      generalize Value.slice (some ⟨go0, 0, none⟩) (strL B text (a + 0)).length co0 = v0 at *
      go_wp2
      go_loopw [7, 10] (fun v i wx => ∃ k : Nat, k ≤ 64 ∧ a + k ≤ n ∧ i = .int .i64 k ∧ Own .u8 5 (w.heap.size + 1 + 1) wx v (strL B text (a + k)) ∧ v.ownBlock ≠ none ∧ v.ownBlock ≠ some gb ∧ RowAt wx gb .u8 (B (1 + q)) 76 ∧ RowAt wx w.heap.size .u8 key 24 ∧ RowAt wx (w.heap.size + 1) .u8 nonce 57 ∧ Below w.heap.size w wx ∧ gb + 1 ≤ wx.heap.size) (fun _ i _ => 64 - (intOf i).toNat)
      case atStart => exact ⟨0, by omega, by omega, rfl, XO.out, by rw [hob0]; simp, XN.out, XR.out, X0.out, X1.out, XB.out, by omega⟩
      case round =>
        obtain ⟨k, hk64, hkn, rfl, hown, hne, hngb, rr, r0, r1, hbel, hsz2⟩ := hrel
        have HO : Hid _ := hown
        have HE : Hid _ := hne
        have HG : Hid _ := hngb
        have RR : Hid _ := rr
        have R0 : Hid _ := r0
        have R1 : Hid _ := r1
        have HBL : Hid _ := hbel
        clear hown hne hngb rr r0 r1 hbel XO XR X0 X1 XB XN
        by_cases hkk : k < 64
        · by_cases hak : a + k < n
          · have hki : (k : Int) < 64 := by omega
            have haki : (a : Int) + (k : Int) < n := by omega
            have hcell : wr.cell? ⟨gb, k, none⟩ = some (.int .u8 ((B (1 + q)).getD k 0)) := by rw [cell_of_row _ _ _ _ _ _ RR.out]; simp [Iv, hB, hkk]
            have htext : wr.cell? ⟨tg, to_ + (a + k), none⟩ = some (.int .u8 (text.getD (a + k) 0)) := (HBL.out.cell (p := ⟨tg, to_ + (a + k), none⟩) htg).trans (HS.out.2 (a + k) (by omega))
            have hbt := htb (a + k)
            have hbb := hBb (1 + q) k
            have HST : Hid (strL B text (a + (k + 1)) = strL B text (a + k) ++ [xb (text.getD (a + k) 0) ((B (1 + q)).getD k 0)]) := by
              show _ = _
              have := HA.out
              rw [← Nat.add_assoc, strL_succ, show (a + k) / 64 = q by omega, show (a + k) % 64 = k by omega]
            have HLL : Hid ((strL B text (a + k)).length ≤ 100000000) := by show _ ≤ _; rw [strL_length]; omega
            have hsb : w.heap.size + 1 + 1 ≤ wr.heap.size := by omega
            have HBX : Hid (Below (w.heap.size + 1 + 1) wr.drew wr.drew) := Below.refl _ _
            generalize text.getD (a + k) 0 = tz at *
            generalize (B (1 + q)).getD k 0 = bz at *
            generalize strL B text (a + k) = L at *
            go_wp2
            refine wp_region_late 11 (fun _ => True) [(.held, [0]), (.exact, [1, 2, 3, 4, 5, 6, 7, 8, 9, 10]), (.tail, [11]), (.tail, [12]), (.tail, [13])] mixedF (by kernel_rfl) trivial ?_
            simp only [wpRuns, opsAt_cons, opsAt_nil, nthOp_zero, nthOp_succ, List.cons_append, List.nil_append]
            repeat (go_big_quiet_step (fail))
            refine wpQuiet_nil ?_
            repeat (go_big_quiet_step (fail))
            refine wpQuiet_nil ?_
            go_wp2_with fail
            refine ⟨trivial, ?_⟩
            go_wp2_with (at_builtin; refine push_law .u8 46 5 1 Tryd.underlying46 infoE8 (by decide) rfl (.tmp 37) (.tmp 48) rfl (w.heap.size + 1 + 1) wr.drew wr.drew _ L _ rfl rfl (Own.drews HO.out 1) HBX.out hsb HLL.out ?_; intro v1 w1 hown1 hbel1 hgr1 hd1; refine stop_here ?_)
            refine hid_mk ?_
            have K1 : Hid (Own .u8 5 (w.heap.size + 1 + 1) w1 v1 (strL B text (a + (k + 1)))) := by show Own _ _ _ _ _ _; rw [HST.out]; exact hown1
            have K2 : Hid (v1.ownBlock ≠ none) := grown_ne HE.out hd1
            have K3 : Hid (v1.ownBlock ≠ some gb) := by
              show _ ≠ _
              rcases hd1 with h | h
              · rw [h]; exact HG.out
              · rw [h]; intro h2; have h3 : wr.heap.size + 1 = gb := by simpa using h2
                omega
            have K4 : Hid (w1.heap[gb]? = some (.cells (Iv .u8 (B (1 + q))) 76)) := (hgr1.block gb (by show gb < wr.heap.size; omega) (fun e => HG.out e.symm)).trans RR.out
            have K5 : Hid (w1.heap[w.heap.size]? = some (.cells (Iv .u8 key) 24)) := (hbel1.block _ (by omega)).trans R0.out
            have K6 : Hid (w1.heap[w.heap.size + 1]? = some (.cells (Iv .u8 nonce) 57)) := (hbel1.block _ (by omega)).trans R1.out
            have K7 : Hid (Below w.heap.size w w1) := (below_drews HBL.out 1).trans (hbel1.mono (by omega))
            have hs1 : wr.heap.size ≤ w1.heap.size := hbel1.size
            clear hown1 hbel1 hgr1 hd1 HO HE HG RR R0 R1 HBL
            go_wp2_with fail
            refine at_norm ?_
            go_wp2_with fail
            first
              | refine ⟨trivial, calm_normal ?_⟩
              | refine at_norm (calm_normal ?_)
            go_wp2
            go_roundw
            case rel => exact ⟨k + 1, by omega, by omega, by go_num, K1.out, K2.out, K3.out, K4.out, K5.out, K6.out, K7.out, by omega⟩
            case measure => simp [intOf]; omega
          · have hki : (k : Int) < 64 := by omega
            have haki : ((a : Int) + (k : Int) < n) = False := by simp; omega
            have hmin : Hid (min (64 * (q + 1)) n = a + k) := by show _ = _; have := HA.out; omega
            go_wp2
            go_roundw
            case rel => exact ⟨q + 1, by have := HA.out; rw [this]; go_num, by have := HA.out; omega, by rw [hmin.out]; exact HO.out, HE.out, R0.out, R1.out, HBL.out, by omega⟩
            case measure => simp [intOf]; omega
        · obtain rfl : k = 64 := by omega
          have hmin : Hid (min (64 * (q + 1)) n = a + 64) := by show _ = _; have := HA.out; omega
          go_wp2
          go_roundw
          case rel => exact ⟨q + 1, by have := HA.out; rw [this]; go_num, by have := HA.out; omega, by rw [hmin.out]; exact HO.out, HE.out, R0.out, R1.out, HBL.out, by omega⟩
          case measure => simp [intOf]; omega
    · have hlti : ((64 * (q : Int) < n) = False) := by simp; omega
      rw [show min (64 * q) n = n by omega] at HO
      go_wp2
      go_ret
      exact ⟨_, rfl, Own.mono HO.out (by omega), HE.out, HBL.out⟩
end Go.Proofs.YtfipcjchjpihkaaDoor
/- 'append(out, make([]T, m)...)': the model's own form: an integer in the place of the second slice. Nothing of the program. -/
namespace Go.Proofs.YtfipcjchjpihkaaDoor
open Go.RowKit
set_option linter.unusedVariables false
set_option linter.unusedSimpArgs false
theorem zeroCells_one (k : IntKind) (m : Nat) : Builtin.zeroCells (Value.int k 0).cells m = (List.replicate m (Value.int k 0)).toArray := by
  apply Array.ext'
  simp only [Builtin.zeroCells, Value.cells, List.size_toArray, List.length_cons, List.length_nil, Nat.zero_add, Nat.mul_one, Nat.mod_one, Array.toList_map, Array.toList_range]
  apply List.ext_getElem
  · simp
  · intro i h1 h2
    simp
theorem append_make_eq {P : Program} (w : World) (t ty e it : TypeId) (i : TypeInfo) (k : IntKind) (ht : P.underlying t = some (.slice e)) (hi : P.info? e = some i) (hz : i.zero = some (.int k 0)) (hs : i.size = 1) (hby : i.bytes ≤ 8)
    (hit : P.underlying it = some (.int .i64)) (base : Option Addr) (sLen sCap m c : Nat) (a : Addr) (hm : m ≤ 1000) (hsl : sLen ≤ 1000000000) (hfit : sCap < sLen + m → Builtin.nextslicecap (sLen + m) sCap * i.bytes ≤ 281474976710656)
    (hzero : ∀ j, j < m → w.cell? (a.add j) = some (.int k 0)) (hold : ∃ cs, (Builtin.firstCells 1 sLen (.slice base sLen sCap)).run P w.drew = .ok cs w.drew) :
    (Builtin.append_ #[t, it] ty #[.slice base sLen sCap, .int .i64 m]).run P w = (Builtin.append_ #[t, t] ty #[.slice base sLen sCap, .slice (some a) m c]).run P w := by
  have hnews : ∀ j v, (List.replicate m (Value.int k 0))[j]? = some v → w.cell? (a.add j) = some v := by
    intro j v hj
    have hj2 : j < m := by have := (List.getElem?_eq_some_iff.1 hj).1; simpa using this
    rw [hzero j hj2]
    simp [List.getElem?_replicate, hj2] at hj
    rw [hj]
  have hl : (List.replicate m (Value.int k 0)).length = m * i.size := by simp [hs]
  have hf0 := run_firstCells_some (P := P) w i.size m a m c (List.replicate m (Value.int k 0)) hl hnews
  have hf1 := run_firstCells_some (P := P) w.drew i.size m a m c (List.replicate m (Value.int k 0)) hl (by simpa using hnews)
  have hwr : IntKind.i64.wrap (m : Int) = m := by
    have h1 : (m : Int) % 18446744073709551616 = m := by omega
    simp [IntKind.wrap, IntKind.bits, IntKind.signed, h1]
    try omega
  have hneg : ¬ ((m : Int) < 0) := by omega
  have hb48 : ¬ (281474976710656 < (m : Int) * (i.bytes : Int)) := by
    have h1 : m * i.bytes ≤ 1000 * 8 := Nat.mul_le_mul hm hby
    have h2 : ((m * i.bytes : Nat) : Int) ≤ 8000 := by omega
    rw [Int.natCast_mul] at h2
    omega
  have hzc := zeroCells_one k m
  rw [hs] at hf0 hf1
  obtain ⟨cs, hcs⟩ := hold
  by_cases h0 : m = 0
  · subst h0
    have hl0 : ∀ w' : World, (Builtin.firstCells 1 0 (.slice (some a) 0 c)).run P w' = .ok #[] w' := fun w' => by simp [Builtin.firstCells, loadCells, loadCellsFrom]
    have hwr0 : IntKind.i64.wrap 0 = 0 := by decide
    by_cases hroom : sLen ≤ sCap
    · simp [Builtin.append_, run_underlying ht, run_underlying hit, sizeOf, typeInfo, zeroValue, hi, hz, Builtin.lenOf, hroom, hwr0, asInt, asIntOf, hs, hl0]
    · have h63' : ¬ (9223372036854775807 < (sLen : Int)) := by omega
      have h48' : ¬ (281474976710656 < Builtin.nextslicecap sLen sCap * i.bytes) := by have := hfit (by omega); simp only [Nat.add_zero] at this; omega
      simp [Builtin.append_, run_underlying ht, run_underlying hit, sizeOf, typeInfo, zeroValue, hi, hz, Builtin.lenOf, hroom, hwr0, asInt, asIntOf, hs, h63', h48', Question.forced, hl0, newRow, hcs]
  by_cases hroom : sLen + m ≤ sCap
  · simp [Builtin.append_, run_underlying ht, run_underlying hit, sizeOf, typeInfo, zeroValue, hi, hz, Builtin.lenOf, hroom, hwr, hneg, hb48, asInt, asIntOf, h0, hs, hf0, hzc]
  · have h63' : ¬ (9223372036854775807 < ((sLen : Int) + (m : Int))) := by omega
    have h48' : ¬ (281474976710656 < Builtin.nextslicecap (sLen + m) sCap * i.bytes) := by have := hfit (by omega); omega
    simp [Builtin.append_, run_underlying ht, run_underlying hit, sizeOf, typeInfo, zeroValue, hi, hz, Builtin.lenOf, hroom, hwr, hneg, hb48, asInt, asIntOf, h0, hs, h63', h48', Question.forced, hf1, hzc, newRow, hcs]
/-- 'out = append(out, make([]T, m)...)', where the memory holds m zeros somewhere. -/
theorem zeros_law {P : Program} {ops : Array Oper} {rest : List Oper} {o : Oper} {a : Act} {Q : Exit → Act → World → Prop} (k : IntKind) (t e it : TypeId) (bytes : Nat) (ht : P.underlying t = some (.slice e))
    (hinfo : (P.info? e).map (fun i => (i.zero, i.size, i.bytes)) = some (some (.int k 0), 1, bytes)) (hby : bytes ≤ 8) (hit : P.underlying it = some (.int .i64)) (hgd : o.guard = none) (s x : Operand) (ho : o.op = .call { callee := .builtin .append, args := #[s, x], argTypes := #[t, it] })
    (base : Nat) (w0 wr : World) (v : Value) (l : List Int) (b o' m : Nat) (hs : a.eval s = v) (hx : a.eval x = .int .i64 m) (hown : Own k e base wr v l) (hbel : Below base w0 wr) (hbase : base ≤ wr.heap.size) (hm : m ≤ 1000) (hlen : l.length ≤ 100000000)
    (hnews : ∀ j, j < m → wr.cell? ⟨b, o' + j, none⟩ = some (.int k 0))
    (h : ∀ v' w', Own k e base w' v' (l ++ List.replicate m 0) → Below base w0 w' → wr.grownBy w' v.ownBlock → (v'.ownBlock = v.ownBlock ∨ v'.ownBlock = some wr.heap.size) → wpList P ops Q rest (a.put o.dst v') w') : wpList P ops Q (o :: rest) a wr := by
  obtain ⟨i, hi, hz, hsz, hb⟩ := info_parts hinfo
  have hadd : ∀ j, (⟨b, o', none⟩ : Addr).add j = ⟨b, o' + j, none⟩ := fun j => by unfold Addr.add; split <;> simp_all
  have g1 : ∀ j u, (iv k (List.replicate m 0))[j]? = some u → wr.cell? ((⟨b, o', none⟩ : Addr).add j) = some u := by
    intro j u hj
    have hj' : j < m := by
      have := (List.getElem?_eq_some_iff.1 hj).1
      rw [iv_length] at this
      simpa using this
    rw [hadd, hnews j hj']
    rw [iv_get] at hj
    simp [hj'] at hj
    rw [hj]
  have g2 : l.length + m ≤ maxLen := by unfold maxLen; omega
  have g3 : (l.length + m) * bytes ≤ 140737488355328 := by
    have : (l.length + m) * bytes ≤ (l.length + m) * 8 := Nat.mul_le_mul_left _ hby
    omega
  have g4 : (iv k (List.replicate m 0)).length = m * 1 := by rw [iv_length]; simp
  obtain ⟨v', w', hr, h1, h2, _⟩ := run_append_own (P := P) wr base t o.type e i (.int k 0) 1 bytes ht hi hz hsz hb rfl (by decide) v l.length (iv k l) hown ⟨b, o', none⟩ m m (iv k (List.replicate m 0)) g4 g1 (iv_one k _) g2 g3 hbase
  have h4 := append_block ht hi hz hsz hb rfl hown g4 g1 (iv_one k _) g2 g3 hr
  have hr2 : (Builtin.append_ #[t, it] o.type #[v, .int .i64 m]).run P wr = .ok v' w' := by
    rw [← hr]
    obtain ⟨_, ⟨rfl, hl0⟩ | ⟨g, cap, cur, rfl, hbg, hg, hnc, hcm, hcs, htake⟩⟩ := hown
    · exact append_make_eq wr t o.type e it i k ht hi hz hsz (by rw [hb]; exact hby) hit none 0 0 m m ⟨b, o', none⟩ hm (by omega) (fun _ => by
        have hn : Builtin.nextslicecap (0 + m) 0 ≤ 0 + m := by unfold Builtin.nextslicecap; split <;> omega
        have := Nat.mul_le_mul hn (show i.bytes ≤ 8 by rw [hb]; exact hby)
        omega) (fun j hj => by rw [hadd]; exact hnews j hj) ⟨#[], by simp [Builtin.firstCells]⟩
    · have hold : ∀ j u, (iv k l)[j]? = some u → wr.drew.cell? ((⟨g, 0, none⟩ : Addr).add j) = some u := by
        intro j u hj
        have := World.ownsRow.cells (w := wr) (base := base) (e := e) (size := 1) (v := .slice (some ⟨g, 0, none⟩) l.length cap) (n := l.length) (xs := iv k l) (g := g) ⟨by simp [iv_length], .inr ⟨g, cap, cur, rfl, hbg, hg, hnc, hcm, hcs, htake⟩⟩ rfl j u hj
        simpa using this
      exact append_make_eq wr t o.type e it i k ht hi hz hsz (by rw [hb]; exact hby) hit (some ⟨g, 0, none⟩) l.length cap m m ⟨b, o', none⟩ hm (by omega) (fun hlt => growslice_fits (by omega) (by rw [hb]; exact g3)) (fun j hj => by rw [hadd]; exact hnews j hj)
        ⟨_, run_firstCells_some (P := P) wr.drew 1 l.length ⟨g, 0, none⟩ l.length cap (iv k l) (by simp [iv_length]) hold⟩
  refine wpList_plain hgd fun K hK => ?_
  unfold Oper.wp execOp
  simp only [ho, resolve, invoke, builtin, Sem.run_bind, Sem.run_pure, Result.andThen_ok, List.map_toArray, List.map_cons, List.map_nil, hs, hx, hr2]
  refine hK _ _ (h v' w' ?_ (hbel.grown h2 hbase (fun g hg => (Own.lt hown g hg).1)) h2 h4)
  unfold Own
  rw [iv_append, List.length_append, List.length_replicate]
  exact h1
end Go.Proofs.YtfipcjchjpihkaaDoor
