/- The model's 'Allow', not swept. Written by mk_LiS.py. -/
import Derived.Test.YtcjbenmbenkcpaaLiS0
namespace Go.Proofs.Ytcjbenmbenkcpaa
open Go.RowKit
set_option linter.unusedVariables false
set_option maxRecDepth 10000 in
set_option maxHeartbeats 8000000 in
theorem specAllow_no (bs : List Bk) (n : Nat) (hn : bs.length = n) (hn2 : n ≤ 1048576) (a : Option Addr) (cap : Nat) (m s now : Int) (q : Bk) (w : World) (ha : HB w a bs) (hnow : now ≤ 9223372036854775807) (hsw : ¬ 1000000000 < now - s) :
    Calls Try.prog 8 #[.agg #[.int .i64 m, .int .i64 s, .slice a n cap], .agg (Iv .u8 q.key), .int .i64 now] w fun e w' => AllowOut w m s bs q now e w' := by
  have HA : Hid _ := ha
  have HN : Hid _ := hn
  clear ha hn
  have hm9 : Hid (Try.prog.eqGuardType Try.prog.depth 33 = false) := by show _ = _; kernel_rfl
  go_enter Try.func8, Try.ntmps8
  go_wp2_with fail
  obtain ⟨n1, n2, W, hW, h1, h2, F⟩ := rn3 w #[.int .i64 m, .int .i64 s, .slice a n cap] (Iv .u8 q.key) #[.int .i64 0, .int .i64 0, .slice none 0 0] 28 33 28
  rw [hW, h2, h1]
  clear hW h1 h2
  refine (l5Valid_any bs n HN.out a cap m s now W (HB.later HA.out F.out.bel (Nat.le_refl _)) hn2).mono ?_
  rintro e w1 ⟨r, rfl, hr, hb1⟩
  have F1 : Hid _ := F.out.later hb1 (Nat.le_refl _)
  have l0 : w.heap.size < w1.heap.size := (Array.getElem?_eq_some_iff.1 (F1.out.at (.tail _ (.tail _ (.head _))))).1
  have l1 : n1 < w1.heap.size := (Array.getElem?_eq_some_iff.1 (F1.out.at (.tail _ (.head _)))).1
  have l2 : n2 < w1.heap.size := (Array.getElem?_eq_some_iff.1 (F1.out.at (.head _))).1
  clear hb1 F
  cases r
  · have NV : Hid (¬ ValidP m s bs now) := fun h => by have := hr.2 h; cases this
    clear hr
    go_wp2_with ((with_reducible refine gSt ?_); refine wpList_put_row rfl 28 _ _ rfl n2 #[.int .i64 0, .int .i64 0, .slice none 0 0] rfl rfl 28 _ (F1.out.at (.head _)) (by kernel_rfl) rfl (by simp [Value.oneCell']) ?_)
    intro w2 hP2
    have F2 : Hid _ := F1.out.put hP2
    clear F1 hP2
    go_wp2_with fail
    exact bodyPost_ret (v := .tuple #[.agg #[.int .i64 0, .int .i64 0, .slice none 0 0], .bool false]) (results_row_tmpL rfl _ _ n2 _ #[.int .i64 0, .int .i64 0, .slice none 0 0] _ _ rfl rfl (F2.out.at (.head _)) Try.underlying28 rfl (by kernel_rfl)) rfl ⟨fun _ => rfl, fun h => absurd h NV.out, F2.out.bel⟩
  · have V : Hid (ValidP m s bs now) := hr.1 rfl
    have v0 := V.out.now0
    have v1 := V.out.s0
    have v2 := V.out.s1
    have v3 := V.out.m1
    have v4 := V.out.m2
    clear hr
    have c0 : w1.cell? ⟨w.heap.size, 0, none⟩ = some (.int .i64 m) := cell_of_row _ _ _ _ _ _ (F1.out.at (.tail _ (.tail _ (.head _))))
    have c1 : w1.cell? ⟨w.heap.size, 1, none⟩ = some (.int .i64 s) := cell_of_row _ _ _ _ _ _ (F1.out.at (.tail _ (.tail _ (.head _))))
    go_wp2_with ((with_reducible refine gSt ?_); refine wpList_put_row rfl 28 _ _ rfl w1.heap.size #[.int .i64 m, .int .i64 s, .slice none 0 0] rfl rfl 28 _ (heap_alloc_new _ _) (by kernel_rfl) rfl (by simp [Value.oneCell']) ?_)
    intro w2 hP2
    have F2 : Hid _ := F1.out.newRow hP2
    obtain ⟨gl, hgl⟩ : ∃ x, x = w1.heap.size := ⟨_, rfl⟩
    rw [← hgl] at F2 l0 l1 l2 ⊢
    clear hP2 F1 c0 c1 hgl w1
    have c1 : w2.cell? ⟨w.heap.size, 1, none⟩ = some (.int .i64 s) := cell_of_row _ _ _ _ _ _ (F2.out.at (.tail _ (.tail _ (.tail _ (.head _)))))
    have c2 : w2.cell? ⟨w.heap.size, 2, none⟩ = some (.slice a n cap) := cell_of_row _ _ _ _ _ _ (F2.out.at (.tail _ (.tail _ (.tail _ (.head _)))))
    have EQW : Hid (swB s now = false) := by show _ = _; simp [swB]; omega
    have hSE : Hid (s = resS s now) := by show _ = _; rw [resS, EQW.out]; rfl
    have FL : Hid _ := F2.out
    clear F2
    go_wp2_with fail
    rw [show decide (1000000000 < now - s) = false from decide_eq_false (by omega)]
    go_loopw [10, 11, 36] (fun f p i wr => ∃ (k : Nat) (v : Value), k ≤ n ∧ i = .int .i64 k ∧ f = .bool (foundL false q now (bs.take k)) ∧ p = .bool (passL false q now (bs.take k)) ∧ Rn w [(gl, #[.int .i64 m, .int .i64 s, v], 28), (n2, #[.int .i64 0, .int .i64 0, .slice none 0 0], 28), (n1, Iv .u8 q.key, 33), (w.heap.size, #[.int .i64 m, .int .i64 s, .slice a n cap], 28)] wr ∧ OwnB wr (gl + 1) v (outL false q now (bs.take k))) (fun _ _ i _ => n - (intOf i).toNat)
    case atStart => exact ⟨0, _, Nat.zero_le _, rfl, rfl, rfl, FL.out, OwnB.nil _ _⟩
    case round =>
      obtain ⟨k, v, hk, rfl, rfl, rfl, hF, hO⟩ := hrel
      have F : Hid _ := hF
      have O : Hid (OwnB _ _ _ _) := hO
      clear hF hO
      by_cases hlt : k < n
      · obtain ⟨g, o, ea, hg, hr⟩ := HA.out k (by rw [HN.out]; exact hlt)
        have hkb : k < bs.length := by rw [HN.out]; exact hlt
        obtain ⟨b, hbd⟩ : ∃ b, b = bs[k]'hkb := ⟨_, rfl⟩
        rw [← hbd] at hr
        have BD : Hid _ := hbd
        have OKb : Hid (OkB now b) := V.out.each b (by rw [hbd]; exact List.getElem_mem _)
        have hl0 : 0 ≤ b.last := OKb.out.2.2.1
        have hl1 : b.last ≤ now := OKb.out.2.2.2
        have ht0 : 0 ≤ b.tok := OKb.out.1
        have ht1 : b.tok ≤ 250000000 := OKb.out.2.1
        have X : Hid (∀ w', Below w.heap.size w w' → w'.rangeAt g (o + k * 11) (bkL b)) := fun w' hb j v hj => (hb.cell (p := ⟨g, _, none⟩) hg).trans (hr j v hj)
        have hi : Hid ((Try.prog.info? 37).map (·.size) = some (bkL b).length) := by show _ = _; rw [bkL_length]; exact infoB
        have hi2 : Hid ((Try.prog.info? 37).map (·.size) = some (bkL b).toArray.size) := by show _ = _; rw [bkL_size]; exact infoB
        have hz2 : Hid ((#[.int .u8 0, .int .u8 0, .int .u8 0, .int .u8 0, .int .u8 0, .int .u8 0, .int .u8 0, .int .u8 0, .int .u8 0, .int .i64 0, .int .i64 0] : Array Value).size = (bkL b).toArray.size) := by show _ = _; rw [bkL_size]; rfl
        have ho1 : Hid ((bkL b).toArray.all (·.oneCell') = true) := by show _ = _; rw [List.all_toArray]; exact bkL_one b
        subst ea
        obtain ⟨W0, hW0⟩ : ∃ x, x = wr := ⟨_, rfl⟩
        rw [← hW0] at F O ⊢
        clear hW0 wr hbd hr
        go_wp2_with (first
          | ((with_reducible refine gLd ?_); refine wpList_load_mid rfl 37 _ rfl g (o + k * 11) rfl (bkL b) _ (X.out _ F.out.bel) Try.underlying37 rfl hi.out ?_)
          | ((with_reducible refine gSt ?_); refine wpList_put_row rfl 37 _ _ rfl W0.heap.size (bkL b).toArray rfl rfl 37 _ (heap_alloc_new _ _) hi2.out hz2.out ho1.out ?_))
        intro w2 hP2
        have F2 : Hid _ := F.out.newRow hP2
        have O2 : Hid (OwnB _ _ _ _) := OwnB.later O.out (hP2.below W0.heap.size W0 ((Below.refl _ _).alloc (Nat.le_refl _) _) (Nat.le_refl _))
        have OB : Hid (∀ g', v.ownBlock = some g' → g' < W0.heap.size) := fun g' e => (World.ownsRow.lt O.out g' e).2
        obtain ⟨gb, hgb⟩ : ∃ x, x = W0.heap.size := ⟨_, rfl⟩
        rw [← hgb] at F2 OB ⊢
        clear hP2 F O hgb hi hi2 hz2 ho1 X
        have KY : Hid _ := range_key (row_range (F2.out.at (.head _)))
        have QR : Hid _ := F2.out.at (.tail _ (.tail _ (.tail _ (.head _))))
        have c9 : w2.cell? ⟨gb, 9, none⟩ = some (.int .i64 b.tok) := by have := range_tok (row_range (F2.out.at (.head _))); rwa [Nat.zero_add] at this
        have c10 : w2.cell? ⟨gb, 10, none⟩ = some (.int .i64 b.last) := by have := range_last (row_range (F2.out.at (.head _))); rwa [Nat.zero_add] at this
        have i9 : Hid ((Try.prog.info? 33).map (·.size) = some (b.key.map (Value.int .u8)).length) := by show _ = _; rw [List.length_map, b.len]; exact infoA9
        have q9 : Hid ((Try.prog.info? 33).map (·.size) = some (Iv .u8 q.key).size) := by show _ = _; rw [Iv_size, q.len]; exact infoA9
        have E9 : Hid _ := eq9 b.key q.key b.len q.len
        have KP : Hid (keepB false now b = true) := by show _ = _; simp [keepB]
        by_cases he' : b.key = q.key
        · have he : Hid (b.key = q.key) := he'
          clear he'
          by_cases h1 : now - b.last < 250000000
          · by_cases h2 : b.tok + (now - b.last) < 250000000
            · by_cases h3 : 50000000 ≤ b.tok + (now - b.last)
              · have ET : Hid (b.tok + (now - b.last) - 50000000 = leftB now b) := by
                  show _ = _
                  have := OKb.out
                  unfold OkB at this
                  have hg : grownB now b = b.tok + (now - b.last) := by unfold grownB; omega
                  unfold leftB passB
                  rw [hg]
                  simp <;> omega
                have EP : Hid (passB now b = true) := by
                  show _ = _
                  have := OKb.out
                  unfold OkB at this
                  have hg : grownB now b = b.tok + (now - b.last) := by unfold grownB; omega
                  unfold passB
                  rw [hg]
                  simp <;> omega
                have hsz : Hid ((bkL b).toArray.size = (bkL (setBk q (b.tok + (now - b.last) - 50000000) now)).toArray.size) := by show _ = _; rw [bkL_size, bkL_size]
                have hsi : Hid ((Try.prog.info? 37).map (·.size) = some (bkL (setBk q (b.tok + (now - b.last) - 50000000) now)).toArray.size) := by show _ = _; rw [bkL_size]; exact infoB
                have hso : Hid ((bkL (setBk q (b.tok + (now - b.last) - 50000000) now)).toArray.all (·.oneCell') = true) := by show _ = _; rw [List.all_toArray]; exact bkL_one _
                go_wp2_with (first
                  | ((with_reducible refine gLd ?_); refine wpList_load_mid rfl 33 _ rfl gb 0 rfl (b.key.map (Value.int .u8)) _ KY.out Try.underlying33 rfl i9.out ?_)
                  | ((with_reducible refine gLd ?_); refine wpList_load_row rfl 33 _ rfl n1 rfl _ (Iv .u8 q.key) _ _ QR.out Try.underlying33 rfl q9.out ?_)
                  | ((with_reducible refine gEq ?_); refine wpList_eql rfl 33 _ _ _ rfl (Iv .u8 b.key) (Iv .u8 q.key) rfl rfl true (fun w => by rw [E9.out w, decide_eq_true he.out]) hm9.out ?_)
                  | ((with_reducible refine gBd ?_); refine wpList_build_asL rfl 37 _ rfl (bkL (setBk q (b.tok + (now - b.last) - 50000000) now)).toArray [(0, .agg (Iv .u8 q.key)), (1, .int .i64 (b.tok + (now - b.last) - 50000000)), (2, .int .i64 now)] (by kernel_rfl) (builtBk2 q (b.tok + (now - b.last) - 50000000) now) ?_)
                  | ((with_reducible refine gSt ?_); refine wpList_put_row rfl 37 _ _ rfl gb (bkL (setBk q (b.tok + (now - b.last) - 50000000) now)).toArray rfl rfl 37 _ (F2.out.at (.head _)) hsi.out hsz.out hso.out ?_))
                intro w3 hP3
                have F3 : Hid _ := F2.out.put hP3
                have O3 : Hid (OwnB _ _ _ _) := OwnB.put2 O2.out hP3 (fun g' e => by have := OB.out g' e; omega)
                clear hP3 F2 O2 c9 c10
                have cv : w3.cell? ⟨gl, 2, none⟩ = some v := cell_of_row _ _ _ _ _ _ (F3.out.at (.tail _ (.head _)))
                have OA : Hid (OwnB _ _ _ _) := OwnB.later O3.out ((Below.refl w3.heap.size w3).alloc (Nat.le_refl _) (.cells (bkL (setBk q (b.tok + (now - b.last) - 50000000) now)).toArray 37))
                have FA : Hid _ := (F3.out.later ((Below.refl w3.heap.size w3).alloc (Nat.le_refl _) (.cells (bkL (setBk q (b.tok + (now - b.last) - 50000000) now)).toArray 37)) (Nat.le_refl _)).tail
                have lg : gl < w3.heap.size := (Array.getElem?_eq_some_iff.1 (F3.out.at (.tail _ (.head _)))).1
                have hib : Hid ((Try.prog.info? 37).map (·.size) = some (bkL (setBk q (b.tok + (now - b.last) - 50000000) now)).toArray.size) := by show _ = _; rw [bkL_size]; exact infoB
                have hlo : Hid ((outL false q now (bs.take k)).length ≤ 1100000) := Nat.le_trans (out_length false q now (bs.take k)) (by rw [List.length_take]; omega)
                go_wp2_with (first
                  | ((with_reducible refine gLd ?_); refine wpList_load_row rfl 37 _ rfl gb rfl _ (bkL (setBk q (b.tok + (now - b.last) - 50000000) now)).toArray _ _ (F3.out.at (.head _)) Try.underlying37 rfl hib.out ?_)
                  | ((with_reducible refine gBs ?_); refine wpList_oneB rfl _ rfl (setBk q (b.tok + (now - b.last) - 50000000) now) rfl ?_)
                  | ((with_reducible refine gAp ?_); refine wpList_pushB rfl _ _ rfl (gl + 1) v (outL false q now (bs.take k)) rfl OA.out (setBk q (b.tok + (now - b.last) - 50000000) now) w3.heap.size 1 rfl (heap_alloc_new _ _) hlo.out (by simp; omega) ?_))
                intro v' w4 hO4 hg4 hB4
                have F4 : Hid _ := FA.out.kept hg4 (gl + 1) hB4 (by simp; omega) (by omega)
                have O4 : Hid (OwnB _ _ _ _) := hO4
                clear hO4 hg4 hB4 FA OA cv
                go_wp2_with ((with_reducible refine gSt ?_); refine wpList_put_val rfl 26 _ _ rfl gl 2 v' rfl rfl [.int .i64 m, .int .i64 s, v] 28 (F4.out.at (.head _)) (by kernel_rfl) (by simp) (OwnB.one O4.out) [.int .i64 m, .int .i64 s, v'] rfl ?_)
                intro w5 hP5
                have F5 : Hid _ := F4.out.put hP5
                have O5 : Hid (OwnB _ _ _ _) := OwnB.put O4.out hP5 (Nat.lt_succ_self _)
                clear hP5 F4 O4
                go_wp2_with fail
                go_roundw
                case rel =>
                  have e := take_last bs k hkb
                  rw [← BD.out] at e
                  obtain ⟨e1, e2, e3⟩ := out_take false q now (bs.take k) b KP.out he.out
                  rw [← ET.out] at e1
                  rw [EP.out] at e3
                  exact ⟨k + 1, v', by omega, by go_num, by rw [e, e2], by rw [e, e3], F5.out, by rw [e, e1]; exact O5.out⟩
                case measure => simp [intOf]; omega
                
              · have ET : Hid (b.tok + (now - b.last) = leftB now b) := by
                  show _ = _
                  have := OKb.out
                  unfold OkB at this
                  have hg : grownB now b = b.tok + (now - b.last) := by unfold grownB; omega
                  unfold leftB passB
                  rw [hg]
                  simp <;> omega
                have EP : Hid (passB now b = false) := by
                  show _ = _
                  have := OKb.out
                  unfold OkB at this
                  have hg : grownB now b = b.tok + (now - b.last) := by unfold grownB; omega
                  unfold passB
                  rw [hg]
                  simp <;> omega
                have hsz : Hid ((bkL b).toArray.size = (bkL (setBk q (b.tok + (now - b.last)) now)).toArray.size) := by show _ = _; rw [bkL_size, bkL_size]
                have hsi : Hid ((Try.prog.info? 37).map (·.size) = some (bkL (setBk q (b.tok + (now - b.last)) now)).toArray.size) := by show _ = _; rw [bkL_size]; exact infoB
                have hso : Hid ((bkL (setBk q (b.tok + (now - b.last)) now)).toArray.all (·.oneCell') = true) := by show _ = _; rw [List.all_toArray]; exact bkL_one _
                go_wp2_with (first
                  | ((with_reducible refine gLd ?_); refine wpList_load_mid rfl 33 _ rfl gb 0 rfl (b.key.map (Value.int .u8)) _ KY.out Try.underlying33 rfl i9.out ?_)
                  | ((with_reducible refine gLd ?_); refine wpList_load_row rfl 33 _ rfl n1 rfl _ (Iv .u8 q.key) _ _ QR.out Try.underlying33 rfl q9.out ?_)
                  | ((with_reducible refine gEq ?_); refine wpList_eql rfl 33 _ _ _ rfl (Iv .u8 b.key) (Iv .u8 q.key) rfl rfl true (fun w => by rw [E9.out w, decide_eq_true he.out]) hm9.out ?_)
                  | ((with_reducible refine gBd ?_); refine wpList_build_asL rfl 37 _ rfl (bkL (setBk q (b.tok + (now - b.last)) now)).toArray [(0, .agg (Iv .u8 q.key)), (1, .int .i64 (b.tok + (now - b.last))), (2, .int .i64 now)] (by kernel_rfl) (builtBk2 q (b.tok + (now - b.last)) now) ?_)
                  | ((with_reducible refine gSt ?_); refine wpList_put_row rfl 37 _ _ rfl gb (bkL (setBk q (b.tok + (now - b.last)) now)).toArray rfl rfl 37 _ (F2.out.at (.head _)) hsi.out hsz.out hso.out ?_))
                intro w3 hP3
                have F3 : Hid _ := F2.out.put hP3
                have O3 : Hid (OwnB _ _ _ _) := OwnB.put2 O2.out hP3 (fun g' e => by have := OB.out g' e; omega)
                clear hP3 F2 O2 c9 c10
                have cv : w3.cell? ⟨gl, 2, none⟩ = some v := cell_of_row _ _ _ _ _ _ (F3.out.at (.tail _ (.head _)))
                have OA : Hid (OwnB _ _ _ _) := OwnB.later O3.out ((Below.refl w3.heap.size w3).alloc (Nat.le_refl _) (.cells (bkL (setBk q (b.tok + (now - b.last)) now)).toArray 37))
                have FA : Hid _ := (F3.out.later ((Below.refl w3.heap.size w3).alloc (Nat.le_refl _) (.cells (bkL (setBk q (b.tok + (now - b.last)) now)).toArray 37)) (Nat.le_refl _)).tail
                have lg : gl < w3.heap.size := (Array.getElem?_eq_some_iff.1 (F3.out.at (.tail _ (.head _)))).1
                have hib : Hid ((Try.prog.info? 37).map (·.size) = some (bkL (setBk q (b.tok + (now - b.last)) now)).toArray.size) := by show _ = _; rw [bkL_size]; exact infoB
                have hlo : Hid ((outL false q now (bs.take k)).length ≤ 1100000) := Nat.le_trans (out_length false q now (bs.take k)) (by rw [List.length_take]; omega)
                go_wp2_with (first
                  | ((with_reducible refine gLd ?_); refine wpList_load_row rfl 37 _ rfl gb rfl _ (bkL (setBk q (b.tok + (now - b.last)) now)).toArray _ _ (F3.out.at (.head _)) Try.underlying37 rfl hib.out ?_)
                  | ((with_reducible refine gBs ?_); refine wpList_oneB rfl _ rfl (setBk q (b.tok + (now - b.last)) now) rfl ?_)
                  | ((with_reducible refine gAp ?_); refine wpList_pushB rfl _ _ rfl (gl + 1) v (outL false q now (bs.take k)) rfl OA.out (setBk q (b.tok + (now - b.last)) now) w3.heap.size 1 rfl (heap_alloc_new _ _) hlo.out (by simp; omega) ?_))
                intro v' w4 hO4 hg4 hB4
                have F4 : Hid _ := FA.out.kept hg4 (gl + 1) hB4 (by simp; omega) (by omega)
                have O4 : Hid (OwnB _ _ _ _) := hO4
                clear hO4 hg4 hB4 FA OA cv
                go_wp2_with ((with_reducible refine gSt ?_); refine wpList_put_val rfl 26 _ _ rfl gl 2 v' rfl rfl [.int .i64 m, .int .i64 s, v] 28 (F4.out.at (.head _)) (by kernel_rfl) (by simp) (OwnB.one O4.out) [.int .i64 m, .int .i64 s, v'] rfl ?_)
                intro w5 hP5
                have F5 : Hid _ := F4.out.put hP5
                have O5 : Hid (OwnB _ _ _ _) := OwnB.put O4.out hP5 (Nat.lt_succ_self _)
                clear hP5 F4 O4
                go_wp2_with fail
                go_roundw
                case rel =>
                  have e := take_last bs k hkb
                  rw [← BD.out] at e
                  obtain ⟨e1, e2, e3⟩ := out_take false q now (bs.take k) b KP.out he.out
                  rw [← ET.out] at e1
                  rw [EP.out] at e3
                  exact ⟨k + 1, v', by omega, by go_num, by rw [e, e2], by rw [e, e3], F5.out, by rw [e, e1]; exact O5.out⟩
                case measure => simp [intOf]; omega
                
            · have ET : Hid (200000000 = leftB now b) := by
                show _ = _
                have := OKb.out
                unfold OkB at this
                have hg : grownB now b = 250000000 := by unfold grownB; omega
                unfold leftB passB
                rw [hg]
                simp <;> omega
              have EP : Hid (passB now b = true) := by
                show _ = _
                have := OKb.out
                unfold OkB at this
                have hg : grownB now b = 250000000 := by unfold grownB; omega
                unfold passB
                rw [hg]
                simp <;> omega
              have hsz : Hid ((bkL b).toArray.size = (bkL (setBk q (200000000) now)).toArray.size) := by show _ = _; rw [bkL_size, bkL_size]
              have hsi : Hid ((Try.prog.info? 37).map (·.size) = some (bkL (setBk q (200000000) now)).toArray.size) := by show _ = _; rw [bkL_size]; exact infoB
              have hso : Hid ((bkL (setBk q (200000000) now)).toArray.all (·.oneCell') = true) := by show _ = _; rw [List.all_toArray]; exact bkL_one _
              go_wp2_with (first
                | ((with_reducible refine gLd ?_); refine wpList_load_mid rfl 33 _ rfl gb 0 rfl (b.key.map (Value.int .u8)) _ KY.out Try.underlying33 rfl i9.out ?_)
                | ((with_reducible refine gLd ?_); refine wpList_load_row rfl 33 _ rfl n1 rfl _ (Iv .u8 q.key) _ _ QR.out Try.underlying33 rfl q9.out ?_)
                | ((with_reducible refine gEq ?_); refine wpList_eql rfl 33 _ _ _ rfl (Iv .u8 b.key) (Iv .u8 q.key) rfl rfl true (fun w => by rw [E9.out w, decide_eq_true he.out]) hm9.out ?_)
                | ((with_reducible refine gBd ?_); refine wpList_build_asL rfl 37 _ rfl (bkL (setBk q (200000000) now)).toArray [(0, .agg (Iv .u8 q.key)), (1, .int .i64 (200000000)), (2, .int .i64 now)] (by kernel_rfl) (builtBk2 q (200000000) now) ?_)
                | ((with_reducible refine gSt ?_); refine wpList_put_row rfl 37 _ _ rfl gb (bkL (setBk q (200000000) now)).toArray rfl rfl 37 _ (F2.out.at (.head _)) hsi.out hsz.out hso.out ?_))
              intro w3 hP3
              have F3 : Hid _ := F2.out.put hP3
              have O3 : Hid (OwnB _ _ _ _) := OwnB.put2 O2.out hP3 (fun g' e => by have := OB.out g' e; omega)
              clear hP3 F2 O2 c9 c10
              have cv : w3.cell? ⟨gl, 2, none⟩ = some v := cell_of_row _ _ _ _ _ _ (F3.out.at (.tail _ (.head _)))
              have OA : Hid (OwnB _ _ _ _) := OwnB.later O3.out ((Below.refl w3.heap.size w3).alloc (Nat.le_refl _) (.cells (bkL (setBk q (200000000) now)).toArray 37))
              have FA : Hid _ := (F3.out.later ((Below.refl w3.heap.size w3).alloc (Nat.le_refl _) (.cells (bkL (setBk q (200000000) now)).toArray 37)) (Nat.le_refl _)).tail
              have lg : gl < w3.heap.size := (Array.getElem?_eq_some_iff.1 (F3.out.at (.tail _ (.head _)))).1
              have hib : Hid ((Try.prog.info? 37).map (·.size) = some (bkL (setBk q (200000000) now)).toArray.size) := by show _ = _; rw [bkL_size]; exact infoB
              have hlo : Hid ((outL false q now (bs.take k)).length ≤ 1100000) := Nat.le_trans (out_length false q now (bs.take k)) (by rw [List.length_take]; omega)
              go_wp2_with (first
                | ((with_reducible refine gLd ?_); refine wpList_load_row rfl 37 _ rfl gb rfl _ (bkL (setBk q (200000000) now)).toArray _ _ (F3.out.at (.head _)) Try.underlying37 rfl hib.out ?_)
                | ((with_reducible refine gBs ?_); refine wpList_oneB rfl _ rfl (setBk q (200000000) now) rfl ?_)
                | ((with_reducible refine gAp ?_); refine wpList_pushB rfl _ _ rfl (gl + 1) v (outL false q now (bs.take k)) rfl OA.out (setBk q (200000000) now) w3.heap.size 1 rfl (heap_alloc_new _ _) hlo.out (by simp; omega) ?_))
              intro v' w4 hO4 hg4 hB4
              have F4 : Hid _ := FA.out.kept hg4 (gl + 1) hB4 (by simp; omega) (by omega)
              have O4 : Hid (OwnB _ _ _ _) := hO4
              clear hO4 hg4 hB4 FA OA cv
              go_wp2_with ((with_reducible refine gSt ?_); refine wpList_put_val rfl 26 _ _ rfl gl 2 v' rfl rfl [.int .i64 m, .int .i64 s, v] 28 (F4.out.at (.head _)) (by kernel_rfl) (by simp) (OwnB.one O4.out) [.int .i64 m, .int .i64 s, v'] rfl ?_)
              intro w5 hP5
              have F5 : Hid _ := F4.out.put hP5
              have O5 : Hid (OwnB _ _ _ _) := OwnB.put O4.out hP5 (Nat.lt_succ_self _)
              clear hP5 F4 O4
              go_wp2_with fail
              go_roundw
              case rel =>
                have e := take_last bs k hkb
                rw [← BD.out] at e
                obtain ⟨e1, e2, e3⟩ := out_take false q now (bs.take k) b KP.out he.out
                rw [← ET.out] at e1
                rw [EP.out] at e3
                exact ⟨k + 1, v', by omega, by go_num, by rw [e, e2], by rw [e, e3], F5.out, by rw [e, e1]; exact O5.out⟩
              case measure => simp [intOf]; omega
              
          · have ET : Hid (200000000 = leftB now b) := by
              show _ = _
              have := OKb.out
              unfold OkB at this
              have hg : grownB now b = 250000000 := by unfold grownB; omega
              unfold leftB passB
              rw [hg]
              simp <;> omega
            have EP : Hid (passB now b = true) := by
              show _ = _
              have := OKb.out
              unfold OkB at this
              have hg : grownB now b = 250000000 := by unfold grownB; omega
              unfold passB
              rw [hg]
              simp <;> omega
            have hsz : Hid ((bkL b).toArray.size = (bkL (setBk q (200000000) now)).toArray.size) := by show _ = _; rw [bkL_size, bkL_size]
            have hsi : Hid ((Try.prog.info? 37).map (·.size) = some (bkL (setBk q (200000000) now)).toArray.size) := by show _ = _; rw [bkL_size]; exact infoB
            have hso : Hid ((bkL (setBk q (200000000) now)).toArray.all (·.oneCell') = true) := by show _ = _; rw [List.all_toArray]; exact bkL_one _
            go_wp2_with (first
              | ((with_reducible refine gLd ?_); refine wpList_load_mid rfl 33 _ rfl gb 0 rfl (b.key.map (Value.int .u8)) _ KY.out Try.underlying33 rfl i9.out ?_)
              | ((with_reducible refine gLd ?_); refine wpList_load_row rfl 33 _ rfl n1 rfl _ (Iv .u8 q.key) _ _ QR.out Try.underlying33 rfl q9.out ?_)
              | ((with_reducible refine gEq ?_); refine wpList_eql rfl 33 _ _ _ rfl (Iv .u8 b.key) (Iv .u8 q.key) rfl rfl true (fun w => by rw [E9.out w, decide_eq_true he.out]) hm9.out ?_)
              | ((with_reducible refine gBd ?_); refine wpList_build_asL rfl 37 _ rfl (bkL (setBk q (200000000) now)).toArray [(0, .agg (Iv .u8 q.key)), (1, .int .i64 (200000000)), (2, .int .i64 now)] (by kernel_rfl) (builtBk2 q (200000000) now) ?_)
              | ((with_reducible refine gSt ?_); refine wpList_put_row rfl 37 _ _ rfl gb (bkL (setBk q (200000000) now)).toArray rfl rfl 37 _ (F2.out.at (.head _)) hsi.out hsz.out hso.out ?_))
            intro w3 hP3
            have F3 : Hid _ := F2.out.put hP3
            have O3 : Hid (OwnB _ _ _ _) := OwnB.put2 O2.out hP3 (fun g' e => by have := OB.out g' e; omega)
            clear hP3 F2 O2 c9 c10
            have cv : w3.cell? ⟨gl, 2, none⟩ = some v := cell_of_row _ _ _ _ _ _ (F3.out.at (.tail _ (.head _)))
            have OA : Hid (OwnB _ _ _ _) := OwnB.later O3.out ((Below.refl w3.heap.size w3).alloc (Nat.le_refl _) (.cells (bkL (setBk q (200000000) now)).toArray 37))
            have FA : Hid _ := (F3.out.later ((Below.refl w3.heap.size w3).alloc (Nat.le_refl _) (.cells (bkL (setBk q (200000000) now)).toArray 37)) (Nat.le_refl _)).tail
            have lg : gl < w3.heap.size := (Array.getElem?_eq_some_iff.1 (F3.out.at (.tail _ (.head _)))).1
            have hib : Hid ((Try.prog.info? 37).map (·.size) = some (bkL (setBk q (200000000) now)).toArray.size) := by show _ = _; rw [bkL_size]; exact infoB
            have hlo : Hid ((outL false q now (bs.take k)).length ≤ 1100000) := Nat.le_trans (out_length false q now (bs.take k)) (by rw [List.length_take]; omega)
            go_wp2_with (first
              | ((with_reducible refine gLd ?_); refine wpList_load_row rfl 37 _ rfl gb rfl _ (bkL (setBk q (200000000) now)).toArray _ _ (F3.out.at (.head _)) Try.underlying37 rfl hib.out ?_)
              | ((with_reducible refine gBs ?_); refine wpList_oneB rfl _ rfl (setBk q (200000000) now) rfl ?_)
              | ((with_reducible refine gAp ?_); refine wpList_pushB rfl _ _ rfl (gl + 1) v (outL false q now (bs.take k)) rfl OA.out (setBk q (200000000) now) w3.heap.size 1 rfl (heap_alloc_new _ _) hlo.out (by simp; omega) ?_))
            intro v' w4 hO4 hg4 hB4
            have F4 : Hid _ := FA.out.kept hg4 (gl + 1) hB4 (by simp; omega) (by omega)
            have O4 : Hid (OwnB _ _ _ _) := hO4
            clear hO4 hg4 hB4 FA OA cv
            go_wp2_with ((with_reducible refine gSt ?_); refine wpList_put_val rfl 26 _ _ rfl gl 2 v' rfl rfl [.int .i64 m, .int .i64 s, v] 28 (F4.out.at (.head _)) (by kernel_rfl) (by simp) (OwnB.one O4.out) [.int .i64 m, .int .i64 s, v'] rfl ?_)
            intro w5 hP5
            have F5 : Hid _ := F4.out.put hP5
            have O5 : Hid (OwnB _ _ _ _) := OwnB.put O4.out hP5 (Nat.lt_succ_self _)
            clear hP5 F4 O4
            go_wp2_with fail
            go_roundw
            case rel =>
              have e := take_last bs k hkb
              rw [← BD.out] at e
              obtain ⟨e1, e2, e3⟩ := out_take false q now (bs.take k) b KP.out he.out
              rw [← ET.out] at e1
              rw [EP.out] at e3
              exact ⟨k + 1, v', by omega, by go_num, by rw [e, e2], by rw [e, e3], F5.out, by rw [e, e1]; exact O5.out⟩
            case measure => simp [intOf]; omega
            
        · have he : Hid (b.key ≠ q.key) := he'
          clear he'
          go_wp2_with (first
            | ((with_reducible refine gLd ?_); refine wpList_load_mid rfl 33 _ rfl gb 0 rfl (b.key.map (Value.int .u8)) _ KY.out Try.underlying33 rfl i9.out ?_)
            | ((with_reducible refine gLd ?_); refine wpList_load_row rfl 33 _ rfl n1 rfl _ (Iv .u8 q.key) _ _ QR.out Try.underlying33 rfl q9.out ?_)
            | ((with_reducible refine gEq ?_); refine wpList_eql rfl 33 _ _ _ rfl (Iv .u8 b.key) (Iv .u8 q.key) rfl rfl false (fun w => by rw [E9.out w, decide_eq_false he.out]) hm9.out (stop_here ?_)))
          refine hid_mk ?_
          have cv : w2.cell? ⟨gl, 2, none⟩ = some v := cell_of_row _ _ _ _ _ _ (F2.out.at (.tail _ (.head _)))
          have OA : Hid (OwnB _ _ _ _) := OwnB.later O2.out ((Below.refl w2.heap.size w2).alloc (Nat.le_refl _) (.cells (bkL b).toArray 37))
          have FA : Hid _ := (F2.out.later ((Below.refl w2.heap.size w2).alloc (Nat.le_refl _) (.cells (bkL b).toArray 37)) (Nat.le_refl _)).tail
          have lg : gl < w2.heap.size := (Array.getElem?_eq_some_iff.1 (F2.out.at (.tail _ (.head _)))).1
          have hib : Hid ((Try.prog.info? 37).map (·.size) = some (bkL b).toArray.size) := by show _ = _; rw [bkL_size]; exact infoB
          have hlo : Hid ((outL false q now (bs.take k)).length ≤ 1100000) := Nat.le_trans (out_length false q now (bs.take k)) (by rw [List.length_take]; omega)
          go_wp2_with (first
            | ((with_reducible refine gLd ?_); refine wpList_load_row rfl 37 _ rfl gb rfl _ (bkL b).toArray _ _ (F2.out.at (.head _)) Try.underlying37 rfl hib.out ?_)
            | ((with_reducible refine gBs ?_); refine wpList_oneB rfl _ rfl b rfl ?_)
            | ((with_reducible refine gAp ?_); refine wpList_pushB rfl _ _ rfl (gl + 1) v (outL false q now (bs.take k)) rfl OA.out b w2.heap.size 1 rfl (heap_alloc_new _ _) hlo.out (by simp; omega) ?_))
          intro v' w4 hO4 hg4 hB4
          have F4 : Hid _ := FA.out.kept hg4 (gl + 1) hB4 (by simp; omega) (by omega)
          have O4 : Hid (OwnB _ _ _ _) := hO4
          clear hO4 hg4 hB4 FA OA cv c9 c10
          go_wp2_with ((with_reducible refine gSt ?_); refine wpList_put_val rfl 26 _ _ rfl gl 2 v' rfl rfl [.int .i64 m, .int .i64 s, v] 28 (F4.out.at (.head _)) (by kernel_rfl) (by simp) (OwnB.one O4.out) [.int .i64 m, .int .i64 s, v'] rfl ?_)
          intro w5 hP5
          have F5 : Hid _ := F4.out.put hP5
          have O5 : Hid (OwnB _ _ _ _) := OwnB.put O4.out hP5 (Nat.lt_succ_self _)
          clear hP5 F4 O4
          go_wp2_with fail
          go_roundw
          case rel =>
            have e := take_last bs k hkb
            rw [← BD.out] at e
            obtain ⟨e1, e2, e3⟩ := out_keep false q now (bs.take k) b KP.out he.out
            exact ⟨k + 1, v', by omega, by go_num, by rw [e, e2], by rw [e, e3], F5.out, by rw [e, e1]; exact O5.out⟩
          case measure => simp [intOf]; omega
      · obtain rfl : k = n := by omega
        have e0 : bs.take k = bs := List.take_of_length_le (by rw [HN.out]; exact Nat.le_refl _)
        rw [e0] at O ⊢
        obtain ⟨fo, hfo⟩ : ∃ x, x = foundL false q now bs := ⟨_, rfl⟩
        obtain ⟨po, hpo⟩ : ∃ x, x = passL false q now bs := ⟨_, rfl⟩
        rw [← hfo, ← hpo]
        have FO : Hid _ := hfo
        have PO : Hid _ := hpo
        obtain ⟨a', cap', hv, hsh⟩ := OwnB.shape O.out
        subst hv
        have lo : (outL false q now bs).length ≤ k := by have := out_length false q now bs; rw [HN.out] at this; exact this
        obtain ⟨z, hz⟩ : ∃ x, x = (outL false q now bs).length := ⟨_, rfl⟩
        rw [← hz] at O F lo
        have HZ : Hid _ := hz
        clear hfo hpo hsh e0 hz
        have c0 : wr.cell? ⟨w.heap.size, 0, none⟩ = some (.int .i64 m) := cell_of_row _ _ _ _ _ _ (F.out.at (.tail _ (.tail _ (.tail _ (.head _)))))
        have cv : wr.cell? ⟨gl, 2, none⟩ = some (.slice a' z cap') := cell_of_row _ _ _ _ _ _ (F.out.at (.head _))
        have lg : gl < wr.heap.size := (Array.getElem?_eq_some_iff.1 (F.out.at (.head _))).1
        cases fo
        · by_cases hl : (z : Int) < m
          · have EA : Hid (addL m s bs q now = true) := by show _ = _; unfold addL; rw [EQW.out, ← FO.out, ← HZ.out]; simp [hl]
            have OA : Hid (OwnB _ _ _ _) := OwnB.later O.out ((Below.refl wr.heap.size wr).alloc (Nat.le_refl _) (.cells (bkL (setBk q 200000000 now)).toArray 37))
            have FA : Hid _ := F.out.later ((Below.refl wr.heap.size wr).alloc (Nat.le_refl _) (.cells (bkL (setBk q 200000000 now)).toArray 37)) (Nat.le_refl _)
            have q9 : Hid ((Try.prog.info? 33).map (·.size) = some (Iv .u8 q.key).size) := by show _ = _; rw [Iv_size, q.len]; exact infoA9
            have hlo : Hid ((outL false q now bs).length ≤ 1100000) := by show _ ≤ _; rw [← HZ.out]; omega
            have QR : Hid _ := F.out.at (.tail _ (.tail _ (.head _)))
            go_wp2_with (first
              | ((with_reducible refine gLd ?_); refine wpList_load_row rfl 33 _ rfl n1 rfl _ (Iv .u8 q.key) _ _ QR.out Try.underlying33 rfl q9.out ?_)
              | ((with_reducible refine gBd ?_); refine wpList_build_asL rfl 37 _ rfl (bkL (setBk q 200000000 now)).toArray [(0, .agg (Iv .u8 q.key)), (1, .int .i64 200000000), (2, .int .i64 now)] (by kernel_rfl) (builtBk2 q 200000000 now) ?_)
              | ((with_reducible refine gBs ?_); refine wpList_oneB rfl _ rfl (setBk q 200000000 now) rfl ?_)
              | ((with_reducible refine gAp ?_); refine wpList_pushB rfl _ _ rfl (gl + 1) (.slice a' z cap') (outL false q now bs) rfl OA.out (setBk q 200000000 now) wr.heap.size 1 rfl (heap_alloc_new _ _) hlo.out (by simp; omega) ?_))
            intro v' w4 hO4 hg4 hB4
            have F4 : Hid _ := FA.out.kept hg4 (gl + 1) hB4 (by simp; omega) (by omega)
            have O4 : Hid (OwnB _ _ _ _) := hO4
            clear hO4 hg4 hB4 FA OA cv c0 F O QR
            go_wp2_with ((with_reducible refine gSt ?_); refine wpList_put_val rfl 26 _ _ rfl gl 2 v' rfl rfl [.int .i64 m, .int .i64 s, .slice a' z cap'] 28 (F4.out.at (.head _)) (by kernel_rfl) (by simp) (OwnB.one O4.out) [.int .i64 m, .int .i64 s, v'] rfl ?_)
            intro w5 hP5
            have F5 : Hid _ := F4.out.put hP5
            have O5 : Hid (OwnB _ _ _ _) := OwnB.put O4.out hP5 (Nat.lt_succ_self _)
            clear hP5 F4 O4
            have v1' : v'.oneCell' = true := OwnB.one O5.out
            have hlz : Hid ((#[.int .i64 0, .int .i64 0, .slice none 0 0] : Array Value).size = (#[.int .i64 m, .int .i64 s, v'] : Array Value).size) := rfl
            go_wp2_with (first
              | ((with_reducible refine gLd ?_); refine wpList_load_row rfl 28 _ rfl gl rfl _ #[.int .i64 m, .int .i64 s, v'] _ _ (F5.out.at (.head _)) Try.underlying28 rfl (by kernel_rfl) ?_)
              | ((with_reducible refine gSt ?_); refine wpList_put_row rfl 28 _ _ rfl n2 #[.int .i64 m, .int .i64 s, v'] rfl rfl 28 _ (F5.out.at (.tail _ (.head _))) (by kernel_rfl) rfl (all3 rfl rfl v1') ?_))
            intro w9 hP9
            have F9 : Hid _ := F5.out.tail.put hP9
            have O9 : Hid (OwnB _ _ _ _) := OwnB.put O5.out hP9 (by omega)
            clear hP9
            go_wp2_with fail
            exact bodyPost_ret (v := .tuple #[.agg #[.int .i64 m, .int .i64 s, v'], .bool true]) (results_row_tmpL rfl _ _ n2 _ #[.int .i64 m, .int .i64 s, v'] _ _ rfl rfl (F9.out.at (.head _)) Try.underlying28 rfl (by kernel_rfl)) rfl (allow_end V.out hSE.out (by rw [resL, EA.out, EQW.out]; rfl) (by rw [resP, EA.out]; rfl) O9.out (by have := F9.out.bel.size; omega) F9.out.bel)
          · have EA : Hid (addL m s bs q now = false) := by show _ = _; unfold addL; rw [EQW.out, ← FO.out, ← HZ.out]; simp; omega
            have hlz : Hid ((#[.int .i64 0, .int .i64 0, .slice none 0 0] : Array Value).size = (#[.int .i64 m, .int .i64 s, (.slice a' z cap')] : Array Value).size) := rfl
            go_wp2_with (first
              | ((with_reducible refine gLd ?_); refine wpList_load_row rfl 28 _ rfl gl rfl _ #[.int .i64 m, .int .i64 s, (.slice a' z cap')] _ _ (F.out.at (.head _)) Try.underlying28 rfl (by kernel_rfl) ?_)
              | ((with_reducible refine gSt ?_); refine wpList_put_row rfl 28 _ _ rfl n2 #[.int .i64 m, .int .i64 s, (.slice a' z cap')] rfl rfl 28 _ (F.out.at (.tail _ (.head _))) (by kernel_rfl) rfl (all3 rfl rfl rfl) ?_))
            intro w9 hP9
            have F9 : Hid _ := F.out.tail.put hP9
            have O9 : Hid (OwnB _ _ _ _) := OwnB.put O.out hP9 (by omega)
            clear hP9
            go_wp2_with fail
            exact bodyPost_ret (v := .tuple #[.agg #[.int .i64 m, .int .i64 s, (.slice a' z cap')], .bool po]) (results_row_tmpL rfl _ _ n2 _ #[.int .i64 m, .int .i64 s, (.slice a' z cap')] _ _ rfl rfl (F9.out.at (.head _)) Try.underlying28 rfl (by kernel_rfl)) rfl (allow_end V.out hSE.out (by rw [resL, EA.out, EQW.out]; rfl) (by rw [resP, EA.out, EQW.out]; exact PO.out) O9.out (by have := F9.out.bel.size; omega) F9.out.bel)
        · have EA : Hid (addL m s bs q now = false) := by show _ = _; unfold addL; rw [EQW.out, ← FO.out]; rfl
          have hlz : Hid ((#[.int .i64 0, .int .i64 0, .slice none 0 0] : Array Value).size = (#[.int .i64 m, .int .i64 s, (.slice a' z cap')] : Array Value).size) := rfl
          go_wp2_with (first
            | ((with_reducible refine gLd ?_); refine wpList_load_row rfl 28 _ rfl gl rfl _ #[.int .i64 m, .int .i64 s, (.slice a' z cap')] _ _ (F.out.at (.head _)) Try.underlying28 rfl (by kernel_rfl) ?_)
            | ((with_reducible refine gSt ?_); refine wpList_put_row rfl 28 _ _ rfl n2 #[.int .i64 m, .int .i64 s, (.slice a' z cap')] rfl rfl 28 _ (F.out.at (.tail _ (.head _))) (by kernel_rfl) rfl (all3 rfl rfl rfl) ?_))
          intro w9 hP9
          have F9 : Hid _ := F.out.tail.put hP9
          have O9 : Hid (OwnB _ _ _ _) := OwnB.put O.out hP9 (by omega)
          clear hP9
          go_wp2_with fail
          exact bodyPost_ret (v := .tuple #[.agg #[.int .i64 m, .int .i64 s, (.slice a' z cap')], .bool po]) (results_row_tmpL rfl _ _ n2 _ #[.int .i64 m, .int .i64 s, (.slice a' z cap')] _ _ rfl rfl (F9.out.at (.head _)) Try.underlying28 rfl (by kernel_rfl)) rfl (allow_end V.out hSE.out (by rw [resL, EA.out, EQW.out]; rfl) (by rw [resP, EA.out, EQW.out]; exact PO.out) O9.out (by have := F9.out.bel.size; omega) F9.out.bel)
end Go.Proofs.Ytcjbenmbenkcpaa
