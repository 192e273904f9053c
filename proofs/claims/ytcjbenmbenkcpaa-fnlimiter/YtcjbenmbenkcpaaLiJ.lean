/- The program's limiter: 'take'. Written by mk_LiJ.py. -/
import Derived.Test.YtcjbenmbenkcpaaLiI
namespace Go.Proofs.Ytcjbenmbenkcpaa
open Go.RowKit
set_option linter.unusedVariables false
theorem builtPl (b : Bk) (p : Int) : Try.prog.built 66 [(0, .agg (bkL b).toArray), (1, .int .i64 p)] = some (plL ⟨b, p⟩).toArray := by
  obtain ⟨k0, k1, k2, k3, k4, k5, k6, k7, k8, hk⟩ := bk_open b
  have e : (bkL b).toArray = #[.int .u8 k0, .int .u8 k1, .int .u8 k2, .int .u8 k3, .int .u8 k4, .int .u8 k5, .int .u8 k6, .int .u8 k7, .int .u8 k8, .int .i64 b.tok, .int .i64 b.last] := by simp [bkL, hk]
  have e2 : (plL ⟨b, p⟩).toArray = #[.int .u8 k0, .int .u8 k1, .int .u8 k2, .int .u8 k3, .int .u8 k4, .int .u8 k5, .int .u8 k6, .int .u8 k7, .int .u8 k8, .int .i64 b.tok, .int .i64 b.last, .int .i64 p] := by simp [plL, bkL, hk]
  rw [e, e2]
  show Program.built _ _ _ = some _
  kernel_rfl
def takeL (ps : List Pl) (q : Bk) (m now : Int) : List Pl :=
  match ps.find? (fun p => isK q p.b) with
  | some p => ⟨setBk p.b (leftB now p.b) now, p.pos⟩ :: ps.filter (neK p)
  | none => if m ≤ (ps.length : Int) then ps else ⟨setBk q 200000000 now, m⟩ :: ps
def tookB (ps : List Pl) (q : Bk) (m now : Int) : Bool :=
  match ps.find? (fun p => isK q p.b) with
  | some p => passB now p.b
  | none => if m ≤ (ps.length : Int) then false else true
/-- Behind 'take'. -/
def TakeOut (w : World) (b n : Nat) (ps : List Pl) (q : Bk) (m now : Int) (e : Ending) (w' : World) : Prop :=
  e = .returned (.bool (tookB ps q m now)) ∧ Tab w' b (n + 1) (takeL ps q m now) ∧ w.grownBy w' (some b)
theorem pl_put (b c : Bk) (p : Int) : (plL ⟨b, p⟩).take 0 ++ bkL c ++ (plL ⟨b, p⟩).drop (0 + (bkL c).length) = plL ⟨c, p⟩ := by
  rw [List.take_zero, List.nil_append, bkL_length, plL]
  have : (bkL b ++ [Value.int .i64 p]).drop (0 + 11) = [Value.int .i64 p] := by rw [Nat.zero_add, ← bkL_length b]; exact List.drop_left
  rw [this]
  rfl
theorem pl_set (b : Bk) (t l t' p : Int) : (plL ⟨setBk b t l, p⟩).set 9 (.int .i64 t') = plL ⟨setBk b t' l, p⟩ := by
  obtain ⟨k0, k1, k2, k3, k4, k5, k6, k7, k8, hk⟩ := bk_open b
  simp [plL, bkL, setBk, hk]
theorem below_grownBy {w w' : World} (h : Below w.heap.size w w') : w.grownBy w' none := ⟨h.os, h.tape, h.output, h.size, fun i hi _ => h.block i hi⟩
theorem plOk (p : Pl) : (Try.prog.info? 66).map (·.size) = some (plL p).toArray.size ∧ (plL p).toArray.all (·.oneCell') = true ∧ (plL p).toArray.size = 12 ∧ (#[.int .u8 0, .int .u8 0, .int .u8 0, .int .u8 0, .int .u8 0, .int .u8 0, .int .u8 0, .int .u8 0, .int .u8 0, .int .i64 0, .int .i64 0, .int .i64 0] : Array Value).size = (plL p).toArray.size := by
  have e : (plL p).toArray.size = 12 := by rw [List.size_toArray, plL_length]
  exact ⟨by rw [e]; exact infoP, by rw [List.all_toArray]; exact List.all_eq_true.2 (plL_one p), e, by rw [e]; rfl⟩
set_option maxRecDepth 10000 in
set_option maxHeartbeats 4000000 in
theorem take_yes (ps : List Pl) (q : Bk) (b n : Nat) (m now : Int) (w : World) (hT : Tab w b n ps) (hn : n ≤ 5000) (p : Pl) (hf : ps.find? (fun p => isK q p.b) = some p) (b1 : 0 ≤ p.b.tok) (b2 : p.b.tok ≤ 250000000) (b3 : 0 ≤ p.b.last) (b4 : p.b.last ≤ now) (h5 : now ≤ 9223372036854775807) :
    Calls Try.prog 19 #[.map (some b), .agg (Iv .u8 q.key), .int .i64 m, .int .i64 now] w fun e w' => TakeOut w b n ps q m now e w' := by
  have hp : p ∈ ps := List.mem_of_find?_eq_some hf
  have hk : p.b.key = q.key := by have := List.find?_some hf; simpa [isK] using this
  rw [← hk]
  have HT : Hid (Tab _ _ _ _) := hT
  have HF : Hid _ := hf
  have LK : Hid (∀ W, Tab W b n ps → (Instr.lookup 54 (.map (some b)) (.agg (Iv .u8 p.b.key)) true).run Try.prog W = .ok (.tuple #[.agg (plL p).toArray, .bool true]) W) := fun W h => Tab.lookYes h p hp
  clear hT hf hp hk
  have bl : b < w.heap.size := Tab.lt HT.out
  have T1 : Hid (Tab _ _ _ _) := Tab.later HT.out ((Below.refl w.heap.size w).alloc (Nat.le_refl _) (.cells (Iv .u8 p.b.key) 33))
  have lk := LK.out _ T1.out
  have i9 : Hid ((Try.prog.info? 33).map (·.size) = some (Iv .u8 p.b.key).size) := by show _ = _; rw [Iv_size, p.b.len]; exact infoA9
  obtain ⟨zB, hzB⟩ : ∃ x : Array Value, x = #[.int .u8 0, .int .u8 0, .int .u8 0, .int .u8 0, .int .u8 0, .int .u8 0, .int .u8 0, .int .u8 0, .int .u8 0, .int .i64 0, .int .i64 0, .int .i64 0] := ⟨_, rfl⟩
  have M0 : Hid (Rn w [(w.heap.size + 1, zB, 66), (w.heap.size, Iv .u8 p.b.key, 33)] ((w.alloc (.cells (Iv .u8 p.b.key) 33)).alloc (.cells zB 66))) := ((Rn.start w).alloc _ _).alloc' _ (by simp) _ _
  rw [hzB] at M0
  clear hzB
  go_enter Try.func19, Try.ntmps19
  go_wp2_with ((with_reducible refine wpList_id ?_); first
    | refine wpList_load_row rfl 33 _ rfl w.heap.size rfl _ (Iv .u8 p.b.key) _ _ (heap_alloc_new _ _) Try.underlying33 rfl i9.out ?_
    | refine wpList_put_row rfl 66 _ _ rfl (w.heap.size + 1) (plL p).toArray rfl rfl 66 _ (M0.out.at (.head _)) (plOk p).1 (plOk p).2.2.2 (plOk p).2.1 ?_)
  intro w2 hP2
  have M2 : Hid _ := M0.out.put hP2
  obtain ⟨n1, hn1⟩ : ∃ x, x = w.heap.size + 1 := ⟨_, rfl⟩
  rw [← hn1] at M2 ⊢
  clear hP2 M0 lk T1 hn1
  have RB : Hid _ := (row_last (M2.out.at (.head _))).2.2
  have i11 : Hid ((Try.prog.info? 37).map (·.size) = some (bkL (p.b)).length) := by show _ = _; rw [bkL_length]; exact infoB
  go_wp2_with ((with_reducible refine wpList_id ?_); first
    | refine wpList_load_mid rfl 37 _ rfl n1 0 rfl (bkL (p.b)) _ RB.out Try.underlying37 rfl i11.out ?_)
  refine (refilled_any (p.b) now w2 b1 b2 b3 b4 h5).mono ?_
  rintro e w3 ⟨rfl, hb3⟩
  obtain ⟨G, hG⟩ : ∃ x, x = grownB now (p.b) := ⟨_, rfl⟩
  rw [← hG]
  have HG : Hid _ := hG
  have g0 : 0 ≤ G := by rw [hG]; unfold grownB; omega
  have g1 : G ≤ 250000000 := by rw [hG]; unfold grownB; omega
  have M3 : Hid _ := M2.out.later hb3 (Nat.le_refl _)
  have i11b : Hid ((Try.prog.info? 37).map (·.size) = some (bkL (setBk (p.b) G now)).length) := by show _ = _; rw [bkL_length]; exact infoB
  clear hb3 hG M2 RB i11
  go_wp2_with ((with_reducible refine wpList_id ?_); first
    | refine wpList_put_part rfl 37 _ _ rfl n1 0 (bkL (setBk (p.b) G now)) rfl rfl (plL ⟨p.b, p.pos⟩) 66 (M3.out.at (.head _)) (plL ⟨setBk (p.b) G now, p.pos⟩) i11b.out (by rw [plL_length, bkL_length]; decide) (bkL_one _) (pl_put _ _ _) ?_)
  intro w4 hP4
  have M4 : Hid _ := M3.out.put hP4
  clear M3 hP4 i11b
  have c9 : w4.cell? ⟨n1, 9, none⟩ = some (.int .i64 G) := (row_last (M4.out.at (.head _))).2.1
  by_cases hps : 50000000 ≤ G
  · go_wp2_with ((with_reducible refine wpList_id ?_); first
      | refine wpList_put_val rfl 3 _ _ rfl n1 9 (.int .i64 (G - 50000000)) rfl rfl (plL ⟨setBk (p.b) G now, p.pos⟩) 66 (M4.out.at (.head _)) (by kernel_rfl) (by rw [plL_length]; decide) rfl (plL ⟨setBk (p.b) (G - 50000000) now, p.pos⟩) (pl_set _ _ _ _ _) ?_)
    intro w5 hP5
    have M5 : Hid _ := M4.out.put hP5
    have T5 : Hid (Tab _ _ _ _) := Tab.later HT.out M5.out.bel
    clear hP5 M4 c9
    go_wp2_with ((with_reducible refine wpList_id ?_); first
      | refine wpList_load_row rfl 33 _ rfl w.heap.size rfl _ (Iv .u8 p.b.key) _ _ (M5.out.at (.tail _ (.head _))) Try.underlying33 rfl i9.out ?_
      | refine wpList_load_row rfl 66 _ rfl n1 rfl _ (plL ⟨setBk (p.b) (G - 50000000) now, p.pos⟩).toArray _ _ (M5.out.at (.head _)) Try.underlying66 rfl (plOk _).1 ?_
      | refine wpList_putT rfl _ _ _ rfl b n ps rfl T5.out (by unfold maxLen; omega) ⟨setBk (p.b) (G - 50000000) now, p.pos⟩ rfl rfl ?_)
    intro w6 hT6 hg6
    have T6 : Hid (Tab _ _ _ _) := hT6
    have G6 : Hid (w.grownBy w6 (some b)) := ((below_grownBy M5.out.bel).but (some b)).andThen hg6 (fun j e => by cases e; right; rfl)
    clear hT6 hg6
    go_wp2_with fail
    go_ret
    have EP : passB now p.b = true := by unfold passB; rw [← HG.out]; simp [hps]
    refine ⟨?_, ?_, G6.out⟩
    · show Ending.returned (.bool true) = _
      unfold tookB
      rw [HF.out]
      show _ = Ending.returned (.bool (passB now p.b))
      rw [EP]
    · have e : takeL ps q m now = ⟨setBk p.b (G - 50000000) now, p.pos⟩ :: ps.filter (neK p) := by
        unfold takeL
        rw [HF.out]
        show _ :: _ = _
        unfold leftB
        rw [EP, ← HG.out]
        rfl
      rw [e]
      exact T6.out
  · have M5 : Hid _ := M4.out
    have T5 : Hid (Tab _ _ _ _) := Tab.later HT.out M5.out.bel
    clear M4
    go_wp2_with ((with_reducible refine wpList_id ?_); first
      | refine wpList_load_row rfl 33 _ rfl w.heap.size rfl _ (Iv .u8 p.b.key) _ _ (M5.out.at (.tail _ (.head _))) Try.underlying33 rfl i9.out ?_
      | refine wpList_load_row rfl 66 _ rfl n1 rfl _ (plL ⟨setBk (p.b) G now, p.pos⟩).toArray _ _ (M5.out.at (.head _)) Try.underlying66 rfl (plOk _).1 ?_
      | refine wpList_putT rfl _ _ _ rfl b n ps rfl T5.out (by unfold maxLen; omega) ⟨setBk (p.b) G now, p.pos⟩ rfl rfl ?_)
    intro w6 hT6 hg6
    have T6 : Hid (Tab _ _ _ _) := hT6
    have G6 : Hid (w.grownBy w6 (some b)) := ((below_grownBy M5.out.bel).but (some b)).andThen hg6 (fun j e => by cases e; right; rfl)
    clear hT6 hg6
    go_wp2_with fail
    go_ret
    have EP : passB now p.b = false := by unfold passB; rw [← HG.out]; simp [hps]
    refine ⟨?_, ?_, G6.out⟩
    · show Ending.returned (.bool false) = _
      unfold tookB
      rw [HF.out]
      show _ = Ending.returned (.bool (passB now p.b))
      rw [EP]
    · have e : takeL ps q m now = ⟨setBk p.b G now, p.pos⟩ :: ps.filter (neK p) := by
        unfold takeL
        rw [HF.out]
        show _ :: _ = _
        unfold leftB
        rw [EP, ← HG.out]
        rfl
      rw [e]
      exact T6.out
set_option maxRecDepth 10000 in
set_option maxHeartbeats 4000000 in
theorem take_no (ps : List Pl) (q : Bk) (b n : Nat) (m now : Int) (w : World) (hT : Tab w b n ps) (hn : n ≤ 5000) (hf : ps.find? (fun p => isK q p.b) = none) (h0 : 0 ≤ now) (h5 : now ≤ 9223372036854775807) :
    Calls Try.prog 19 #[.map (some b), .agg (Iv .u8 q.key), .int .i64 m, .int .i64 now] w fun e w' => TakeOut w b n ps q m now e w' := by
  have hk : ∀ p ∈ ps, p.b.key ≠ q.key := fun p hp => by have := List.find?_eq_none.1 hf p hp; simpa [isK] using this
  have HT : Hid (Tab _ _ _ _) := hT
  have HF : Hid _ := hf
  have NK : Hid _ := hk
  have LK : Hid (∀ W, Tab W b n ps → (Instr.lookup 54 (.map (some b)) (.agg (Iv .u8 q.key)) true).run Try.prog W = .ok (.tuple #[.agg (plL zPl).toArray, .bool false]) W) := fun W h => Tab.lookNo h q hk
  clear hT hf hk
  have bl : b < w.heap.size := Tab.lt HT.out
  have T1 : Hid (Tab _ _ _ _) := Tab.later HT.out ((Below.refl w.heap.size w).alloc (Nat.le_refl _) (.cells (Iv .u8 q.key) 33))
  have lk := LK.out _ T1.out
  have i9 : Hid ((Try.prog.info? 33).map (·.size) = some (Iv .u8 q.key).size) := by show _ = _; rw [Iv_size, q.len]; exact infoA9
  obtain ⟨zB, hzB⟩ : ∃ x : Array Value, x = #[.int .u8 0, .int .u8 0, .int .u8 0, .int .u8 0, .int .u8 0, .int .u8 0, .int .u8 0, .int .u8 0, .int .u8 0, .int .i64 0, .int .i64 0, .int .i64 0] := ⟨_, rfl⟩
  have M0 : Hid (Rn w [(w.heap.size + 1, zB, 66), (w.heap.size, Iv .u8 q.key, 33)] ((w.alloc (.cells (Iv .u8 q.key) 33)).alloc (.cells zB 66))) := ((Rn.start w).alloc _ _).alloc' _ (by simp) _ _
  rw [hzB] at M0
  clear hzB
  go_enter Try.func19, Try.ntmps19
  go_wp2_with ((with_reducible refine wpList_id ?_); first
    | refine wpList_load_row rfl 33 _ rfl w.heap.size rfl _ (Iv .u8 q.key) _ _ (heap_alloc_new _ _) Try.underlying33 rfl i9.out ?_
    | refine wpList_put_row rfl 66 _ _ rfl (w.heap.size + 1) (plL zPl).toArray rfl rfl 66 _ (M0.out.at (.head _)) (plOk zPl).1 (plOk zPl).2.2.2 (plOk zPl).2.1 ?_)
  intro w2 hP2
  have M2 : Hid _ := M0.out.put hP2
  obtain ⟨n1, hn1⟩ : ∃ x, x = w.heap.size + 1 := ⟨_, rfl⟩
  rw [← hn1] at M2 ⊢
  clear hP2 M0 lk T1 hn1
  have T2 : Hid (Tab _ _ _ _) := Tab.later HT.out M2.out.bel
  have ln := Tab.len T2.out
  by_cases hm : m ≤ (ps.length : Int)
  · go_wp2_with fail
    go_ret
    refine ⟨?_, ?_, (below_grownBy M2.out.bel).but _⟩
    · show Ending.returned (.bool false) = _
      unfold tookB
      rw [HF.out]
      show _ = Ending.returned (.bool (if m ≤ (ps.length : Int) then false else true))
      rw [if_pos hm]
    · have e : takeL ps q m now = ps := by
        unfold takeL
        rw [HF.out]
        show (if m ≤ (ps.length : Int) then ps else _) = _
        rw [if_pos hm]
      rw [e]
      exact Tab.mono T2.out (Nat.le_succ _)
  · go_wp2_with ((with_reducible refine wpList_id ?_); first
      | refine wpList_load_row rfl 33 _ rfl w.heap.size rfl _ (Iv .u8 q.key) _ _ (M2.out.at (.tail _ (.head _))) Try.underlying33 rfl i9.out ?_
      | refine wpList_build_asL rfl 37 _ rfl (bkL (setBk q 250000000 now)).toArray [(0, .agg (Iv .u8 q.key)), (1, .int .i64 250000000), (2, .int .i64 now)] (by kernel_rfl) (builtBk2 q 250000000 now) ?_
      | refine wpList_build_asL rfl 66 _ rfl (plL ⟨setBk q 250000000 now, m⟩).toArray [(0, .agg (bkL (setBk q 250000000 now)).toArray), (1, .int .i64 m)] (by kernel_rfl) (builtPl (setBk q 250000000 now) m) ?_
      | refine wpList_put_row rfl 66 _ _ rfl n1 (plL ⟨setBk q 250000000 now, m⟩).toArray rfl rfl 66 _ (M2.out.at (.head _)) (plOk _).1 ((plOk _).2.2.1.trans (plOk _).2.2.1.symm) (plOk _).2.1 ?_)
    intro w2' hP2'
    have M2' : Hid _ := M2.out.put hP2'
    clear M2 hP2' T2 ln
    have M2 : Hid _ := M2'.out
    clear M2'
    have b1 : 0 ≤ (setBk q 250000000 now).tok := by show (0 : Int) ≤ 250000000; decide
    have b2 : (setBk q 250000000 now).tok ≤ 250000000 := by show (250000000 : Int) ≤ 250000000; decide
    have b3 : 0 ≤ (setBk q 250000000 now).last := h0
    have b4 : (setBk q 250000000 now).last ≤ now := Int.le_refl _
    have RB : Hid _ := (row_last (M2.out.at (.head _))).2.2
    have i11 : Hid ((Try.prog.info? 37).map (·.size) = some (bkL (setBk q 250000000 now)).length) := by show _ = _; rw [bkL_length]; exact infoB
    go_wp2_with ((with_reducible refine wpList_id ?_); first
      | refine wpList_load_mid rfl 37 _ rfl n1 0 rfl (bkL (setBk q 250000000 now)) _ RB.out Try.underlying37 rfl i11.out ?_)
    refine (refilled_any (setBk q 250000000 now) now w2' b1 b2 b3 b4 h5).mono ?_
    rintro e w3 ⟨rfl, hb3⟩
    obtain ⟨G, hG⟩ : ∃ x, x = grownB now (setBk q 250000000 now) := ⟨_, rfl⟩
    rw [← hG]
    have HG : Hid _ := hG
    have g0 : 0 ≤ G := by rw [hG]; unfold grownB; omega
    have g1 : G ≤ 250000000 := by rw [hG]; unfold grownB; omega
    have M3 : Hid _ := M2.out.later hb3 (Nat.le_refl _)
    have i11b : Hid ((Try.prog.info? 37).map (·.size) = some (bkL (setBk (setBk q 250000000 now) G now)).length) := by show _ = _; rw [bkL_length]; exact infoB
    clear hb3 hG M2 RB i11
    go_wp2_with ((with_reducible refine wpList_id ?_); first
      | refine wpList_put_part rfl 37 _ _ rfl n1 0 (bkL (setBk (setBk q 250000000 now) G now)) rfl rfl (plL ⟨setBk q 250000000 now, m⟩) 66 (M3.out.at (.head _)) (plL ⟨setBk (setBk q 250000000 now) G now, m⟩) i11b.out (by rw [plL_length, bkL_length]; decide) (bkL_one _) (pl_put _ _ _) ?_)
    intro w4 hP4
    have M4 : Hid _ := M3.out.put hP4
    clear M3 hP4 i11b
    have c9 : w4.cell? ⟨n1, 9, none⟩ = some (.int .i64 G) := (row_last (M4.out.at (.head _))).2.1
    by_cases hps : 50000000 ≤ G
    · go_wp2_with ((with_reducible refine wpList_id ?_); first
        | refine wpList_put_val rfl 3 _ _ rfl n1 9 (.int .i64 (G - 50000000)) rfl rfl (plL ⟨setBk (setBk q 250000000 now) G now, m⟩) 66 (M4.out.at (.head _)) (by kernel_rfl) (by rw [plL_length]; decide) rfl (plL ⟨setBk (setBk q 250000000 now) (G - 50000000) now, m⟩) (pl_set _ _ _ _ _) ?_)
      intro w5 hP5
      have M5 : Hid _ := M4.out.put hP5
      have T5 : Hid (Tab _ _ _ _) := Tab.later HT.out M5.out.bel
      clear hP5 M4 c9
      go_wp2_with ((with_reducible refine wpList_id ?_); first
        | refine wpList_load_row rfl 33 _ rfl w.heap.size rfl _ (Iv .u8 q.key) _ _ (M5.out.at (.tail _ (.head _))) Try.underlying33 rfl i9.out ?_
        | refine wpList_load_row rfl 66 _ rfl n1 rfl _ (plL ⟨setBk (setBk q 250000000 now) (G - 50000000) now, m⟩).toArray _ _ (M5.out.at (.head _)) Try.underlying66 rfl (plOk _).1 ?_
        | refine wpList_putT rfl _ _ _ rfl b n ps rfl T5.out (by unfold maxLen; omega) ⟨setBk (setBk q 250000000 now) (G - 50000000) now, m⟩ rfl rfl ?_)
      intro w6 hT6 hg6
      have T6 : Hid (Tab _ _ _ _) := hT6
      have G6 : Hid (w.grownBy w6 (some b)) := ((below_grownBy M5.out.bel).but (some b)).andThen hg6 (fun j e => by cases e; right; rfl)
      clear hT6 hg6
      go_wp2_with fail
      go_ret
      have EG : G = 250000000 := by rw [HG.out]; show min (250000000 + min (now - now) 250000000) 250000000 = (250000000 : Int); omega
      refine ⟨?_, ?_, G6.out⟩
      · show Ending.returned (.bool true) = _
        unfold tookB
        rw [HF.out]
        show _ = Ending.returned (.bool (if m ≤ (ps.length : Int) then false else true))
        rw [if_neg (by omega)]
      · have e : takeL ps q m now = ⟨setBk q 200000000 now, m⟩ :: ps := by
          unfold takeL
          rw [HF.out]
          show (if m ≤ (ps.length : Int) then ps else _) = _
          rw [if_neg (by omega)]
        have h6 := T6.out
        rw [EG] at h6
        have e2 : ps.filter (neK ⟨setBk (setBk q 250000000 now) (250000000 - 50000000) now, m⟩) = ps := List.filter_eq_self.2 (fun p hp => by show decide (p.b.key ≠ q.key) = true; exact decide_eq_true (NK.out p hp))
        rw [e2] at h6
        rw [e]
        exact h6
    · have M5 : Hid _ := M4.out
      have T5 : Hid (Tab _ _ _ _) := Tab.later HT.out M5.out.bel
      clear M4
      go_wp2_with ((with_reducible refine wpList_id ?_); first
        | refine wpList_load_row rfl 33 _ rfl w.heap.size rfl _ (Iv .u8 q.key) _ _ (M5.out.at (.tail _ (.head _))) Try.underlying33 rfl i9.out ?_
        | refine wpList_load_row rfl 66 _ rfl n1 rfl _ (plL ⟨setBk (setBk q 250000000 now) G now, m⟩).toArray _ _ (M5.out.at (.head _)) Try.underlying66 rfl (plOk _).1 ?_
        | refine wpList_putT rfl _ _ _ rfl b n ps rfl T5.out (by unfold maxLen; omega) ⟨setBk (setBk q 250000000 now) G now, m⟩ rfl rfl ?_)
      intro w6 hT6 hg6
      have T6 : Hid (Tab _ _ _ _) := hT6
      have G6 : Hid (w.grownBy w6 (some b)) := ((below_grownBy M5.out.bel).but (some b)).andThen hg6 (fun j e => by cases e; right; rfl)
      clear hT6 hg6
      go_wp2_with fail
      go_ret
      exact absurd HG.out (by unfold grownB; simp [setBk]; omega)
end Go.Proofs.Ytcjbenmbenkcpaa
