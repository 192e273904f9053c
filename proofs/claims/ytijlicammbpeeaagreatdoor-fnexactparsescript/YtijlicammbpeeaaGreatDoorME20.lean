import Derived.Test.YtijlicammbpeeaaGreatDoorME17
/- The model's 'l8Word'. -/
namespace Go.Proofs.YtijlicammbpeeaaGreatDoor
open Go.RowKit
set_option linter.unusedVariables false
set_option linter.unusedSimpArgs false
theorem psRn2 (w : World) (a b : Array Value) (s t : TypeId) : ∃ n1 W, (w.alloc (.cells a s)).alloc (.cells b t) = W ∧ w.heap.size + 1 = n1 ∧ Hid (Rn w [(n1, b, t), (w.heap.size, a, s)] W) :=
  ⟨_, _, rfl, rfl, ((Rn.start w).alloc a s).alloc' _ (by simp) b t⟩
theorem info64 : (Tryz.prog.info? 3).map (·.size) = some 1 := by kernel_rfl
theorem infoS1 : (Tryz.prog.info? 22).map (·.size) = some 1 := by kernel_rfl
theorem infoK32 (l : List Int) (h : l.length = 32) : (Tryz.prog.info? 23).map (·.size) = some (u8s l).length := by rw [u8s_len, h]; kernel_rfl
theorem infoSvl (s : Sv) : (Tryz.prog.info? 50).map (·.size) = some (srL s).length := by rw [srL_len]; kernel_rfl
set_option maxRecDepth 10000 in
set_option maxHeartbeats 4000000 in
theorem l8Word_n (f : Fl) (d : Value) (s : List UInt8) (n : Nat) (hn : (ub s).length = n) (hn2 : n ≤ 1048576) (g o c base : Nat) (w : World) (hc : n ≤ c ∧ c ≤ 9223372036854775807) (hs : Sl w g o (ub s)) (hd : DV base w d f.data) (hB : base ≤ w.heap.size) :
    Calls Tryz.prog 27 #[.agg (flL f d).toArray, .int .u8 110, .slice (some ⟨g, o, none⟩) n c] w fun e w' => WordR base w w' (wordE 110 s f) e := by
  have hzv := zeroFl
  obtain ⟨n1, W, hW, hn1, F⟩ := psRn2 w (flL f d).toArray (flL Fl.zero (.slice none 0 0)).toArray 72 72
  have iz : Hid _ := infoFl
  have az : Hid _ := flL_all
  have lz : Hid _ := flL_len
  have HD : Hid (DV base W d f.data) := hd.later F.out.bel
  have HOC : Hid _ := hd.one
  have HDL : Hid _ := hd.lt
  have HS : Hid (Sl W g o (ub s)) := hs.later F.out.bel hs.1
  have HN : Hid _ := hn
  have HC : Hid _ := hc
  have hne : Hid (w.heap.size < n1) := by show _ < _; omega
  clear hs hd hn hc
  go_enter Tryz.func27, Tryz.ntmps27
  go_wp2_with fail
  refine (l8Number_any s n HN.out hn2 g o c _ HC.out HS.out).mono ?_
  rintro e W2 ⟨hb2, hv⟩
  have F2 : Hid _ := F.out.later hb2 (Nat.le_refl _)
  have D2 : Hid (DV base W2 d f.data) := HD.out.later hb2
  clear hb2 F hW
  rcases hv with ⟨v, hv, rfl⟩ | ⟨hv, rfl⟩
  · have HR : Hid (wordE 110 s f = .ok { f with n := v }) := by show _ = _; rw [wordE, if_pos rfl, hv]
    clear hv
    have zW3 : Hid (W2.heap[w.heap.size]? = some (.cells (flL f d).toArray 72)) := F2.out.at (.tail _ (.head _))
    have lW3 : Hid (32 < (flL f d).length) := by show _ < _; rw [flL_len]; decide
    have eW3 : Hid (_ = _) := flL_n f d v
    go_wp2_with (with_reducible refine aSt ?_; refine wpList_put_val rfl 3 _ _ rfl w.heap.size 32 (.int .i64 v) rfl rfl _ _ zW3.out info64 lW3.out rfl _ eW3.out ?_)
    intro W3 hPW3
    have F3 : Hid _ := F2.out.put1 hPW3
    have D3 : Hid (DV base W3 d f.data) := D2.out.put hPW3 (fun e => by have := (HDL.out _ e).2; omega)
    clear F2 zW3 hPW3 eW3
    have y3 : Hid (W3.heap[w.heap.size]? = some (.cells (flL { f with n := v } d).toArray 72)) := F3.out.at (.tail _ (.head _))
    have y6 : Hid (W3.heap[n1]? = some (.cells (flL Fl.zero (.slice none 0 0)).toArray 72)) := F3.out.at (.head _)
    have y7 : Hid ((flL Fl.zero (.slice none 0 0)).toArray.size = (flL { f with n := v } d).toArray.size) := by show _ = _; rw [List.size_toArray, List.size_toArray, flL_len, flL_len]
    go_wp2_with (first
      | (with_reducible refine aLd ?_; refine wpList_load_row rfl 72 _ rfl w.heap.size rfl _ (flL { f with n := v } d).toArray _ _ y3.out Tryz.underlying72 rfl (iz.out _ _) ?_)
      | (with_reducible refine aSt ?_; refine wpList_put_row rfl 72 _ _ rfl n1 (flL { f with n := v } d).toArray rfl rfl _ _ y6.out (iz.out _ _) y7.out (az.out _ _ HOC.out) ?_))
    intro W9 hP9
    have F9 : Hid _ := F3.out.put hP9
    go_wp2
    exact bodyPost_ret (v := .agg (flL { f with n := v } d).toArray) (results_cell_row rfl _ _ _ _ (flL { f with n := v } d).toArray _ _ rfl (F9.out.at (.head _)) Tryz.underlying72 rfl (infoFl _ _)) rfl ⟨F9.out.bel, _, _, rfl, D3.out.put hP9 (fun e => by have := (HDL.out _ e).2; have := hne.out; omega), by rw [HR.out]⟩
  · have HR : Hid (wordE 110 s f = .error 4) := by show _ = _; rw [wordE, if_pos rfl, hv]
    clear hv
    have zW3 : Hid (W2.heap[w.heap.size]? = some (.cells (flL f d).toArray 72)) := F2.out.at (.tail _ (.head _))
    have lW3 : Hid (32 < (flL f d).length) := by show _ < _; rw [flL_len]; decide
    have eW3 : Hid (_ = _) := flL_n f d 0
    go_wp2_with (with_reducible refine aSt ?_; refine wpList_put_val rfl 3 _ _ rfl w.heap.size 32 (.int .i64 0) rfl rfl _ _ zW3.out info64 lW3.out rfl _ eW3.out ?_)
    intro W3 hPW3
    have F3 : Hid _ := F2.out.put1 hPW3
    have D3 : Hid (DV base W3 d f.data) := D2.out.put hPW3 (fun e => by have := (HDL.out _ e).2; omega)
    clear F2 zW3 hPW3 eW3
    have zW4 : Hid (W3.heap[w.heap.size]? = some (.cells (flL { f with n := 0 } d).toArray 72)) := F3.out.at (.tail _ (.head _))
    have lW4 : Hid (53 < (flL { f with n := 0 } d).length) := by show _ < _; rw [flL_len]; decide
    have eW4 : Hid (_ = _) := flL_code { f with n := 0 } d 4
    go_wp2_with (with_reducible refine aSt ?_; refine wpList_put_val rfl 3 _ _ rfl w.heap.size 53 (.int .i64 4) rfl rfl _ _ zW4.out info64 lW4.out rfl _ eW4.out ?_)
    intro W4 hPW4
    have F4 : Hid _ := F3.out.put1 hPW4
    have D4 : Hid (DV base W4 d f.data) := D3.out.put hPW4 (fun e => by have := (HDL.out _ e).2; omega)
    clear F3 zW4 hPW4 eW4
    have y3 : Hid (W4.heap[w.heap.size]? = some (.cells (flL { f with n := 0, code := 4 } d).toArray 72)) := F4.out.at (.tail _ (.head _))
    have y6 : Hid (W4.heap[n1]? = some (.cells (flL Fl.zero (.slice none 0 0)).toArray 72)) := F4.out.at (.head _)
    have y7 : Hid ((flL Fl.zero (.slice none 0 0)).toArray.size = (flL { f with n := 0, code := 4 } d).toArray.size) := by show _ = _; rw [List.size_toArray, List.size_toArray, flL_len, flL_len]
    go_wp2_with (first
      | (with_reducible refine aLd ?_; refine wpList_load_row rfl 72 _ rfl w.heap.size rfl _ (flL { f with n := 0, code := 4 } d).toArray _ _ y3.out Tryz.underlying72 rfl (iz.out _ _) ?_)
      | (with_reducible refine aSt ?_; refine wpList_put_row rfl 72 _ _ rfl n1 (flL { f with n := 0, code := 4 } d).toArray rfl rfl _ _ y6.out (iz.out _ _) y7.out (az.out _ _ HOC.out) ?_))
    intro W9 hP9
    have F9 : Hid _ := F4.out.put hP9
    go_wp2
    exact bodyPost_ret (v := .agg (flL { f with n := 0, code := 4 } d).toArray) (results_cell_row rfl _ _ _ _ (flL { f with n := 0, code := 4 } d).toArray _ _ rfl (F9.out.at (.head _)) Tryz.underlying72 rfl (infoFl _ _)) rfl ⟨F9.out.bel, _, _, rfl, D4.out.put hP9 (fun e => by have := (HDL.out _ e).2; have := hne.out; omega), by rw [HR.out]⟩
set_option maxRecDepth 10000 in
set_option maxHeartbeats 4000000 in
theorem l8Word_s (f : Fl) (d : Value) (s : List UInt8) (n : Nat) (hn : (ub s).length = n) (hn2 : n ≤ 1048576) (g o c base : Nat) (w : World) (hc : n ≤ c ∧ c ≤ 9223372036854775807) (hs : Sl w g o (ub s)) (hd : DV base w d f.data) (hB : base ≤ w.heap.size) :
    Calls Tryz.prog 27 #[.agg (flL f d).toArray, .int .u8 115, .slice (some ⟨g, o, none⟩) n c] w fun e w' => WordR base w w' (wordE 115 s f) e := by
  have hzv := zeroFl
  obtain ⟨n1, W, hW, hn1, F⟩ := psRn2 w (flL f d).toArray (flL Fl.zero (.slice none 0 0)).toArray 72 72
  have iz : Hid _ := infoFl
  have az : Hid _ := flL_all
  have lz : Hid _ := flL_len
  have HD : Hid (DV base W d f.data) := hd.later F.out.bel
  have HOC : Hid _ := hd.one
  have HDL : Hid _ := hd.lt
  have HS : Hid (Sl W g o (ub s)) := hs.later F.out.bel hs.1
  have HN : Hid _ := hn
  have HC : Hid _ := hc
  have hne : Hid (w.heap.size < n1) := by show _ < _; omega
  clear hs hd hn hc
  go_enter Tryz.func27, Tryz.ntmps27
  go_wp2_with fail
  refine (l8Source_any s n HN.out hn2 g o c _ HS.out).mono ?_
  rintro e W2 ⟨hb2, sv, ok, rfl, hv⟩
  have F2 : Hid _ := F.out.later hb2 (Nat.le_refl _)
  have D2 : Hid (DV base W2 d f.data) := HD.out.later hb2
  clear hb2 F hW
  have z2 : Hid (W2.heap[w.heap.size]? = some (.cells (flL f d).toArray 72)) := F2.out.at (.tail _ (.head _))
  have q2 : Hid (33 + (srL sv).length ≤ (flL f d).length) := by show _ ≤ _; rw [srL_len, flL_len]; decide
  have q3 : Hid _ := infoSvl sv
  have q4 : Hid _ := srL_one sv
  have q5 : Hid _ := flL_src f d sv
  rcases hv with ⟨rfl, hv⟩ | ⟨rfl, hv⟩
  · have HR : Hid (wordE 115 s f = .ok { f with src := sv }) := by show _ = _; rw [wordE, if_neg (by decide), if_pos rfl, hv]
    clear hv
    go_wp2_with (with_reducible refine aSt ?_; refine wpList_put_part rfl 50 _ _ rfl w.heap.size 33 (srL sv) rfl rfl _ _ z2.out _ q3.out q2.out q4.out q5.out ?_)
    intro W3 hP3
    have F3 : Hid _ := F2.out.put1 hP3
    have D3 : Hid (DV base W3 d f.data) := D2.out.put hP3 (fun e => by have := (HDL.out _ e).2; omega)
    clear F2 z2 hP3 q2 q3 q4 q5
    have y3 : Hid (W3.heap[w.heap.size]? = some (.cells (flL { f with src := sv } d).toArray 72)) := F3.out.at (.tail _ (.head _))
    have y6 : Hid (W3.heap[n1]? = some (.cells (flL Fl.zero (.slice none 0 0)).toArray 72)) := F3.out.at (.head _)
    have y7 : Hid ((flL Fl.zero (.slice none 0 0)).toArray.size = (flL { f with src := sv } d).toArray.size) := by show _ = _; rw [List.size_toArray, List.size_toArray, flL_len, flL_len]
    go_wp2_with (first
      | (with_reducible refine aLd ?_; refine wpList_load_row rfl 72 _ rfl w.heap.size rfl _ (flL { f with src := sv } d).toArray _ _ y3.out Tryz.underlying72 rfl (iz.out _ _) ?_)
      | (with_reducible refine aSt ?_; refine wpList_put_row rfl 72 _ _ rfl n1 (flL { f with src := sv } d).toArray rfl rfl _ _ y6.out (iz.out _ _) y7.out (az.out _ _ HOC.out) ?_))
    intro W9 hP9
    have F9 : Hid _ := F3.out.put hP9
    go_wp2
    exact bodyPost_ret (v := .agg (flL { f with src := sv } d).toArray) (results_cell_row rfl _ _ _ _ (flL { f with src := sv } d).toArray _ _ rfl (F9.out.at (.head _)) Tryz.underlying72 rfl (infoFl _ _)) rfl ⟨F9.out.bel, _, _, rfl, D3.out.put hP9 (fun e => by have := (HDL.out _ e).2; have := hne.out; omega), by rw [HR.out]⟩
  · have HR : Hid (wordE 115 s f = .error 7) := by show _ = _; rw [wordE, if_neg (by decide), if_pos rfl, hv]
    clear hv
    go_wp2_with (with_reducible refine aSt ?_; refine wpList_put_part rfl 50 _ _ rfl w.heap.size 33 (srL sv) rfl rfl _ _ z2.out _ q3.out q2.out q4.out q5.out ?_)
    intro W3 hP3
    have F3 : Hid _ := F2.out.put1 hP3
    have D3 : Hid (DV base W3 d f.data) := D2.out.put hP3 (fun e => by have := (HDL.out _ e).2; omega)
    clear F2 z2 hP3 q2 q3 q4 q5
    have zW4 : Hid (W3.heap[w.heap.size]? = some (.cells (flL { f with src := sv } d).toArray 72)) := F3.out.at (.tail _ (.head _))
    have lW4 : Hid (53 < (flL { f with src := sv } d).length) := by show _ < _; rw [flL_len]; decide
    have eW4 : Hid (_ = _) := flL_code { f with src := sv } d 7
    go_wp2_with (with_reducible refine aSt ?_; refine wpList_put_val rfl 3 _ _ rfl w.heap.size 53 (.int .i64 7) rfl rfl _ _ zW4.out info64 lW4.out rfl _ eW4.out ?_)
    intro W4 hPW4
    have F4 : Hid _ := F3.out.put1 hPW4
    have D4 : Hid (DV base W4 d f.data) := D3.out.put hPW4 (fun e => by have := (HDL.out _ e).2; omega)
    clear F3 zW4 hPW4 eW4
    have y3 : Hid (W4.heap[w.heap.size]? = some (.cells (flL { f with src := sv, code := 7 } d).toArray 72)) := F4.out.at (.tail _ (.head _))
    have y6 : Hid (W4.heap[n1]? = some (.cells (flL Fl.zero (.slice none 0 0)).toArray 72)) := F4.out.at (.head _)
    have y7 : Hid ((flL Fl.zero (.slice none 0 0)).toArray.size = (flL { f with src := sv, code := 7 } d).toArray.size) := by show _ = _; rw [List.size_toArray, List.size_toArray, flL_len, flL_len]
    go_wp2_with (first
      | (with_reducible refine aLd ?_; refine wpList_load_row rfl 72 _ rfl w.heap.size rfl _ (flL { f with src := sv, code := 7 } d).toArray _ _ y3.out Tryz.underlying72 rfl (iz.out _ _) ?_)
      | (with_reducible refine aSt ?_; refine wpList_put_row rfl 72 _ _ rfl n1 (flL { f with src := sv, code := 7 } d).toArray rfl rfl _ _ y6.out (iz.out _ _) y7.out (az.out _ _ HOC.out) ?_))
    intro W9 hP9
    have F9 : Hid _ := F4.out.put hP9
    go_wp2
    exact bodyPost_ret (v := .agg (flL { f with src := sv, code := 7 } d).toArray) (results_cell_row rfl _ _ _ _ (flL { f with src := sv, code := 7 } d).toArray _ _ rfl (F9.out.at (.head _)) Tryz.underlying72 rfl (infoFl _ _)) rfl ⟨F9.out.bel, _, _, rfl, D4.out.put hP9 (fun e => by have := (HDL.out _ e).2; have := hne.out; omega), by rw [HR.out]⟩
theorem flL_at52 (f : Fl) (d : Value) : (flL f d).toArray[52]? = some (.bool f.flag) := by
  have e : flL f d = (u8s f.key ++ (.int .i64 f.n :: (srL f.src ++ [d]))) ++ .bool f.flag :: [.int .i64 f.code] := by simp [flL]
  rw [List.getElem?_toArray, e, List.getElem?_append_right (by simp [srL_len, f.keyl])]
  simp [srL_len, f.keyl]
theorem Sl.put {y z : World} {g o b : Nat} {l : List Int} {cs : Array Value} {t : TypeId} (h : Sl y g o l) (hP : Put y b cs t z) (hne : b ≠ g) : Sl z g o l :=
  ⟨by rw [hP.size]; exact h.1, fun i hi => (World.cell?_of_block (a := ⟨g, o + i, none⟩) (hP.far g (Ne.symm hne))).trans (h.2 i hi)⟩
set_option maxRecDepth 10000 in
set_option maxHeartbeats 4000000 in
theorem l8Word_f (f : Fl) (d : Value) (s : List UInt8) (n : Nat) (hn : (ub s).length = n) (hn2 : n ≤ 1048576) (g o c base : Nat) (w : World) (hc : n ≤ c ∧ c ≤ 9223372036854775807) (hs : Sl w g o (ub s)) (hd : DV base w d f.data) (hB : base ≤ w.heap.size) :
    Calls Tryz.prog 27 #[.agg (flL f d).toArray, .int .u8 102, .slice (some ⟨g, o, none⟩) n c] w fun e w' => WordR base w w' (wordE 102 s f) e := by
  have hzv := zeroFl
  obtain ⟨n1, W, hW, hn1, F⟩ := psRn2 w (flL f d).toArray (flL Fl.zero (.slice none 0 0)).toArray 72 72
  have iz : Hid _ := infoFl
  have az : Hid _ := flL_all
  have lz : Hid _ := flL_len
  have HD : Hid (DV base W d f.data) := hd.later F.out.bel
  have HOC : Hid _ := hd.one
  have HDL : Hid _ := hd.lt
  have HS : Hid (Sl W g o (ub s)) := hs.later F.out.bel hs.1
  have HSB : Hid (g < w.heap.size) := hs.1
  have HN : Hid _ := hn
  have HC : Hid _ := hc
  have hne : Hid (w.heap.size < n1) := by show _ < _; omega
  clear hs hd hn hc
  go_enter Tryz.func27, Tryz.ntmps27
  have hcv := conv_ub HS.out c n HN.out
  by_cases hk : s = sKnown
  · have k1 : (s == [107, 110, 111, 119, 110]) = true := by rw [hk]; rfl
    have HR : Hid (wordE 102 s f = .ok { f with flag := true }) := by show _ = _; rw [wordE, if_neg (by decide), if_neg (by decide), if_pos rfl, if_pos hk]
    have z2 : Hid (W.heap[w.heap.size]? = some (.cells (flL f d).toArray 72)) := F.out.at (.tail _ (.head _))
    have l2 : Hid (52 < (flL f d).length) := by show _ < _; rw [flL_len]; decide
    have e2 : Hid (_ = _) := flL_flag f d true
    clear hk
    go_wp2_with (with_reducible refine aSt ?_; refine wpList_put_val rfl 4 _ _ rfl w.heap.size 52 (.bool true) rfl rfl _ _ z2.out infoB1 l2.out rfl _ e2.out ?_)
    intro W3 hP3
    have F3 : Hid _ := F.out.put1 hP3
    have D3 : Hid (DV base W3 d f.data) := HD.out.put hP3 (fun e => by have := (HDL.out _ e).2; omega)
    have c3 : W3.cell? ⟨w.heap.size, 52, none⟩ = some (.bool true) := by rw [cell_of_row _ _ _ _ _ _ (F3.out.at (.tail _ (.head _)))]; exact flL_at52 _ _
    have S3 : Hid (Sl W3 g o (ub s)) := HS.out.put hP3 (by have := HSB.out; omega)
    have hcv3 := conv_ub S3.out c n HN.out
    clear F z2 hP3 e2 l2 hcv hW
    have y3 : Hid (W3.heap[w.heap.size]? = some (.cells (flL { f with flag := true } d).toArray 72)) := F3.out.at (.tail _ (.head _))
    have y6 : Hid (W3.heap[n1]? = some (.cells (flL Fl.zero (.slice none 0 0)).toArray 72)) := F3.out.at (.head _)
    have y7 : Hid ((flL Fl.zero (.slice none 0 0)).toArray.size = (flL { f with flag := true } d).toArray.size) := by show _ = _; rw [List.size_toArray, List.size_toArray, flL_len, flL_len]
    go_wp2_with (first
      | (with_reducible refine aLd ?_; refine wpList_load_row rfl 72 _ rfl w.heap.size rfl _ (flL { f with flag := true } d).toArray _ _ y3.out Tryz.underlying72 rfl (iz.out _ _) ?_)
      | (with_reducible refine aSt ?_; refine wpList_put_row rfl 72 _ _ rfl n1 (flL { f with flag := true } d).toArray rfl rfl _ _ y6.out (iz.out _ _) y7.out (az.out _ _ HOC.out) ?_))
    intro W9 hP9
    have F9 : Hid _ := F3.out.put hP9
    go_wp2
    exact bodyPost_ret (v := .agg (flL { f with flag := true } d).toArray) (results_cell_row rfl _ _ _ _ (flL { f with flag := true } d).toArray _ _ rfl (F9.out.at (.head _)) Tryz.underlying72 rfl (infoFl _ _)) rfl ⟨F9.out.bel, _, _, rfl, D3.out.put hP9 (fun e => by have := (HDL.out _ e).2; have := hne.out; omega), by rw [HR.out]⟩
  · by_cases ho : s = sOther
    · have k1 : (s == [107, 110, 111, 119, 110]) = false := by simpa [sKnown] using hk
      have k2 : (s == [111, 116, 104, 101, 114]) = true := by rw [ho]; rfl
      have HR : Hid (wordE 102 s f = .ok { f with flag := false }) := by show _ = _; rw [wordE, if_neg (by decide), if_neg (by decide), if_pos rfl, if_neg hk, if_pos ho]
      have z2 : Hid (W.heap[w.heap.size]? = some (.cells (flL f d).toArray 72)) := F.out.at (.tail _ (.head _))
      have l2 : Hid (52 < (flL f d).length) := by show _ < _; rw [flL_len]; decide
      have e2 : Hid (_ = _) := flL_flag f d false
      clear hk ho
      go_wp2_with (with_reducible refine aSt ?_; refine wpList_put_val rfl 4 _ _ rfl w.heap.size 52 (.bool false) rfl rfl _ _ z2.out infoB1 l2.out rfl _ e2.out ?_)
      intro W3 hP3
      have F3 : Hid _ := F.out.put1 hP3
      have D3 : Hid (DV base W3 d f.data) := HD.out.put hP3 (fun e => by have := (HDL.out _ e).2; omega)
      have c3 : W3.cell? ⟨w.heap.size, 52, none⟩ = some (.bool false) := by rw [cell_of_row _ _ _ _ _ _ (F3.out.at (.tail _ (.head _)))]; exact flL_at52 _ _
      have S3 : Hid (Sl W3 g o (ub s)) := HS.out.put hP3 (by have := HSB.out; omega)
      have hcv3 := conv_ub S3.out c n HN.out
      clear F z2 hP3 e2 l2 hcv hW
      have y3 : Hid (W3.heap[w.heap.size]? = some (.cells (flL { f with flag := false } d).toArray 72)) := F3.out.at (.tail _ (.head _))
      have y6 : Hid (W3.heap[n1]? = some (.cells (flL Fl.zero (.slice none 0 0)).toArray 72)) := F3.out.at (.head _)
      have y7 : Hid ((flL Fl.zero (.slice none 0 0)).toArray.size = (flL { f with flag := false } d).toArray.size) := by show _ = _; rw [List.size_toArray, List.size_toArray, flL_len, flL_len]
      go_wp2_with (first
        | (with_reducible refine aLd ?_; refine wpList_load_row rfl 72 _ rfl w.heap.size rfl _ (flL { f with flag := false } d).toArray _ _ y3.out Tryz.underlying72 rfl (iz.out _ _) ?_)
        | (with_reducible refine aSt ?_; refine wpList_put_row rfl 72 _ _ rfl n1 (flL { f with flag := false } d).toArray rfl rfl _ _ y6.out (iz.out _ _) y7.out (az.out _ _ HOC.out) ?_))
      intro W9 hP9
      have F9 : Hid _ := F3.out.put hP9
      go_wp2
      exact bodyPost_ret (v := .agg (flL { f with flag := false } d).toArray) (results_cell_row rfl _ _ _ _ (flL { f with flag := false } d).toArray _ _ rfl (F9.out.at (.head _)) Tryz.underlying72 rfl (infoFl _ _)) rfl ⟨F9.out.bel, _, _, rfl, D3.out.put hP9 (fun e => by have := (HDL.out _ e).2; have := hne.out; omega), by rw [HR.out]⟩
    · have k1 : (s == [107, 110, 111, 119, 110]) = false := by simpa [sKnown] using hk
      have k2 : (s == [111, 116, 104, 101, 114]) = false := by simpa [sOther] using ho
      have HR : Hid (wordE 102 s f = .error 6) := by show _ = _; rw [wordE, if_neg (by decide), if_neg (by decide), if_pos rfl, if_neg hk, if_neg ho]
      have z2 : Hid (W.heap[w.heap.size]? = some (.cells (flL f d).toArray 72)) := F.out.at (.tail _ (.head _))
      have l2 : Hid (52 < (flL f d).length) := by show _ < _; rw [flL_len]; decide
      have e2 : Hid (_ = _) := flL_flag f d false
      clear hk ho
      go_wp2_with (with_reducible refine aSt ?_; refine wpList_put_val rfl 4 _ _ rfl w.heap.size 52 (.bool false) rfl rfl _ _ z2.out infoB1 l2.out rfl _ e2.out ?_)
      intro W3 hP3
      have F3 : Hid _ := F.out.put1 hP3
      have D3 : Hid (DV base W3 d f.data) := HD.out.put hP3 (fun e => by have := (HDL.out _ e).2; omega)
      have c3 : W3.cell? ⟨w.heap.size, 52, none⟩ = some (.bool false) := by rw [cell_of_row _ _ _ _ _ _ (F3.out.at (.tail _ (.head _)))]; exact flL_at52 _ _
      have S3 : Hid (Sl W3 g o (ub s)) := HS.out.put hP3 (by have := HSB.out; omega)
      have hcv3 := conv_ub S3.out c n HN.out
      clear F z2 hP3 e2 l2 hcv hW
      have zW4 : Hid (W3.heap[w.heap.size]? = some (.cells (flL { f with flag := false } d).toArray 72)) := F3.out.at (.tail _ (.head _))
      have lW4 : Hid (53 < (flL { f with flag := false } d).length) := by show _ < _; rw [flL_len]; decide
      have eW4 : Hid (_ = _) := flL_code { f with flag := false } d 6
      go_wp2_with (with_reducible refine aSt ?_; refine wpList_put_val rfl 3 _ _ rfl w.heap.size 53 (.int .i64 6) rfl rfl _ _ zW4.out info64 lW4.out rfl _ eW4.out ?_)
      intro W4 hPW4
      have F4 : Hid _ := F3.out.put1 hPW4
      have D4 : Hid (DV base W4 d f.data) := D3.out.put hPW4 (fun e => by have := (HDL.out _ e).2; omega)
      clear F3 zW4 hPW4 eW4
      have y3 : Hid (W4.heap[w.heap.size]? = some (.cells (flL { f with flag := false, code := 6 } d).toArray 72)) := F4.out.at (.tail _ (.head _))
      have y6 : Hid (W4.heap[n1]? = some (.cells (flL Fl.zero (.slice none 0 0)).toArray 72)) := F4.out.at (.head _)
      have y7 : Hid ((flL Fl.zero (.slice none 0 0)).toArray.size = (flL { f with flag := false, code := 6 } d).toArray.size) := by show _ = _; rw [List.size_toArray, List.size_toArray, flL_len, flL_len]
      go_wp2_with (first
        | (with_reducible refine aLd ?_; refine wpList_load_row rfl 72 _ rfl w.heap.size rfl _ (flL { f with flag := false, code := 6 } d).toArray _ _ y3.out Tryz.underlying72 rfl (iz.out _ _) ?_)
        | (with_reducible refine aSt ?_; refine wpList_put_row rfl 72 _ _ rfl n1 (flL { f with flag := false, code := 6 } d).toArray rfl rfl _ _ y6.out (iz.out _ _) y7.out (az.out _ _ HOC.out) ?_))
      intro W9 hP9
      have F9 : Hid _ := F4.out.put hP9
      go_wp2
      exact bodyPost_ret (v := .agg (flL { f with flag := false, code := 6 } d).toArray) (results_cell_row rfl _ _ _ _ (flL { f with flag := false, code := 6 } d).toArray _ _ rfl (F9.out.at (.head _)) Tryz.underlying72 rfl (infoFl _ _)) rfl ⟨F9.out.bel, _, _, rfl, D4.out.put hP9 (fun e => by have := (HDL.out _ e).2; have := hne.out; omega), by rw [HR.out]⟩
theorem own_eq {g o n c k : Nat} (h : (Value.slice (some ⟨g, o, none⟩) n c).ownBlock = some k) : g = k := by simpa [Value.ownBlock] using h
theorem pairs_len {l p : List Int} (h : pairsM l = some p) : p.length ≤ l.length := by
  unfold pairsM at h
  split at h
  · have := Option.some.inj h
    rw [← this, pvs_length]
    omega
  · cases h
set_option maxRecDepth 10000 in
set_option maxHeartbeats 4000000 in
theorem l8Word_k (f : Fl) (d : Value) (s : List UInt8) (n : Nat) (hn : (ub s).length = n) (hn2 : n ≤ 1048576) (g o c base : Nat) (w : World) (hc : n ≤ c ∧ c ≤ 9223372036854775807) (hs : Sl w g o (ub s)) (hd : DV base w d f.data) (hB : base ≤ w.heap.size) :
    Calls Tryz.prog 27 #[.agg (flL f d).toArray, .int .u8 107, .slice (some ⟨g, o, none⟩) n c] w fun e w' => WordR base w w' (wordE 107 s f) e := by
  have hzv := zeroFl
  obtain ⟨n1, W, hW, hn1, F⟩ := psRn2 w (flL f d).toArray (flL Fl.zero (.slice none 0 0)).toArray 72 72
  have iz : Hid _ := infoFl
  have az : Hid _ := flL_all
  have lz : Hid _ := flL_len
  have HD : Hid (DV base W d f.data) := hd.later F.out.bel
  have HOC : Hid _ := hd.one
  have HDL : Hid _ := hd.lt
  have HS : Hid (Sl W g o (ub s)) := hs.later F.out.bel hs.1
  have HN : Hid _ := hn
  have HC : Hid _ := hc
  have hne : Hid (w.heap.size < n1) := by show _ < _; omega
  clear hs hd hn hc
  go_enter Tryz.func27, Tryz.ntmps27
  have F1 : Hid (Rn w _ (W.alloc (.cells #[] 5))) := F.out.later ((Below.refl _ _).alloc (Nat.le_refl _) _) (Nat.le_refl _)
  have HWn : Hid (n1 < W.heap.size) := (F.out.rw.row _ (.head _)).2.1
  obtain ⟨W1, eW1⟩ : ∃ W1, W.alloc (.cells #[] 5) = W1 := ⟨_, rfl⟩
  have HE : Hid (OwnM W.heap.size W1 (.slice (some ⟨W.heap.size, 0, none⟩) 0 0) []) := by rw [← eW1]; exact ⟨W.heap.size, 0, #[], (0, 0), rfl, Nat.le_refl _, heap_alloc_new _ _, fun j hj => absurd hj (Nat.not_lt_zero _), Nat.le_refl _, by omega, rfl, rfl⟩
  have hbW : Below W.heap.size W W1 := by rw [← eW1]; exact (Below.refl _ _).alloc (Nat.le_refl _) _
  have S1 : Hid (Sl W1 g o (ub s)) := HS.out.later hbW HS.out.1
  have HBW : Hid (base ≤ W.heap.size) := by have := F.out.bel.size; show _ ≤ _; omega
  have HLW : Hid (W.heap.size ≤ W1.heap.size) := hbW.size
  rw [eW1] at F1
  clear hbW F
  go_wp2_with fail
  refine (l8Pairs_any (ub s) n HN.out hn2 g o c _ S1.out).mono ?_
  rintro e W2 ⟨hb2, hv⟩
  have F2 : Hid _ := F1.out.later hb2 (Nat.le_refl _)
  clear hb2 F1 hW eW1 S1
  rcases hv with ⟨p, x, hv, rfl, hown⟩ | ⟨hv, rfl⟩
  · obtain ⟨gp, ca, rfl, hbg, _⟩ := hown.sl
    have hnp2 : p.length ≤ 1048576 := by have := pairs_len hv; have := HN.out; omega
    have HX : Hid (∀ k, (Value.slice (some ⟨gp, 0, none⟩) p.length ca).ownBlock = some k → n1 < k) := fun k hk => by have := own_eq hk; have := HWn.out; have := HLW.out; omega
    have DX : Hid (DV base W2 (.slice (some ⟨gp, 0, none⟩) p.length ca) p) := .inr (hown.mono (by have := HBW.out; have := HLW.out; omega))
    obtain ⟨np, hnp⟩ : ∃ np, p.length = np := ⟨_, rfl⟩
    obtain ⟨a, ea⟩ : ∃ a : Option Addr, some ⟨gp, 0, none⟩ = a := ⟨_, rfl⟩
    rw [hnp] at hnp2 HX DX ⊢
    rw [ea] at HX DX ⊢
    have HRR : Hid (wordE 107 s f = if p.length = 32 then .ok { f with data := p, key := fitN 32 p, keyl := fitN_length _ _ } else .error 5) := by show _ = _; rw [wordE, if_neg (by decide), if_neg (by decide), if_neg (by decide), if_pos rfl, hv]
    clear ea hown hv hbg
    by_cases h32 : np = 32
    · have HR : Hid (wordE 107 s f = .ok { f with data := p, key := fitN 32 p, keyl := fitN_length _ _ }) := by show _ = _; rw [HRR.out, if_pos (by rw [hnp]; exact h32)]
      have q32 : ((np : Int) != 32) = false := by simp; omega
      clear h32
      have z5 : Hid (W2.heap[w.heap.size]? = some (.cells (flL f d).toArray 72)) := F2.out.at (.tail _ (.head _))
      have l5 : Hid (51 < (flL f d).length) := by show _ < _; rw [flL_len]; decide
      have e5 : Hid (_ = _) := flL_data f d (.slice a np ca) p
      go_wp2_with (with_reducible refine aSt ?_; refine wpList_put_val rfl 22 _ _ rfl w.heap.size 51 (.slice a np ca) rfl rfl _ _ z5.out infoS1 l5.out rfl _ e5.out ?_)
      intro W5 hP5
      have F5 : Hid _ := F2.out.put1 hP5
      have D5 : Hid (DV base W5 (.slice a np ca) p) := DX.out.put hP5 (fun e => by have := HX.out _ e; have := hne.out; omega)
      have R5 : Hid (RdB W5 a p) := D5.out.rd
      clear z5 l5 e5 hP5 F2 DX
      go_wp2_with fail
      refine (l1To32_fit p np hnp hnp2 a ca _ R5.out).mono ?_
      rintro e W6 ⟨rfl, hb6⟩
      have F6 : Hid _ := F5.out.later hb6 (Nat.le_refl _)
      have D6 : Hid (DV base W6 (.slice a np ca) p) := D5.out.later hb6
      have z6 : Hid (W6.heap[w.heap.size]? = some (.cells (flL { f with data := p } (.slice a np ca)).toArray 72)) := F6.out.at (.tail _ (.head _))
      have q2 : Hid (0 + (u8s (fitN 32 p)).length ≤ (flL { f with data := p } (.slice a np ca)).length) := by show _ ≤ _; rw [u8s_len, fitN_length, flL_len]; decide
      have q3 : Hid _ := infoK32 (fitN 32 p) (fitN_length _ _)
      have q4 : Hid _ := bytes_one (fitN 32 p)
      have q5 : Hid _ := flL_key { f with data := p } (.slice a np ca) (fitN 32 p) (fitN_length _ _)
      clear hb6 F5 D5 R5
      go_wp2_with (with_reducible refine aSt ?_; refine wpList_put_part rfl 23 _ _ rfl w.heap.size 0 (u8s (fitN 32 p)) rfl rfl _ _ z6.out _ q3.out q2.out q4.out q5.out ?_)
      intro W7 hP7
      have F7 : Hid _ := F6.out.put1 hP7
      have D7 : Hid (DV base W7 (.slice a np ca) p) := D6.out.put hP7 (fun e => by have := HX.out _ e; have := hne.out; omega)
      clear F6 z6 hP7 q2 q3 q4 q5 D6
      have y3 : Hid (W7.heap[w.heap.size]? = some (.cells (flL { f with data := p, key := fitN 32 p, keyl := fitN_length _ _ } (.slice a np ca)).toArray 72)) := F7.out.at (.tail _ (.head _))
      have y6 : Hid (W7.heap[n1]? = some (.cells (flL Fl.zero (.slice none 0 0)).toArray 72)) := F7.out.at (.head _)
      have y7 : Hid ((flL Fl.zero (.slice none 0 0)).toArray.size = (flL { f with data := p, key := fitN 32 p, keyl := fitN_length _ _ } (.slice a np ca)).toArray.size) := by show _ = _; rw [List.size_toArray, List.size_toArray, flL_len, flL_len]
      go_wp2_with (first
        | (with_reducible refine aLd ?_; refine wpList_load_row rfl 72 _ rfl w.heap.size rfl _ (flL { f with data := p, key := fitN 32 p, keyl := fitN_length _ _ } (.slice a np ca)).toArray _ _ y3.out Tryz.underlying72 rfl (iz.out _ _) ?_)
        | (with_reducible refine aSt ?_; refine wpList_put_row rfl 72 _ _ rfl n1 (flL { f with data := p, key := fitN 32 p, keyl := fitN_length _ _ } (.slice a np ca)).toArray rfl rfl _ _ y6.out (iz.out _ _) y7.out (az.out _ _ rfl) ?_))
      intro W9 hP9
      have F9 : Hid _ := F7.out.put hP9
      go_wp2
      exact bodyPost_ret (v := .agg (flL { f with data := p, key := fitN 32 p, keyl := fitN_length _ _ } (.slice a np ca)).toArray) (results_cell_row rfl _ _ _ _ (flL { f with data := p, key := fitN 32 p, keyl := fitN_length _ _ } (.slice a np ca)).toArray _ _ rfl (F9.out.at (.head _)) Tryz.underlying72 rfl (infoFl _ _)) rfl ⟨F9.out.bel, _, _, rfl, D7.out.put hP9 (fun e => by have := HX.out _ e; omega), by rw [HR.out]⟩
    · have HR : Hid (wordE 107 s f = .error 5) := by show _ = _; rw [HRR.out, if_neg (by rw [hnp]; exact h32)]
      have q32 : ((np : Int) != 32) = true := by simp; omega
      clear h32
      have z5 : Hid (W2.heap[w.heap.size]? = some (.cells (flL f d).toArray 72)) := F2.out.at (.tail _ (.head _))
      have l5 : Hid (51 < (flL f d).length) := by show _ < _; rw [flL_len]; decide
      have e5 : Hid (_ = _) := flL_data f d (.slice a np ca) p
      go_wp2_with (with_reducible refine aSt ?_; refine wpList_put_val rfl 22 _ _ rfl w.heap.size 51 (.slice a np ca) rfl rfl _ _ z5.out infoS1 l5.out rfl _ e5.out ?_)
      intro W5 hP5
      have F5 : Hid _ := F2.out.put1 hP5
      have D5 : Hid (DV base W5 (.slice a np ca) p) := DX.out.put hP5 (fun e => by have := HX.out _ e; have := hne.out; omega)
      have R5 : Hid (RdB W5 a p) := D5.out.rd
      clear z5 l5 e5 hP5 F2 DX
      go_wp2_with fail
      refine (l1To32_fit p np hnp hnp2 a ca _ R5.out).mono ?_
      rintro e W6 ⟨rfl, hb6⟩
      have F6 : Hid _ := F5.out.later hb6 (Nat.le_refl _)
      have D6 : Hid (DV base W6 (.slice a np ca) p) := D5.out.later hb6
      have z6 : Hid (W6.heap[w.heap.size]? = some (.cells (flL { f with data := p } (.slice a np ca)).toArray 72)) := F6.out.at (.tail _ (.head _))
      have q2 : Hid (0 + (u8s (fitN 32 p)).length ≤ (flL { f with data := p } (.slice a np ca)).length) := by show _ ≤ _; rw [u8s_len, fitN_length, flL_len]; decide
      have q3 : Hid _ := infoK32 (fitN 32 p) (fitN_length _ _)
      have q4 : Hid _ := bytes_one (fitN 32 p)
      have q5 : Hid _ := flL_key { f with data := p } (.slice a np ca) (fitN 32 p) (fitN_length _ _)
      clear hb6 F5 D5 R5
      go_wp2_with (with_reducible refine aSt ?_; refine wpList_put_part rfl 23 _ _ rfl w.heap.size 0 (u8s (fitN 32 p)) rfl rfl _ _ z6.out _ q3.out q2.out q4.out q5.out ?_)
      intro W7 hP7
      have F7 : Hid _ := F6.out.put1 hP7
      have D7 : Hid (DV base W7 (.slice a np ca) p) := D6.out.put hP7 (fun e => by have := HX.out _ e; have := hne.out; omega)
      clear F6 z6 hP7 q2 q3 q4 q5 D6
      have zW8 : Hid (W7.heap[w.heap.size]? = some (.cells (flL { f with data := p, key := fitN 32 p, keyl := fitN_length _ _ } (.slice a np ca)).toArray 72)) := F7.out.at (.tail _ (.head _))
      have lW8 : Hid (53 < (flL { f with data := p, key := fitN 32 p, keyl := fitN_length _ _ } (.slice a np ca)).length) := by show _ < _; rw [flL_len]; decide
      have eW8 : Hid (_ = _) := flL_code { f with data := p, key := fitN 32 p, keyl := fitN_length _ _ } (.slice a np ca) 5
      go_wp2_with (with_reducible refine aSt ?_; refine wpList_put_val rfl 3 _ _ rfl w.heap.size 53 (.int .i64 5) rfl rfl _ _ zW8.out info64 lW8.out rfl _ eW8.out ?_)
      intro W8 hPW8
      have F8 : Hid _ := F7.out.put1 hPW8
      have D8 : Hid (DV base W8 (.slice a np ca) p) := D7.out.put hPW8 (fun e => by have := HX.out _ e; have := hne.out; omega)
      clear F7 zW8 hPW8 eW8
      have y3 : Hid (W8.heap[w.heap.size]? = some (.cells (flL { f with data := p, key := fitN 32 p, keyl := fitN_length _ _, code := 5 } (.slice a np ca)).toArray 72)) := F8.out.at (.tail _ (.head _))
      have y6 : Hid (W8.heap[n1]? = some (.cells (flL Fl.zero (.slice none 0 0)).toArray 72)) := F8.out.at (.head _)
      have y7 : Hid ((flL Fl.zero (.slice none 0 0)).toArray.size = (flL { f with data := p, key := fitN 32 p, keyl := fitN_length _ _, code := 5 } (.slice a np ca)).toArray.size) := by show _ = _; rw [List.size_toArray, List.size_toArray, flL_len, flL_len]
      go_wp2_with (first
        | (with_reducible refine aLd ?_; refine wpList_load_row rfl 72 _ rfl w.heap.size rfl _ (flL { f with data := p, key := fitN 32 p, keyl := fitN_length _ _, code := 5 } (.slice a np ca)).toArray _ _ y3.out Tryz.underlying72 rfl (iz.out _ _) ?_)
        | (with_reducible refine aSt ?_; refine wpList_put_row rfl 72 _ _ rfl n1 (flL { f with data := p, key := fitN 32 p, keyl := fitN_length _ _, code := 5 } (.slice a np ca)).toArray rfl rfl _ _ y6.out (iz.out _ _) y7.out (az.out _ _ rfl) ?_))
      intro W9 hP9
      have F9 : Hid _ := F8.out.put hP9
      go_wp2
      exact bodyPost_ret (v := .agg (flL { f with data := p, key := fitN 32 p, keyl := fitN_length _ _, code := 5 } (.slice a np ca)).toArray) (results_cell_row rfl _ _ _ _ (flL { f with data := p, key := fitN 32 p, keyl := fitN_length _ _, code := 5 } (.slice a np ca)).toArray _ _ rfl (F9.out.at (.head _)) Tryz.underlying72 rfl (infoFl _ _)) rfl ⟨F9.out.bel, _, _, rfl, D8.out.put hP9 (fun e => by have := HX.out _ e; omega), by rw [HR.out]⟩
  · have HR : Hid (wordE 107 s f = .error 5) := by show _ = _; rw [wordE, if_neg (by decide), if_neg (by decide), if_neg (by decide), if_pos rfl, hv]
    obtain ⟨p, ep⟩ : ∃ p : List Int, p = [] := ⟨_, rfl⟩
    have hnp : p.length = 0 := by rw [ep]; rfl
    have hnp2 : (0 : Nat) ≤ 1048576 := by decide
    obtain ⟨a, ea⟩ : ∃ a : Option Addr, a = none := ⟨_, rfl⟩
    obtain ⟨np, enp⟩ : ∃ np : Nat, np = 0 := ⟨_, rfl⟩
    obtain ⟨ca, eca⟩ : ∃ ca : Nat, ca = 0 := ⟨_, rfl⟩
    have HX : Hid (∀ k, (Value.slice a np ca).ownBlock = some k → n1 < k) := fun k hk => by rw [ea] at hk; cases hk
    have DX : Hid (DV base W2 (.slice a np ca) p) := .inl ⟨by rw [ea, enp, eca], ep⟩
    rw [← enp] at hnp hnp2
    rw [show (Value.slice none 0 0) = .slice a np ca by rw [ea, enp, eca]]
    clear hv ep ea eca
    have q32 : ((np : Int) != 32) = true := by rw [enp]; rfl
    clear enp
    have z5 : Hid (W2.heap[w.heap.size]? = some (.cells (flL f d).toArray 72)) := F2.out.at (.tail _ (.head _))
    have l5 : Hid (51 < (flL f d).length) := by show _ < _; rw [flL_len]; decide
    have e5 : Hid (_ = _) := flL_data f d (.slice a np ca) p
    go_wp2_with (with_reducible refine aSt ?_; refine wpList_put_val rfl 22 _ _ rfl w.heap.size 51 (.slice a np ca) rfl rfl _ _ z5.out infoS1 l5.out rfl _ e5.out ?_)
    intro W5 hP5
    have F5 : Hid _ := F2.out.put1 hP5
    have D5 : Hid (DV base W5 (.slice a np ca) p) := DX.out.put hP5 (fun e => by have := HX.out _ e; have := hne.out; omega)
    have R5 : Hid (RdB W5 a p) := D5.out.rd
    clear z5 l5 e5 hP5 F2 DX
    go_wp2_with fail
    refine (l1To32_fit p np hnp hnp2 a ca _ R5.out).mono ?_
    rintro e W6 ⟨rfl, hb6⟩
    have F6 : Hid _ := F5.out.later hb6 (Nat.le_refl _)
    have D6 : Hid (DV base W6 (.slice a np ca) p) := D5.out.later hb6
    have z6 : Hid (W6.heap[w.heap.size]? = some (.cells (flL { f with data := p } (.slice a np ca)).toArray 72)) := F6.out.at (.tail _ (.head _))
    have q2 : Hid (0 + (u8s (fitN 32 p)).length ≤ (flL { f with data := p } (.slice a np ca)).length) := by show _ ≤ _; rw [u8s_len, fitN_length, flL_len]; decide
    have q3 : Hid _ := infoK32 (fitN 32 p) (fitN_length _ _)
    have q4 : Hid _ := bytes_one (fitN 32 p)
    have q5 : Hid _ := flL_key { f with data := p } (.slice a np ca) (fitN 32 p) (fitN_length _ _)
    clear hb6 F5 D5 R5
    go_wp2_with (with_reducible refine aSt ?_; refine wpList_put_part rfl 23 _ _ rfl w.heap.size 0 (u8s (fitN 32 p)) rfl rfl _ _ z6.out _ q3.out q2.out q4.out q5.out ?_)
    intro W7 hP7
    have F7 : Hid _ := F6.out.put1 hP7
    have D7 : Hid (DV base W7 (.slice a np ca) p) := D6.out.put hP7 (fun e => by have := HX.out _ e; have := hne.out; omega)
    clear F6 z6 hP7 q2 q3 q4 q5 D6
    have zW8 : Hid (W7.heap[w.heap.size]? = some (.cells (flL { f with data := p, key := fitN 32 p, keyl := fitN_length _ _ } (.slice a np ca)).toArray 72)) := F7.out.at (.tail _ (.head _))
    have lW8 : Hid (53 < (flL { f with data := p, key := fitN 32 p, keyl := fitN_length _ _ } (.slice a np ca)).length) := by show _ < _; rw [flL_len]; decide
    have eW8 : Hid (_ = _) := flL_code { f with data := p, key := fitN 32 p, keyl := fitN_length _ _ } (.slice a np ca) 5
    go_wp2_with (with_reducible refine aSt ?_; refine wpList_put_val rfl 3 _ _ rfl w.heap.size 53 (.int .i64 5) rfl rfl _ _ zW8.out info64 lW8.out rfl _ eW8.out ?_)
    intro W8 hPW8
    have F8 : Hid _ := F7.out.put1 hPW8
    have D8 : Hid (DV base W8 (.slice a np ca) p) := D7.out.put hPW8 (fun e => by have := HX.out _ e; have := hne.out; omega)
    clear F7 zW8 hPW8 eW8
    have y3 : Hid (W8.heap[w.heap.size]? = some (.cells (flL { f with data := p, key := fitN 32 p, keyl := fitN_length _ _, code := 5 } (.slice a np ca)).toArray 72)) := F8.out.at (.tail _ (.head _))
    have y6 : Hid (W8.heap[n1]? = some (.cells (flL Fl.zero (.slice none 0 0)).toArray 72)) := F8.out.at (.head _)
    have y7 : Hid ((flL Fl.zero (.slice none 0 0)).toArray.size = (flL { f with data := p, key := fitN 32 p, keyl := fitN_length _ _, code := 5 } (.slice a np ca)).toArray.size) := by show _ = _; rw [List.size_toArray, List.size_toArray, flL_len, flL_len]
    go_wp2_with (first
      | (with_reducible refine aLd ?_; refine wpList_load_row rfl 72 _ rfl w.heap.size rfl _ (flL { f with data := p, key := fitN 32 p, keyl := fitN_length _ _, code := 5 } (.slice a np ca)).toArray _ _ y3.out Tryz.underlying72 rfl (iz.out _ _) ?_)
      | (with_reducible refine aSt ?_; refine wpList_put_row rfl 72 _ _ rfl n1 (flL { f with data := p, key := fitN 32 p, keyl := fitN_length _ _, code := 5 } (.slice a np ca)).toArray rfl rfl _ _ y6.out (iz.out _ _) y7.out (az.out _ _ rfl) ?_))
    intro W9 hP9
    have F9 : Hid _ := F8.out.put hP9
    go_wp2
    exact bodyPost_ret (v := .agg (flL { f with data := p, key := fitN 32 p, keyl := fitN_length _ _, code := 5 } (.slice a np ca)).toArray) (results_cell_row rfl _ _ _ _ (flL { f with data := p, key := fitN 32 p, keyl := fitN_length _ _, code := 5 } (.slice a np ca)).toArray _ _ rfl (F9.out.at (.head _)) Tryz.underlying72 rfl (infoFl _ _)) rfl ⟨F9.out.bel, _, _, rfl, D8.out.put hP9 (fun e => by have := HX.out _ e; omega), by rw [HR.out]⟩
set_option maxRecDepth 10000 in
set_option maxHeartbeats 4000000 in
theorem l8Word_h (f : Fl) (d : Value) (s : List UInt8) (n : Nat) (hn : (ub s).length = n) (hn2 : n ≤ 1048576) (g o c base : Nat) (w : World) (hc : n ≤ c ∧ c ≤ 9223372036854775807) (hs : Sl w g o (ub s)) (hd : DV base w d f.data) (hB : base ≤ w.heap.size) :
    Calls Tryz.prog 27 #[.agg (flL f d).toArray, .int .u8 104, .slice (some ⟨g, o, none⟩) n c] w fun e w' => WordR base w w' (wordE 104 s f) e := by
  have hzv := zeroFl
  obtain ⟨n1, W, hW, hn1, F⟩ := psRn2 w (flL f d).toArray (flL Fl.zero (.slice none 0 0)).toArray 72 72
  have iz : Hid _ := infoFl
  have az : Hid _ := flL_all
  have lz : Hid _ := flL_len
  have HD : Hid (DV base W d f.data) := hd.later F.out.bel
  have HOC : Hid _ := hd.one
  have HDL : Hid _ := hd.lt
  have HS : Hid (Sl W g o (ub s)) := hs.later F.out.bel hs.1
  have HN : Hid _ := hn
  have HC : Hid _ := hc
  have hne : Hid (w.heap.size < n1) := by show _ < _; omega
  clear hs hd hn hc
  go_enter Tryz.func27, Tryz.ntmps27
  have F1 : Hid (Rn w _ (W.alloc (.cells #[] 5))) := F.out.later ((Below.refl _ _).alloc (Nat.le_refl _) _) (Nat.le_refl _)
  have HWn : Hid (n1 < W.heap.size) := (F.out.rw.row _ (.head _)).2.1
  obtain ⟨W1, eW1⟩ : ∃ W1, W.alloc (.cells #[] 5) = W1 := ⟨_, rfl⟩
  have HE : Hid (OwnM W.heap.size W1 (.slice (some ⟨W.heap.size, 0, none⟩) 0 0) []) := by rw [← eW1]; exact ⟨W.heap.size, 0, #[], (0, 0), rfl, Nat.le_refl _, heap_alloc_new _ _, fun j hj => absurd hj (Nat.not_lt_zero _), Nat.le_refl _, by omega, rfl, rfl⟩
  have hbW : Below W.heap.size W W1 := by rw [← eW1]; exact (Below.refl _ _).alloc (Nat.le_refl _) _
  have S1 : Hid (Sl W1 g o (ub s)) := HS.out.later hbW HS.out.1
  have HBW : Hid (base ≤ W.heap.size) := by have := F.out.bel.size; show _ ≤ _; omega
  have HLW : Hid (W.heap.size ≤ W1.heap.size) := hbW.size
  rw [eW1] at F1
  clear hbW F
  have hcv := conv_ub S1.out c n HN.out
  by_cases hm : s = [45]
  · have k1 : (s == [45]) = true := by rw [hm]; rfl
    obtain ⟨p, ep⟩ : ∃ p : List Int, p = [] := ⟨_, rfl⟩
    have HR : Hid (wordE 104 s f = .ok { f with data := p, key := fitN 32 p, keyl := fitN_length _ _ }) := by show _ = _; rw [ep, wordE, if_neg (by decide), if_neg (by decide), if_neg (by decide), if_neg (by decide), if_pos hm]
    have hnp : p.length = 0 := by rw [ep]; rfl
    have hnp2 : (0 : Nat) ≤ 1048576 := by decide
    have HX : Hid (∀ k, (Value.slice (some ⟨W.heap.size, 0, none⟩) 0 0).ownBlock = some k → n1 < k) := fun k hk => by have := own_eq hk; have := HWn.out; omega
    have DX : Hid (DV base W1 (.slice (some ⟨W.heap.size, 0, none⟩) 0 0) p) := .inr (by rw [ep]; exact HE.out.mono HBW.out)
    clear hm ep HE
    have z5 : Hid (W1.heap[w.heap.size]? = some (.cells (flL f d).toArray 72)) := F1.out.at (.tail _ (.head _))
    have l5 : Hid (51 < (flL f d).length) := by show _ < _; rw [flL_len]; decide
    have e5 : Hid (_ = _) := flL_data f d (.slice (some ⟨W.heap.size, 0, none⟩) 0 0) p
    go_wp2_with (with_reducible refine aSt ?_; refine wpList_put_val rfl 22 _ _ rfl w.heap.size 51 (.slice (some ⟨W.heap.size, 0, none⟩) 0 0) rfl rfl _ _ z5.out infoS1 l5.out rfl _ e5.out ?_)
    intro W5 hP5
    have F5 : Hid _ := F1.out.put1 hP5
    have D5 : Hid (DV base W5 (.slice (some ⟨W.heap.size, 0, none⟩) 0 0) p) := DX.out.put hP5 (fun e => by have := HX.out _ e; have := hne.out; omega)
    have R5 : Hid (RdB W5 (some ⟨W.heap.size, 0, none⟩) p) := D5.out.rd
    clear z5 l5 e5 hP5 F1 DX
    go_wp2_with fail
    refine (l1To32_fit p 0 hnp hnp2 (some ⟨W.heap.size, 0, none⟩) 0 _ R5.out).mono ?_
    rintro e W6 ⟨rfl, hb6⟩
    have F6 : Hid _ := F5.out.later hb6 (Nat.le_refl _)
    have D6 : Hid (DV base W6 (.slice (some ⟨W.heap.size, 0, none⟩) 0 0) p) := D5.out.later hb6
    have z6 : Hid (W6.heap[w.heap.size]? = some (.cells (flL { f with data := p } (.slice (some ⟨W.heap.size, 0, none⟩) 0 0)).toArray 72)) := F6.out.at (.tail _ (.head _))
    have q2 : Hid (0 + (u8s (fitN 32 p)).length ≤ (flL { f with data := p } (.slice (some ⟨W.heap.size, 0, none⟩) 0 0)).length) := by show _ ≤ _; rw [u8s_len, fitN_length, flL_len]; decide
    have q3 : Hid _ := infoK32 (fitN 32 p) (fitN_length _ _)
    have q4 : Hid _ := bytes_one (fitN 32 p)
    have q5 : Hid _ := flL_key { f with data := p } (.slice (some ⟨W.heap.size, 0, none⟩) 0 0) (fitN 32 p) (fitN_length _ _)
    clear hb6 F5 D5 R5
    go_wp2_with (with_reducible refine aSt ?_; refine wpList_put_part rfl 23 _ _ rfl w.heap.size 0 (u8s (fitN 32 p)) rfl rfl _ _ z6.out _ q3.out q2.out q4.out q5.out ?_)
    intro W7 hP7
    have F7 : Hid _ := F6.out.put1 hP7
    have D7 : Hid (DV base W7 (.slice (some ⟨W.heap.size, 0, none⟩) 0 0) p) := D6.out.put hP7 (fun e => by have := HX.out _ e; have := hne.out; omega)
    clear F6 z6 hP7 q2 q3 q4 q5 D6
    have y3 : Hid (W7.heap[w.heap.size]? = some (.cells (flL { f with data := p, key := fitN 32 p, keyl := fitN_length _ _ } (.slice (some ⟨W.heap.size, 0, none⟩) 0 0)).toArray 72)) := F7.out.at (.tail _ (.head _))
    have y6 : Hid (W7.heap[n1]? = some (.cells (flL Fl.zero (.slice none 0 0)).toArray 72)) := F7.out.at (.head _)
    have y7 : Hid ((flL Fl.zero (.slice none 0 0)).toArray.size = (flL { f with data := p, key := fitN 32 p, keyl := fitN_length _ _ } (.slice (some ⟨W.heap.size, 0, none⟩) 0 0)).toArray.size) := by show _ = _; rw [List.size_toArray, List.size_toArray, flL_len, flL_len]
    go_wp2_with (first
      | (with_reducible refine aLd ?_; refine wpList_load_row rfl 72 _ rfl w.heap.size rfl _ (flL { f with data := p, key := fitN 32 p, keyl := fitN_length _ _ } (.slice (some ⟨W.heap.size, 0, none⟩) 0 0)).toArray _ _ y3.out Tryz.underlying72 rfl (iz.out _ _) ?_)
      | (with_reducible refine aSt ?_; refine wpList_put_row rfl 72 _ _ rfl n1 (flL { f with data := p, key := fitN 32 p, keyl := fitN_length _ _ } (.slice (some ⟨W.heap.size, 0, none⟩) 0 0)).toArray rfl rfl _ _ y6.out (iz.out _ _) y7.out (az.out _ _ rfl) ?_))
    intro W9 hP9
    have F9 : Hid _ := F7.out.put hP9
    go_wp2
    exact bodyPost_ret (v := .agg (flL { f with data := p, key := fitN 32 p, keyl := fitN_length _ _ } (.slice (some ⟨W.heap.size, 0, none⟩) 0 0)).toArray) (results_cell_row rfl _ _ _ _ (flL { f with data := p, key := fitN 32 p, keyl := fitN_length _ _ } (.slice (some ⟨W.heap.size, 0, none⟩) 0 0)).toArray _ _ rfl (F9.out.at (.head _)) Tryz.underlying72 rfl (infoFl _ _)) rfl ⟨F9.out.bel, _, _, rfl, D7.out.put hP9 (fun e => by have := HX.out _ e; omega), by rw [HR.out]⟩
  · have k1 : (s == [45]) = false := by simpa using hm
    go_wp2_with fail
    refine (l8Pairs_any (ub s) n HN.out hn2 g o c _ S1.out).mono ?_
    rintro e W2 ⟨hb2, hv⟩
    have F2 : Hid _ := F1.out.later hb2 (Nat.le_refl _)
    clear hb2 F1 hW eW1 S1
    rcases hv with ⟨p, x, hv, rfl, hown⟩ | ⟨hv, rfl⟩
    · obtain ⟨gp, ca, rfl, hbg, _⟩ := hown.sl
      have hnp2 : p.length ≤ 1048576 := by have := pairs_len hv; have := HN.out; omega
      have HX : Hid (∀ k, (Value.slice (some ⟨gp, 0, none⟩) p.length ca).ownBlock = some k → n1 < k) := fun k hk => by have := own_eq hk; have := HWn.out; have := HLW.out; omega
      have DX : Hid (DV base W2 (.slice (some ⟨gp, 0, none⟩) p.length ca) p) := .inr (hown.mono (by have := HBW.out; have := HLW.out; omega))
      have HR : Hid (wordE 104 s f = .ok { f with data := p, key := fitN 32 p, keyl := fitN_length _ _ }) := by show _ = _; rw [wordE, if_neg (by decide), if_neg (by decide), if_neg (by decide), if_neg (by decide), if_neg hm, hv]
      clear hcv hm
      obtain ⟨np, hnp⟩ : ∃ np, p.length = np := ⟨_, rfl⟩
      obtain ⟨a, ea⟩ : ∃ a : Option Addr, some ⟨gp, 0, none⟩ = a := ⟨_, rfl⟩
      rw [hnp] at hnp2 HX DX ⊢
      rw [ea] at HX DX ⊢
      clear ea hown hv hbg
      have z5 : Hid (W2.heap[w.heap.size]? = some (.cells (flL f d).toArray 72)) := F2.out.at (.tail _ (.head _))
      have l5 : Hid (51 < (flL f d).length) := by show _ < _; rw [flL_len]; decide
      have e5 : Hid (_ = _) := flL_data f d (.slice a np ca) p
      go_wp2_with (with_reducible refine aSt ?_; refine wpList_put_val rfl 22 _ _ rfl w.heap.size 51 (.slice a np ca) rfl rfl _ _ z5.out infoS1 l5.out rfl _ e5.out ?_)
      intro W5 hP5
      have F5 : Hid _ := F2.out.put1 hP5
      have D5 : Hid (DV base W5 (.slice a np ca) p) := DX.out.put hP5 (fun e => by have := HX.out _ e; have := hne.out; omega)
      have R5 : Hid (RdB W5 a p) := D5.out.rd
      clear z5 l5 e5 hP5 F2 DX
      go_wp2_with fail
      refine (l1To32_fit p np hnp hnp2 a ca _ R5.out).mono ?_
      rintro e W6 ⟨rfl, hb6⟩
      have F6 : Hid _ := F5.out.later hb6 (Nat.le_refl _)
      have D6 : Hid (DV base W6 (.slice a np ca) p) := D5.out.later hb6
      have z6 : Hid (W6.heap[w.heap.size]? = some (.cells (flL { f with data := p } (.slice a np ca)).toArray 72)) := F6.out.at (.tail _ (.head _))
      have q2 : Hid (0 + (u8s (fitN 32 p)).length ≤ (flL { f with data := p } (.slice a np ca)).length) := by show _ ≤ _; rw [u8s_len, fitN_length, flL_len]; decide
      have q3 : Hid _ := infoK32 (fitN 32 p) (fitN_length _ _)
      have q4 : Hid _ := bytes_one (fitN 32 p)
      have q5 : Hid _ := flL_key { f with data := p } (.slice a np ca) (fitN 32 p) (fitN_length _ _)
      clear hb6 F5 D5 R5
      go_wp2_with (with_reducible refine aSt ?_; refine wpList_put_part rfl 23 _ _ rfl w.heap.size 0 (u8s (fitN 32 p)) rfl rfl _ _ z6.out _ q3.out q2.out q4.out q5.out ?_)
      intro W7 hP7
      have F7 : Hid _ := F6.out.put1 hP7
      have D7 : Hid (DV base W7 (.slice a np ca) p) := D6.out.put hP7 (fun e => by have := HX.out _ e; have := hne.out; omega)
      clear F6 z6 hP7 q2 q3 q4 q5 D6
      have y3 : Hid (W7.heap[w.heap.size]? = some (.cells (flL { f with data := p, key := fitN 32 p, keyl := fitN_length _ _ } (.slice a np ca)).toArray 72)) := F7.out.at (.tail _ (.head _))
      have y6 : Hid (W7.heap[n1]? = some (.cells (flL Fl.zero (.slice none 0 0)).toArray 72)) := F7.out.at (.head _)
      have y7 : Hid ((flL Fl.zero (.slice none 0 0)).toArray.size = (flL { f with data := p, key := fitN 32 p, keyl := fitN_length _ _ } (.slice a np ca)).toArray.size) := by show _ = _; rw [List.size_toArray, List.size_toArray, flL_len, flL_len]
      go_wp2_with (first
        | (with_reducible refine aLd ?_; refine wpList_load_row rfl 72 _ rfl w.heap.size rfl _ (flL { f with data := p, key := fitN 32 p, keyl := fitN_length _ _ } (.slice a np ca)).toArray _ _ y3.out Tryz.underlying72 rfl (iz.out _ _) ?_)
        | (with_reducible refine aSt ?_; refine wpList_put_row rfl 72 _ _ rfl n1 (flL { f with data := p, key := fitN 32 p, keyl := fitN_length _ _ } (.slice a np ca)).toArray rfl rfl _ _ y6.out (iz.out _ _) y7.out (az.out _ _ rfl) ?_))
      intro W9 hP9
      have F9 : Hid _ := F7.out.put hP9
      go_wp2
      exact bodyPost_ret (v := .agg (flL { f with data := p, key := fitN 32 p, keyl := fitN_length _ _ } (.slice a np ca)).toArray) (results_cell_row rfl _ _ _ _ (flL { f with data := p, key := fitN 32 p, keyl := fitN_length _ _ } (.slice a np ca)).toArray _ _ rfl (F9.out.at (.head _)) Tryz.underlying72 rfl (infoFl _ _)) rfl ⟨F9.out.bel, _, _, rfl, D7.out.put hP9 (fun e => by have := HX.out _ e; omega), by rw [HR.out]⟩
    · have HR : Hid (wordE 104 s f = .error 5) := by show _ = _; rw [wordE, if_neg (by decide), if_neg (by decide), if_neg (by decide), if_neg (by decide), if_neg hm, hv]
      obtain ⟨p, ep⟩ : ∃ p : List Int, p = [] := ⟨_, rfl⟩
      have hnp : p.length = 0 := by rw [ep]; rfl
      have hnp2 : (0 : Nat) ≤ 1048576 := by decide
      obtain ⟨a, ea⟩ : ∃ a : Option Addr, a = none := ⟨_, rfl⟩
      obtain ⟨np, enp⟩ : ∃ np : Nat, np = 0 := ⟨_, rfl⟩
      obtain ⟨ca, eca⟩ : ∃ ca : Nat, ca = 0 := ⟨_, rfl⟩
      have HX : Hid (∀ k, (Value.slice a np ca).ownBlock = some k → n1 < k) := fun k hk => by rw [ea] at hk; cases hk
      have DX : Hid (DV base W2 (.slice a np ca) p) := .inl ⟨by rw [ea, enp, eca], ep⟩
      rw [← enp] at hnp hnp2
      rw [show (Value.slice none 0 0) = .slice a np ca by rw [ea, enp, eca]]
      clear hv ep ea eca
      clear hcv hm enp
      have z5 : Hid (W2.heap[w.heap.size]? = some (.cells (flL f d).toArray 72)) := F2.out.at (.tail _ (.head _))
      have l5 : Hid (51 < (flL f d).length) := by show _ < _; rw [flL_len]; decide
      have e5 : Hid (_ = _) := flL_data f d (.slice a np ca) p
      go_wp2_with (with_reducible refine aSt ?_; refine wpList_put_val rfl 22 _ _ rfl w.heap.size 51 (.slice a np ca) rfl rfl _ _ z5.out infoS1 l5.out rfl _ e5.out ?_)
      intro W5 hP5
      have F5 : Hid _ := F2.out.put1 hP5
      have D5 : Hid (DV base W5 (.slice a np ca) p) := DX.out.put hP5 (fun e => by have := HX.out _ e; have := hne.out; omega)
      have R5 : Hid (RdB W5 a p) := D5.out.rd
      clear z5 l5 e5 hP5 F2 DX
      go_wp2_with fail
      refine (l1To32_fit p np hnp hnp2 a ca _ R5.out).mono ?_
      rintro e W6 ⟨rfl, hb6⟩
      have F6 : Hid _ := F5.out.later hb6 (Nat.le_refl _)
      have D6 : Hid (DV base W6 (.slice a np ca) p) := D5.out.later hb6
      have z6 : Hid (W6.heap[w.heap.size]? = some (.cells (flL { f with data := p } (.slice a np ca)).toArray 72)) := F6.out.at (.tail _ (.head _))
      have q2 : Hid (0 + (u8s (fitN 32 p)).length ≤ (flL { f with data := p } (.slice a np ca)).length) := by show _ ≤ _; rw [u8s_len, fitN_length, flL_len]; decide
      have q3 : Hid _ := infoK32 (fitN 32 p) (fitN_length _ _)
      have q4 : Hid _ := bytes_one (fitN 32 p)
      have q5 : Hid _ := flL_key { f with data := p } (.slice a np ca) (fitN 32 p) (fitN_length _ _)
      clear hb6 F5 D5 R5
      go_wp2_with (with_reducible refine aSt ?_; refine wpList_put_part rfl 23 _ _ rfl w.heap.size 0 (u8s (fitN 32 p)) rfl rfl _ _ z6.out _ q3.out q2.out q4.out q5.out ?_)
      intro W7 hP7
      have F7 : Hid _ := F6.out.put1 hP7
      have D7 : Hid (DV base W7 (.slice a np ca) p) := D6.out.put hP7 (fun e => by have := HX.out _ e; have := hne.out; omega)
      clear F6 z6 hP7 q2 q3 q4 q5 D6
      have zW8 : Hid (W7.heap[w.heap.size]? = some (.cells (flL { f with data := p, key := fitN 32 p, keyl := fitN_length _ _ } (.slice a np ca)).toArray 72)) := F7.out.at (.tail _ (.head _))
      have lW8 : Hid (53 < (flL { f with data := p, key := fitN 32 p, keyl := fitN_length _ _ } (.slice a np ca)).length) := by show _ < _; rw [flL_len]; decide
      have eW8 : Hid (_ = _) := flL_code { f with data := p, key := fitN 32 p, keyl := fitN_length _ _ } (.slice a np ca) 5
      go_wp2_with (with_reducible refine aSt ?_; refine wpList_put_val rfl 3 _ _ rfl w.heap.size 53 (.int .i64 5) rfl rfl _ _ zW8.out info64 lW8.out rfl _ eW8.out ?_)
      intro W8 hPW8
      have F8 : Hid _ := F7.out.put1 hPW8
      have D8 : Hid (DV base W8 (.slice a np ca) p) := D7.out.put hPW8 (fun e => by have := HX.out _ e; have := hne.out; omega)
      clear F7 zW8 hPW8 eW8
      have y3 : Hid (W8.heap[w.heap.size]? = some (.cells (flL { f with data := p, key := fitN 32 p, keyl := fitN_length _ _, code := 5 } (.slice a np ca)).toArray 72)) := F8.out.at (.tail _ (.head _))
      have y6 : Hid (W8.heap[n1]? = some (.cells (flL Fl.zero (.slice none 0 0)).toArray 72)) := F8.out.at (.head _)
      have y7 : Hid ((flL Fl.zero (.slice none 0 0)).toArray.size = (flL { f with data := p, key := fitN 32 p, keyl := fitN_length _ _, code := 5 } (.slice a np ca)).toArray.size) := by show _ = _; rw [List.size_toArray, List.size_toArray, flL_len, flL_len]
      go_wp2_with (first
        | (with_reducible refine aLd ?_; refine wpList_load_row rfl 72 _ rfl w.heap.size rfl _ (flL { f with data := p, key := fitN 32 p, keyl := fitN_length _ _, code := 5 } (.slice a np ca)).toArray _ _ y3.out Tryz.underlying72 rfl (iz.out _ _) ?_)
        | (with_reducible refine aSt ?_; refine wpList_put_row rfl 72 _ _ rfl n1 (flL { f with data := p, key := fitN 32 p, keyl := fitN_length _ _, code := 5 } (.slice a np ca)).toArray rfl rfl _ _ y6.out (iz.out _ _) y7.out (az.out _ _ rfl) ?_))
      intro W9 hP9
      have F9 : Hid _ := F8.out.put hP9
      go_wp2
      exact bodyPost_ret (v := .agg (flL { f with data := p, key := fitN 32 p, keyl := fitN_length _ _, code := 5 } (.slice a np ca)).toArray) (results_cell_row rfl _ _ _ _ (flL { f with data := p, key := fitN 32 p, keyl := fitN_length _ _, code := 5 } (.slice a np ca)).toArray _ _ rfl (F9.out.at (.head _)) Tryz.underlying72 rfl (infoFl _ _)) rfl ⟨F9.out.bel, _, _, rfl, D8.out.put hP9 (fun e => by have := HX.out _ e; omega), by rw [HR.out]⟩
end Go.Proofs.YtijlicammbpeeaaGreatDoor
