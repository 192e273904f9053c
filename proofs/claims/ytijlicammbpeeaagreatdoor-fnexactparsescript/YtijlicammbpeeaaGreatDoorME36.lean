import Derived.Test.YtijlicammbpeeaaGreatDoorME35
import Derived.WalkMore
/- The program's 'ParseScript'. -/
namespace Go.Proofs.YtijlicammbpeeaaGreatDoor
open Go.RowKit
set_option linter.unusedVariables false
set_option linter.unusedSimpArgs false
theorem Kb.below {base bp B : Nat} {w w' : World} (h : Kb base bp w w') (h1 : B ≤ bp) (h2 : B ≤ base) : Below B w w' := ⟨h.os, h.tape, h.output, h.size, fun j hj => h.block j (by omega) (by omega)⟩
theorem infoFo1 : (Tryz.prog.info? (Tryz.prog.elem 55)).map (·.size) = some 1 := by kernel_rfl
theorem infoSt1 : (Tryz.prog.info? (Tryz.prog.elem 43)).map (·.size) = some 1 := by kernel_rfl
theorem drop_readP {fm : List UInt8} {r : List (List UInt8)} {k : Nat} {f : En} (h : k < fm.length) (hr : r.length = fm.length) : readP (fm.drop k) (r.drop k) f = (match wordP (fm.getD k 0) (r.getD k []) f with | .ok g => readP (fm.drop (k + 1)) (r.drop (k + 1)) g | .error j => .error j) := by
  have h2 : k < r.length := by omega
  rw [List.drop_eq_getElem_cons h, List.drop_eq_getElem_cons h2]
  simp only [readP, List.getD_eq_getElem?_getD, List.getElem?_eq_getElem h, List.getElem?_eq_getElem h2, Option.getD_some]
  cases wordP fm[k] r[k] f <;> rfl
theorem wordP_code {c : UInt8} {w : List UInt8} {e : En} {k : Int} (h : wordP c w e = .error k) : 2 ≤ k ∧ k ≤ 7 := by
  unfold wordP at h
  repeat' split at h
  all_goals first | (cases h; done) | (injection h with h; omega)
theorem run_first (s : List UInt8) (s0 : UInt8) (h : s.head? = some s0) (W : World) : (Instr.index 9 (.string ⟨s.toArray⟩) (.int .i64 0)).run Tryz.prog W = .ok (.int .u8 s0.toNat) W := by
  cases s with
  | nil => cases h
  | cons a t =>
    obtain rfl : a = s0 := by simpa using h
    have hs : (ByteArray.mk (a :: t).toArray).size = t.length + 1 := by show (a :: t).toArray.size = _; simp
    rw [run_index_string (P := Tryz.prog) W 9 _ .i64 _ Tryz.underlying9, dif_pos ⟨by omega, by rw [hs]; omega⟩]
    rfl
theorem putAny (x : PutK) (p : Ps) (cv ov : Value) (ds : List Value) (e : En) (d : Value) (bp base : Nat) (w : World) (hp : Pw base w bp p cv ov ds) (hcl : p.cl.length ≤ 1000000) (hop : p.ops.length ≤ 1000000) (hd : DV base w d e.op.data) (hda : ∀ v ∈ cv :: ov :: ds, ∀ k, v.ownBlock = some k → d.ownBlock ≠ some k) (f : Nat) (cap : Array Value) (hv : PutAt w (.func (.func f) #[] cap) x) :
    Calls Tryz.prog f (#[.pointer (some ⟨bp, 0, none⟩), .agg (enL e d).toArray] ++ cap) w fun y w' => y = .returned (.tuple #[]) ∧ PutW base bp w w' (putX x e p) := by
  cases x with
  | gate => cases hv; exact putGate_any p cv ov ds e d bp base w hp
  | queue => cases hv; exact putQueue_any p cv ov ds e d bp base w hp
  | table => cases hv; exact putTable_any p cv ov ds e d bp base w hp
  | client => cases hv; exact putClient_any p cv ov ds e d bp base w hp hcl
  | op k =>
    obtain ⟨b, hv, hc⟩ := hv
    cases hv
    exact putOp_any p cv ov ds e d bp base w hp hop b k hc hd (fun h => by have := (hd.lt _ h).2; omega) hda
theorem put_enters (w : World) (x : PutK) (f : Nat) (cap : Array Value) (hv : PutAt w (.func (.func f) #[] cap) x) (args : Array Value) (W : World) : (callFunc f args).run Tryz.prog W = .ok (.enter f args) W := by
  cases x with
  | gate => cases hv; exact enters_of Tryz.func29 (by kernel_rfl) rfl args W
  | queue => cases hv; exact enters_of Tryz.func31 (by kernel_rfl) rfl args W
  | table => cases hv; exact enters_of Tryz.func32 (by kernel_rfl) rfl args W
  | client => cases hv; exact enters_of Tryz.func35 (by kernel_rfl) rfl args W
  | op k =>
    obtain ⟨b, hv, hc⟩ := hv
    cases hv
    exact enters_of Tryz.func52 (by kernel_rfl) rfl args W
set_option maxRecDepth 10000 in
set_option maxHeartbeats 16000000 in
theorem implParse_any (t : List UInt8) (n : Nat) (hn : (ub t).length = n) (hn2 : n ≤ 1048576) (g o c : Nat) (w : World) (hs : Sl w g o (ub t)) (hg : Gl w) :
    Calls Tryz.prog 6 #[.slice (some ⟨g, o, none⟩) n c] w fun e w' => Below w.heap.size w w' ∧ ∃ v, e = .returned v ∧ ScriptR w.heap.size w' (scriptR t) v := by
  have hzv := zeroPa
  have hze := zeroEn
  have hzr : ∀ W, (zeroValue 58).run Tryz.prog W = .ok (.agg zR) W := fun W => by kernel_rfl
  have HN : Hid _ := hn
  have HS : Hid (Sl w g o (ub t)) := hs
  have HG : Hid _ := hg
  have F0 : Hid _ := (Rn.start w).alloc (paP Ps.zero (.slice none 0 0) (.slice none 0 0) 0 0).toArray 29
  have iz : Hid _ := infoPa
  have hnt : t.length = n := by rw [← hn, ub_length]
  have HNT : Hid _ := hnt
  clear hs hg
  by_cases hbig : 65536 < n
  · have HR : Hid (scriptR t = .error (1, 0)) := by show _ = _; rw [scriptR, if_pos (by omega)]
    have hq : ((65536 : Int) < (n : Int)) = True := by simp; omega
    have z1 : Hid ((w.alloc (.cells (paP Ps.zero (.slice none 0 0) (.slice none 0 0) 0 0).toArray 29)).heap[w.heap.size]? = some (.cells (paP Ps.zero (.slice none 0 0) (.slice none 0 0) 0 0).toArray 29)) := heap_alloc_new _ _
    have a1 : Hid _ := paP_all Ps.zero (.slice none 0 0) (.slice none 0 0) 1 0 rfl rfl
    clear hnt
    go_enter Tryz.func6, Tryz.ntmps6
    go_wp2_with fail
    go_step3
    go_wp2_with (first | (with_reducible refine aBd ?_; refine wpBuildP rfl _ _ rfl _ _ (by kernel_rfl) builtPa1 ?_) | (with_reducible refine aSt ?_; refine wpList_put_row rfl 29 _ _ rfl w.heap.size (paP Ps.zero (.slice none 0 0) (.slice none 0 0) 1 0).toArray rfl rfl _ _ z1.out (iz.out _ _ _ _ _) rfl a1.out ?_))
    intro W9 hP9
    have F9 : Hid _ := F0.out.put hP9
    go_wp2
    rw [Exit.noGoto_ret]
    exact bodyPost_ret (v := .agg (paP Ps.zero (.slice none 0 0) (.slice none 0 0) 1 0).toArray) (results_cell_row rfl _ _ _ _ (paP Ps.zero (.slice none 0 0) (.slice none 0 0) 1 0).toArray _ _ rfl (F9.out.at (.head _)) Tryz.underlying29 rfl (infoPa _ _ _ _ _)) rfl ⟨F9.out.bel, _, rfl, by rw [HR.out]; exact ⟨_, _, [], rfl, PsR.start _ _⟩⟩
  · have HR : Hid (scriptR t = parseE Ps.start 0 (linesU t)) := by show _ = _; rw [scriptR, if_neg (by omega)]
    have hq : ((65536 : Int) < (n : Int)) = False := by simp; omega
    go_enter Tryz.func6, Tryz.ntmps6
    go_wp2_with fail
    go_step3
    go_wp2_with fail
    refine (readers_any _).mono ?_
    rintro e Wt ⟨bm, es, rfl, hT, hes⟩
    have FT : Hid _ := F0.out.later hT.bel (Nat.le_refl _)
    have HT : Hid _ := hT
    have HES : Hid _ := hes
    have GT : Hid _ := HG.out.later FT.out.bel
    have F1 : Hid _ := FT.out.alloc (paP Ps.zero (.slice none 0 0) (.slice none 0 0) 0 0).toArray 29
    obtain ⟨bp, ebp⟩ : ∃ b, Wt.heap.size = b := ⟨_, rfl⟩
    have z1 : Hid ((Wt.alloc (.cells (paP Ps.zero (.slice none 0 0) (.slice none 0 0) 0 0).toArray 29)).heap[Wt.heap.size]? = some (.cells (paP Ps.zero (.slice none 0 0) (.slice none 0 0) 0 0).toArray 29)) := heap_alloc_new _ _
    have a1 : Hid _ := paP_all Ps.start (.slice none 0 0) (.slice none 0 0) 0 0 rfl rfl
    rw [ebp] at z1 F1
    have EBP : Hid _ := ebp
    have hwt : w.heap.size ≤ bp := by rw [← ebp]; exact FT.out.bel.size
    clear hT hes hnt F0
    go_wp2_with (first | (with_reducible refine aBd ?_; first | refine wpBuildP rfl _ _ rfl _ _ (by kernel_rfl) builtCf ?_ | refine wpBuildP rfl _ _ rfl _ _ (by kernel_rfl) builtPa0 ?_) | (with_reducible refine aSt ?_; refine wpList_put_row rfl 29 _ _ rfl bp (paP Ps.start (.slice none 0 0) (.slice none 0 0) 0 0).toArray rfl rfl _ _ z1.out (iz.out _ _ _ _ _) rfl a1.out ?_))
    intro Wx hPx
    have F2 : Hid _ := F1.out.put hPx
    have BTX : Hid (Below Wt.heap.size Wt Wx) := hPx.below _ _ ((Below.refl _ _).alloc (Nat.le_refl _) _) (by rw [← ebp]; exact Nat.le_refl _)
    have hcv := conv_ub (HS.out.later F2.out.bel HS.out.1) c n HN.out
    have GX : Hid _ := HG.out.later F2.out.bel
    clear hPx z1 a1 F1 ebp
    go_wp2_with fail
    go_step3
    go_wp2_with fail
    refine (split_any 10 t (by rw [HNT.out]; exact hn2) _ GX.out).mono ?_
    rintro e Wb ⟨rfl, eWb⟩
    have BXB : Hid (Below Wx.heap.size Wx Wb) := by rw [eWb]; exact (Below.refl _ _).alloc (Nat.le_refl _) _
    have zl : Hid (Wb.heap[Wx.heap.size]? = some (.cells ((linesU t).map strV).toArray 9)) := by show _ = _; rw [eWb]; exact heap_alloc_new _ _
    have sB : Wb.heap.size = Wx.heap.size + 1 := by rw [eWb]; simp
    have hbx : bp < Wx.heap.size := (F2.out.rw.row _ (.head _)).2.1
    have P0 : Hid (Pw Wb.heap.size Wb bp Ps.start (.slice none 0 0) (.slice none 0 0) []) := ⟨(BXB.out.block bp hbx).trans (F2.out.at (.head _)), PsR.start _ _, by omega, Nat.le_refl _⟩
    have GB : Hid _ := GX.out.later BXB.out
    have BWB : Hid (Below w.heap.size w Wb) := F2.out.bel.trans (BXB.out.mono F2.out.bel.size)
    have BTB : Hid (Below bp Wt Wb) := by
      have h1 := BTX.out
      rw [EBP.out] at h1
      exact h1.trans (BXB.out.mono (by omega))
    have Z0 : Hid (Wb.heap[w.heap.size]? = some (.cells (paP Ps.zero (.slice none 0 0) (.slice none 0 0) 0 0).toArray 29)) := (BXB.out.block w.heap.size (by omega)).trans (F2.out.at (.tail _ (.head _)))
    have hw0 : w.heap.size < bp := by
      have := (FT.out.rw.row _ (.head _)).2.1
      rw [EBP.out] at this
      exact this
    have h8 : Hid (8 ≤ bp) := by have := HG.out.size; show _ ≤ _; omega
    have hLL := lines_len t
    have HLN : Hid (∀ l ∈ linesU t, l.length ≤ n) := fun l hl => by have := line_len hl; have := HNT.out; omega
    have HNT2 := HNT.out
    obtain ⟨base, ebase⟩ : ∃ b, Wb.heap.size = b := ⟨_, rfl⟩
    obtain ⟨gl, egl⟩ : ∃ b, Wx.heap.size = b := ⟨_, rfl⟩
    rw [ebase] at P0 sB
    rw [egl] at zl sB hbx ⊢
    have HBASE : Hid _ := ebase
    have HLL : Hid (linesU t = Lib.splitK [10] 0 (Lib.count t [10]) t) := rfl
    rw [← HLL.out]
    generalize linesU t = LS at *
    obtain ⟨NL, hNL⟩ : ∃ m, LS.length = m := ⟨_, rfl⟩
    have HNL : Hid _ := hNL
    rw [hNL] at hLL ⊢
    have hNL2 : NL ≤ 65537 := by omega
    clear eWb hNL HNT2 hLL ebase egl hcv F2 BTX BXB GX FT HLL
    go_wp2
    go_loopw [23] (fun i wr => ∃ (k : Nat) (p : Ps) (cv ov : Value) (ds : List Value), k ≤ NL ∧ i = .int .i64 k ∧ Kb base bp Wb wr ∧ Pw base wr bp p cv ov ds ∧ p.cl.length + p.ops.length ≤ k ∧ parseE Ps.start 0 LS = parseE p k (LS.drop k)) (fun i _ => NL - (intOf i).toNat)
    case atStart => exact ⟨0, Ps.start, _, _, [], Nat.zero_le _, rfl, Kb.of_below (Below.refl base Wb) (Nat.le_refl _), P0.out, Nat.le_refl _, rfl⟩
    case round =>
      obtain ⟨k, p, cv, ov, ds, hk, rfl, hK, hP, hcnt, hpe⟩ := hrel
      have HK : Hid _ := hK
      have HP : Hid _ := hP
      have HPE : Hid _ := hpe
      clear hK hP hpe P0
      have BW0 : Hid (Below w.heap.size w wr) := BWB.out.trans (HK.out.below (by omega) (by omega))
      have GW0 : Hid _ := GB.out.low (HK.out.below (B := bp) (Nat.le_refl _) (by omega)) h8.out
      have BT0 : Hid (Below bp Wt wr) := BTB.out.trans (HK.out.below (Nat.le_refl _) (by omega))
      have zl0 : Hid (wr.heap[gl]? = some (.cells (LS.map strV).toArray 9)) := (HK.out.block gl (by omega) (by omega)).trans zl.out
      have z80 : Hid (wr.heap[w.heap.size]? = some (.cells (paP Ps.zero (.slice none 0 0) (.slice none 0 0) 0 0).toArray 29)) := (HK.out.block _ (by omega) (by omega)).trans Z0.out
      by_cases hlt : k < NL
      · have hkl : k < LS.length := by rw [HNL.out]; exact hlt
        obtain ⟨l, el⟩ : ∃ l, LS[k]? = some l := ⟨_, List.getElem?_eq_getElem hkl⟩
        have hmem : l ∈ LS := List.mem_of_getElem? el
        have hll := HLN.out _ hmem
        have HDR : Hid (LS.drop k = l :: LS.drop (k + 1)) := by
          show _ = _
          rw [List.drop_eq_getElem_cons hkl]
          rw [List.getElem?_eq_getElem hkl] at el
          rw [Option.some.inj el]
        have kl : wr.cell? ⟨gl, k, none⟩ = some (.string ⟨l.toArray⟩) := strs_at zl0.out k l el
        clear el hmem hkl
        go_wp2_with fail
        refine (fields_any l (by omega) wr).mono ?_
        rintro e w2 ⟨A, rfl, hA, hcells, hb2⟩
        have HP2 : Hid _ := HP.out.later hb2
        have HK2 : Hid _ := HK.out.trans (Kb.of_below hb2 HP.out.sz)
        have BW2 : Hid (Below w.heap.size w w2) := BW0.out.trans (hb2.mono BW0.out.size)
        have GW2 : Hid _ := GW0.out.later hb2
        have BT2 : Hid (Below bp Wt w2) := BT0.out.trans (hb2.mono (by have := HP.out.sz; omega))
        have z82 : Hid (w2.heap[w.heap.size]? = some (.cells (paP Ps.zero (.slice none 0 0) (.slice none 0 0) 0 0).toArray 29)) := (hb2.block _ (by have := HP.out.sz; omega)).trans z80.out
        have HC : Hid _ := hcells
        have HWL : Hid (∀ q ∈ fieldsU l, q.length ≤ l.length ∧ q ≠ []) := fun q hq => word_len hq
        have hwl := words_len l
        clear hb2 HP HK BW0 GW0 BT0 z80 hcells kl zl0
        cases hw : fieldsU l with
        | nil =>
          have HPE2 : Hid _ := HPE.out.trans (by rw [HDR.out, parse_skip hw])
          clear hw hwl HC
          go_wp2
          go_roundw
          case rel => exact ⟨k + 1, p, cv, ov, ds, by omega, by go_num, HK2.out, HP2.out, by omega, HPE2.out⟩
          case measure => simp [intOf]; omega
        | cons s r =>
          rw [hw] at hwl HC HWL
          have hsne := (HWL.out s (by simp)).2
          obtain ⟨s0, hsh⟩ : ∃ a, s.head? = some a := by
            cases s with
            | nil => exact absurd rfl hsne
            | cons a b => exact ⟨a, rfl⟩
          have ku : w2.cell? ⟨A, 0, none⟩ = some (.string ⟨s.toArray⟩) := HC.out 0 s rfl
          have hix := run_first s s0 hsh
          obtain ⟨N, hN⟩ : ∃ m, r.length + 1 = m := ⟨_, rfl⟩
          have hmN : (s :: r).length = N := by simp [hN]
          rw [hmN] at hwl ⊢
          have hNp : 1 ≤ N := by omega
          have hq0 : ((N : Int) == 0) = false := by simp; omega
          have hAw : Hid (A < w2.heap.size) := World.block_lt_of_cell? _ _ ku
          clear hsne hmN
          by_cases h35 : s0 = 35
          · have hq5 : ((s0.toNat : Int) == 35) = true := by rw [h35]; rfl
            have HPE2 : Hid _ := HPE.out.trans (by rw [HDR.out, parse_note hw (by rw [hsh, h35])])
            clear hw h35 hsh
            go_wp2
            go_roundw
            case rel => exact ⟨k + 1, p, cv, ov, ds, by omega, by go_num, HK2.out, HP2.out, by omega, HPE2.out⟩
            case measure => simp [intOf]; omega
          · have hq5 : ((s0.toNat : Int) == 35) = false := by
              simp
              intro h
              exact h35 (UInt8.toNat_inj.1 (by show s0.toNat = 35; omega))
            have HPE2 : Hid _ := HPE.out.trans (by rw [HDR.out, parse_line hw (by rw [hsh]; simpa using h35), ← line_same])
            have HFINE : Hid (∀ cd, lineP p (s :: r) = .error cd → scriptR t = .error (cd, ((k + 1 : Nat) : Int))) := fun cd h => by rw [HR.out, HPE2.out, h]
            clear hw h35 hsh HPE
            obtain ⟨w3, e3⟩ : ∃ v, w2.alloc (.cells (enL En.zero (.slice none 0 0)).toArray 54) = v := ⟨_, rfl⟩
            have hb3 : Below w2.heap.size w2 w3 := by rw [← e3]; exact (Below.refl _ _).alloc (Nat.le_refl _) _
            have ze : Hid (w3.heap[w2.heap.size]? = some (.cells (enL En.zero (.slice none 0 0)).toArray 54)) := by show _ = _; rw [← e3]; exact heap_alloc_new _ _
            have s3 : w3.heap.size = w2.heap.size + 1 := by rw [← e3]; simp
            have ku3 : w3.cell? ⟨A, 0, none⟩ = some (.string ⟨s.toArray⟩) := (hb3.cell (p := ⟨A, 0, none⟩) hAw.out).trans ku
            have HB3 : Hid _ := hb3
            have S3 : Hid _ := s3
            have KU3 : Hid _ := ku3
            clear s3 hb3 ku3
            go_wp2_with fail
            refine (readerFor_any s r N A N bm hN (by omega) _ Wt _ es HT.out (by rw [EBP.out]; exact BT2.out.trans (HB3.out.mono (by have := HP2.out.sz; omega))) HES.out KU3.out).mono ?_
            rintro e w4 ⟨hb4, hfr⟩
            obtain ⟨be, ebe⟩ : ∃ b, w2.heap.size = b := ⟨_, rfl⟩
            have B24 : Hid (Below w2.heap.size w2 w4) := HB3.out.trans (hb4.mono HB3.out.size)
            have ze4 : Hid (w4.heap[be]? = some (.cells (enL En.zero (.slice none 0 0)).toArray 54)) := by
              have h1 := (hb4.block w2.heap.size (by have := S3.out; omega)).trans ze.out
              rw [ebe] at h1
              exact h1
            have s4 : Hid (be < w4.heap.size) := (Array.getElem?_eq_some_iff.1 ze4.out).1
            obtain ⟨br, ebr⟩ : ∃ b, w4.heap.size = b := ⟨_, rfl⟩
            have zr4 : Hid ((w4.alloc (.cells zR 58)).heap[br]? = some (.cells zR 58)) := by show _ = _; rw [← ebr]; exact heap_alloc_new _ _
            have EBE : Hid _ := ebe
            have EBR : Hid _ := ebr
            have iR : Hid _ := infoRd
            have aR : Hid (zR.all (·.oneCell') = true) := by show _ = _; simp [zR, Value.oneCell']
            clear e3 hb4 HB3 ze S3 KU3 ku hix
            rw [ebe]
            clear ebe
            rcases hfr with ⟨hf, rfl⟩ | ⟨fm, kind, hf, hne, rfl⟩ | ⟨fm, kind, fv, pv, hf, hle, rfl, hfa, hpa⟩
            · have HLP : Hid (lineP p (s :: r) = .error 2) := by show _ = _; rw [lineP, hf]
              have HFIN : Hid _ := HFINE.out 2 HLP.out
              clear hf
              go_wp2_with (with_reducible refine aSt ?_; refine wpList_put_row rfl 58 _ _ rfl br zR rfl rfl _ _ zr4.out (iR.out _ rfl) rfl aR.out ?_)
              intro W5 hP5
              have B25 : Hid (Below w2.heap.size w2 W5) := hP5.below _ _ (B24.out.alloc B24.out.size _) (by have := B24.out.size; have := EBR.out; omega)
              have BW : Hid (Below w.heap.size w W5) := BW2.out.trans (B25.out.mono BW2.out.size)
              have z8 : Hid (W5.heap[w.heap.size]? = some (.cells (paP Ps.zero (.slice none 0 0) (.slice none 0 0) 0 0).toArray 29)) := (B25.out.block _ (by have := HP2.out.sz; omega)).trans z82.out
              clear hP5 ebr
              go_wp2
              go_loopw [10, 11] (fun c i wx => c = .int .i64 2 ∧ wx = W5) (fun _ _ _ => 0)
              case atStart => exact ⟨rfl, rfl⟩
              case round =>
                obtain ⟨rfl, rfl⟩ := hrel
                have BL : Hid _ := builtPa2 2 ((k + 1 : Nat) : Int)
                have a8 : Hid _ := paP_all Ps.zero (.slice none 0 0) (.slice none 0 0) 2 ((k + 1 : Nat) : Int) rfl rfl
                go_wp2_with (first | (with_reducible refine aBd ?_; refine wpBuildP rfl _ _ rfl _ _ (by kernel_rfl) BL.out ?_) | (with_reducible refine aSt ?_; refine wpList_put_row rfl 29 _ _ rfl w.heap.size (paP Ps.zero (.slice none 0 0) (.slice none 0 0) 2 ((k + 1 : Nat) : Int)).toArray rfl rfl _ _ z8.out (iz.out _ _ _ _ _) rfl a8.out ?_))
                intro W9 hP9
                go_wp2
                rw [Exit.noGoto_ret]
                exact bodyPost_ret (v := .agg (paP Ps.zero (.slice none 0 0) (.slice none 0 0) 2 ((k + 1 : Nat) : Int)).toArray) (results_cell_row rfl _ _ _ _ (paP Ps.zero (.slice none 0 0) (.slice none 0 0) 2 ((k + 1 : Nat) : Int)).toArray _ _ rfl hP9.here Tryz.underlying29 rfl (infoPa _ _ _ _ _)) rfl ⟨hP9.below _ _ BW.out (Nat.le_refl _), _, rfl, by rw [HFIN.out]; exact ⟨_, _, [], rfl, PsR.start _ _⟩⟩
            · have HLP : Hid (lineP p (s :: r) = .error 3) := by show _ = _; rw [lineP, hf]; simp only []; rw [if_neg hne]
              have HFIN : Hid _ := HFINE.out 3 HLP.out
              clear hf hne
              go_wp2_with (with_reducible refine aSt ?_; refine wpList_put_row rfl 58 _ _ rfl br zR rfl rfl _ _ zr4.out (iR.out _ rfl) rfl aR.out ?_)
              intro W5 hP5
              have B25 : Hid (Below w2.heap.size w2 W5) := hP5.below _ _ (B24.out.alloc B24.out.size _) (by have := B24.out.size; have := EBR.out; omega)
              have BW : Hid (Below w.heap.size w W5) := BW2.out.trans (B25.out.mono BW2.out.size)
              have z8 : Hid (W5.heap[w.heap.size]? = some (.cells (paP Ps.zero (.slice none 0 0) (.slice none 0 0) 0 0).toArray 29)) := (B25.out.block _ (by have := HP2.out.sz; omega)).trans z82.out
              clear hP5 ebr
              go_wp2
              go_loopw [10, 11] (fun c i wx => c = .int .i64 3 ∧ wx = W5) (fun _ _ _ => 0)
              case atStart => exact ⟨rfl, rfl⟩
              case round =>
                obtain ⟨rfl, rfl⟩ := hrel
                have BL : Hid _ := builtPa2 3 ((k + 1 : Nat) : Int)
                have a8 : Hid _ := paP_all Ps.zero (.slice none 0 0) (.slice none 0 0) 3 ((k + 1 : Nat) : Int) rfl rfl
                go_wp2_with (first | (with_reducible refine aBd ?_; refine wpBuildP rfl _ _ rfl _ _ (by kernel_rfl) BL.out ?_) | (with_reducible refine aSt ?_; refine wpList_put_row rfl 29 _ _ rfl w.heap.size (paP Ps.zero (.slice none 0 0) (.slice none 0 0) 3 ((k + 1 : Nat) : Int)).toArray rfl rfl _ _ z8.out (iz.out _ _ _ _ _) rfl a8.out ?_))
                intro W9 hP9
                go_wp2
                rw [Exit.noGoto_ret]
                exact bodyPost_ret (v := .agg (paP Ps.zero (.slice none 0 0) (.slice none 0 0) 3 ((k + 1 : Nat) : Int)).toArray) (results_cell_row rfl _ _ _ _ (paP Ps.zero (.slice none 0 0) (.slice none 0 0) 3 ((k + 1 : Nat) : Int)).toArray _ _ rfl hP9.here Tryz.underlying29 rfl (infoPa _ _ _ _ _)) rfl ⟨hP9.below _ _ BW.out (Nat.le_refl _), _, rfl, by rw [HFIN.out]; exact ⟨_, _, [], rfl, PsR.start _ _⟩⟩
            · have HLP : Hid (lineP p (s :: r) = (match readP fm r En.zero with | .ok f => .ok (putX (putOf s kind) f p) | .error k => .error k)) := by show _ = _; rw [lineP, hf]; simp only []; rw [if_pos hle]; cases readP fm r En.zero <;> rfl
              obtain ⟨hm3, hfb⟩ := formM_bytes hf
              have HFBS : Hid _ := hfb
              obtain ⟨fa, fc, rfl⟩ := hfa.lit
              obtain ⟨pf, pc, rfl⟩ := hpa.lit
              obtain ⟨m, hm⟩ : ∃ m, fm.length = m := ⟨_, rfl⟩
              have HFA : Hid (FormsAt Wt (.slice fa fm.length fc) fm) := hfa
              have HPA : Hid (PutAt Wt (.func (.func pf) #[] pc) (putOf s kind)) := hpa
              have HM : Hid _ := hm
              have HLE : Hid (r.length = m) := hle.trans hm
              rw [hm] at HFA hm3 ⊢
              have aV : Hid ((#[Value.slice fa m fc, .func (.func pf) #[] pc] : Array Value).all (·.oneCell') = true) := by show _ = _; simp [Value.oneCell']
              clear hf hfa hpa hfb hm hle
              go_wp2_with (with_reducible refine aSt ?_; refine wpList_put_row rfl 58 _ _ rfl br #[.slice fa m fc, .func (.func pf) #[] pc] rfl rfl _ _ zr4.out (iR.out _ rfl) rfl aV.out ?_)
              intro W5 hP5
              have B25 : Hid (Below w2.heap.size w2 W5) := hP5.below _ _ (B24.out.alloc B24.out.size _) (by have := B24.out.size; have := EBR.out; omega)
              have zr5 : Hid (W5.heap[br]? = some (.cells #[.slice fa m fc, .func (.func pf) #[] pc] 58)) := hP5.here
              have hbr : Hid (be < br) := by have := s4.out; have := EBR.out; show _ < _; omega
              have E5 : Hid (Ent W5.heap.size W5 be En.zero (.slice none 0 0)) := ⟨(hP5.far be (by have := hbr.out; omega)).trans ((heap_alloc_old _ _ s4.out).trans ze4.out), .inl ⟨rfl, rfl⟩, by simp [Value.ownBlock], Nat.le_refl _⟩
              have hAb : Hid (A < be) := by have := hAw.out; have := EBE.out; show _ < _; omega
              have P5 : Hid _ := HP2.out.later B25.out
              have K5 : Hid _ := HK2.out.trans (Kb.of_below B25.out HP2.out.sz)
              have BW5 : Hid (Below w.heap.size w W5) := BW2.out.trans (B25.out.mono BW2.out.size)
              have GW5 : Hid _ := GW2.out.later B25.out
              have BT5 : Hid (Below bp Wt W5) := BT2.out.trans (B25.out.mono (by have := HP2.out.sz; omega))
              have HC5 : Hid (∀ i q, (s :: r)[i]? = some q → W5.cell? ⟨A, i, none⟩ = some (.string ⟨q.toArray⟩)) := fun i q hq => (B25.out.cell (p := ⟨A, i, none⟩) hAw.out).trans (HC.out i q hq)
              have z85 : Hid (W5.heap[w.heap.size]? = some (.cells (paP Ps.zero (.slice none 0 0) (.slice none 0 0) 0 0).toArray 29)) := (B25.out.block _ (by have := HP2.out.sz; omega)).trans z82.out
              have hbeb : Hid (base ≤ be) := by have := HP2.out.sz; have := EBE.out; show _ ≤ _; omega
              have HVB : Hid (∀ v ∈ cv :: ov :: ds, ∀ x, v.ownBlock = some x → x < be) := fun v hv x hx => by have := (HP2.out.ps.lt hv x hx).2; have := EBE.out; omega
              have s5 : Hid (be < W5.heap.size) := E5.out.lt
              clear hP5 zr4 ze4 s4 B24 HC z82 BT2 GW2 BW2 B25 ebr
              go_wp2
              go_loopw [10, 11] (fun c i wx => ∃ j : Nat, j ≤ m ∧ i = .int .i64 j ∧ ((∃ e d, c = .int .i64 0 ∧ W5.grownBy wx (some be) ∧ Ent W5.heap.size wx be e d ∧ readP fm r En.zero = readP (fm.drop j) (r.drop j) e) ∨ (∃ cd, c = .int .i64 cd ∧ cd ≠ 0 ∧ lineP p (s :: r) = .error cd ∧ W5.grownBy wx (some be)))) (fun c i _ => if intOf c = 0 then m + 1 - (intOf i).toNat else 0)
              case atStart => exact ⟨0, Nat.zero_le _, rfl, .inl ⟨En.zero, _, rfl, by_weak (below_by (Below.refl _ _)), E5.out, rfl⟩⟩
              case round =>
                obtain ⟨j, hj, rfl, hst⟩ := hrel
                clear E5
                rcases hst with ⟨e, d, rfl, hby, hen, hre⟩ | ⟨cd, rfl, hcd, hlp, hby⟩
                · have HBY : Hid _ := hby
                  have HEN : Hid _ := hen
                  have HRE : Hid _ := hre
                  obtain ⟨wr2, ewr2⟩ : ∃ v, wr = v := ⟨_, rfl⟩
                  rw [ewr2] at HBY HEN ⊢
                  have zr : Hid (wr2.heap[br]? = some (.cells #[.slice fa m fc, .func (.func pf) #[] pc] 58)) := (HBY.out.block br (Array.getElem?_eq_some_iff.1 zr5.out).1 (fun e => by have := Option.some.inj e; have := hbr.out; omega)).trans zr5.out
                  have cr0 : wr2.cell? ⟨br, 0, none⟩ = some (.slice fa m fc) := by rw [cell_of_row _ _ _ _ _ _ zr.out]; rfl
                  have kbe : Hid (Kb base bp W5 wr2) := Kb.of_grown HBY.out (fun x hx => by cases hx; exact hbeb.out) (by have := s5.out; have := hbeb.out; omega)
                  have BTW : Hid (Below bp Wt wr2) := BT5.out.trans (kbe.out.below (Nat.le_refl _) (by omega))
                  have GW : Hid _ := GW5.out.low (kbe.out.below (B := bp) (Nat.le_refl _) (by omega)) h8.out
                  have HPW : Hid _ := P5.out.by HBY.out (by have := hbeb.out; omega) (fun v hv e => by have := HVB.out v hv _ e; omega)
                  clear hby hen hre ewr2
                  by_cases hjm : j < m
                  · obtain ⟨fg, rfl, hfc⟩ : ∃ fg, fa = some ⟨fg, 0, none⟩ ∧ ∀ i, i < m → Wt.cell? ⟨fg, i, none⟩ = some (.func (.func (formF (fm.getD i 0))) #[] #[]) := by
                      rcases HFA.out with ⟨_, h⟩ | ⟨g1, c1, h1, h2⟩
                      · have := HM.out; rw [h] at this; simp at this; omega
                      · refine ⟨g1, ?_, fun i hi => h2 i (by rw [HM.out]; exact hi)⟩
                        injection h1
                    have hfg : Hid (fg < be) := by
                      have h1 := World.block_lt_of_cell? _ _ (hfc j hjm)
                      have h2 : fg < Wt.heap.size := h1
                      have := EBP.out
                      have := hbeb.out
                      show _ < _
                      omega
                    have HDR2 : Hid _ := drop_readP (fm := fm) (r := r) (k := j) (f := e) (by rw [HM.out]; exact hjm) (by rw [HM.out]; exact HLE.out)
                    obtain ⟨fb, efb⟩ : ∃ b, fm.getD j 0 = b := ⟨_, rfl⟩
                    obtain ⟨q, eq⟩ : ∃ b, r.getD j [] = b := ⟨_, rfl⟩
                    rw [efb, eq] at HDR2
                    have HFB : Hid _ := HFBS.out fb (by rw [← efb, List.getD_eq_getElem?_getD, List.getElem?_eq_getElem (by rw [HM.out]; exact hjm)]; exact List.getElem_mem _)
                    have hrq : r[j]? = some q := by rw [List.getElem?_eq_getElem (by rw [HLE.out]; exact hjm), ← eq, List.getD_eq_getElem?_getD, List.getElem?_eq_getElem (by rw [HLE.out]; exact hjm)]; rfl
                    have hql : q.length ≤ 1048576 := by have := (HWL.out q (List.mem_cons_of_mem _ (List.mem_of_getElem? hrq))).1; omega
                    have cf : Hid (wr2.cell? ⟨fg, j, none⟩ = some (.func (.func (formF fb)) #[] #[])) := by
                      have h1 := hfc j hjm
                      rw [efb] at h1
                      exact (BTW.out.cell (p := ⟨fg, j, none⟩) (by have h2 := World.block_lt_of_cell? _ _ h1; have h3 : fg < Wt.heap.size := h2; rw [EBP.out] at h3; exact h3)).trans h1
                    have cq : Hid (wr2.cell? ⟨A, j + 1, none⟩ = some (.string ⟨q.toArray⟩)) := by
                      have h1 := HC5.out (j + 1) q (by simpa using hrq)
                      exact (World.cell?_of_block (a := ⟨A, j + 1, none⟩) (HBY.out.block A (World.block_lt_of_cell? _ _ h1) (fun e => by have := Option.some.inj e; have := hAb.out; omega))).trans h1
                    have hjq : ((j : Int) == (m : Int)) = false := by simp; omega
                    have hjN : j + 1 < N := by have := HLE.out; omega
                    clear efb eq hrq hfc
                    go_wp2_with fail
                    refine wp_region_tree 11 (fun v => ∃ x : Wp (fun v => v.heap[br]? = some (.cells #[.slice (some ⟨fg, 0, none⟩) m fc, .func (.func pf) #[] pc] 58) ∧ v.cell? ⟨fg, j, none⟩ = some (.func (.func (formF fb)) #[] #[]) ∧ v.cell? ⟨A, j + 1, none⟩ = some (.string ⟨q.toArray⟩)), v = x.w) (.held [0, 1, 2, 3, 4, 5, 6, 7, 8, 9] (.tail 10 (.last 11 .done))) mixedPs (by kernel_rfl) (Wp.mkE ⟨zr.out, cf.out, cq.out⟩) ?_
                    obtain ⟨wD, eD⟩ : ∃ v, wr2.drew = v := ⟨_, rfl⟩
                    rw [eD]
                    have EntD : Hid (Ent W5.heap.size wD be e d) := by rw [← eD]; exact HEN.out.later (below_drews (Below.refl _ _) 1)
                    have GD : Hid (Gl wD) := by rw [← eD]; exact GW.out.drew
                    have zrD : Hid (wD.heap[br]? = some (.cells #[.slice (some ⟨fg, 0, none⟩) m fc, .func (.func pf) #[] pc] 58)) := by show _ = _; rw [← eD]; exact zr.out
                    have cfD : Hid (wD.cell? ⟨fg, j, none⟩ = some (.func (.func (formF fb)) #[] #[])) := by show _ = _; rw [← eD]; exact cf.out
                    have cqD : Hid (wD.cell? ⟨A, j + 1, none⟩ = some (.string ⟨q.toArray⟩)) := by show _ = _; rw [← eD]; exact cq.out
                    have byD : Hid (W5.grownBy wD (some be)) := by rw [← eD]; exact grownBy_trans HBY.out (by_weak (below_by (below_drews (Below.refl _ _) 1)))
                    clear eD
                    refine wpTr_held ?_
                    simp only [opsAt_cons, opsAt_nil, nthOp_zero, nthOp_succ, List.cons_append, List.nil_append]
                    refine quietVal rfl (.pointer (some ⟨br, 0, none⟩)) (fun w' => by kernel_rfl) ?_
                    simp only [Act.put, List.setIfInBounds_toArray, List.set_cons_succ, List.set_cons_zero]
                    refine quietCell rfl 55 _ rfl ⟨br, 0, none⟩ rfl _ Tryz.underlying55 rfl (.slice (some ⟨fg, 0, none⟩) m fc) (fun v ⟨x, e⟩ => by rw [e, cell_of_row _ _ _ _ _ _ x.p.1]; rfl) ?_
                    simp only [Act.put, List.setIfInBounds_toArray, List.set_cons_succ, List.set_cons_zero]
                    refine quietVal rfl (.int .i64 j) (fun w' => by kernel_rfl) ?_
                    simp only [Act.put, List.setIfInBounds_toArray, List.set_cons_succ, List.set_cons_zero]
                    refine quietVal rfl (.pointer (some ⟨fg, j, none⟩)) (fun w' => run_idx 55 _ _ rfl fg m fc j rfl rfl Tryz.underlying55 infoFo1 hjm w') ?_
                    simp only [Act.put, List.setIfInBounds_toArray, List.set_cons_succ, List.set_cons_zero]
                    refine quietCell rfl 63 _ rfl ⟨fg, j, none⟩ rfl _ Tryz.underlying63 rfl (.func (.func (formF fb)) #[] #[]) (fun v ⟨x, e⟩ => by rw [e]; exact x.p.2.1) ?_
                    simp only [Act.put, List.setIfInBounds_toArray, List.set_cons_succ, List.set_cons_zero]
                    refine quietVal rfl (.slice (some ⟨A, 0, none⟩) N N) (fun w' => by kernel_rfl) ?_
                    simp only [Act.put, List.setIfInBounds_toArray, List.set_cons_succ, List.set_cons_zero]
                    refine quietVal rfl (.int .i64 j) (fun w' => by kernel_rfl) ?_
                    simp only [Act.put, List.setIfInBounds_toArray, List.set_cons_succ, List.set_cons_zero]
                    refine quietAdd rfl _ _ _ rfl (j : Int) 1 ((j + 1 : Nat) : Int) rfl rfl (by omega) (by omega) ?_
                    simp only [Act.put, List.setIfInBounds_toArray, List.set_cons_succ, List.set_cons_zero]
                    refine quietVal rfl (.pointer (some ⟨A, j + 1, none⟩)) (fun w' => run_idx 43 _ _ rfl A N N (j + 1) rfl rfl Tryz.underlying43 infoSt1 hjN w') ?_
                    simp only [Act.put, List.setIfInBounds_toArray, List.set_cons_succ, List.set_cons_zero]
                    refine quietCell rfl 9 _ rfl ⟨A, j + 1, none⟩ rfl _ Tryz.underlying9 rfl (.string ⟨q.toArray⟩) (fun v ⟨x, e⟩ => by rw [e]; exact x.p.2.2) ?_
                    simp only [Act.put, List.setIfInBounds_toArray, List.set_cons_succ, List.set_cons_zero]
                    refine wpQuiet_nil ?_
                    refine wpTr_tail ?_
                    simp only [opsAt_cons, opsAt_nil, nthOp_zero, nthOp_succ, List.cons_append, List.nil_append]
                    have hen := formF_enters fb HFB.out
                    go_wp2_with fail
                    refine (readForm_any fb HFB.out e d q hql be W5.heap.size wD EntD.out GD.out).mono ?_
                    rintro x w7 ⟨hby7, e1, d1, code, rfl, hh7, hd7, hn7, hres⟩
                    have BY7 : Hid (W5.grownBy w7 (some be)) := grownBy_trans byD.out hby7
                    have E7 : Hid (Ent W5.heap.size w7 be e1 d1) := ⟨hh7, hd7, hn7, Nat.le_trans EntD.out.base hby7.size⟩
                    have HRES : Hid _ := hres
                    have kp : ∀ b i u, b ≠ be → wD.cell? ⟨b, i, none⟩ = some u → w7.cell? ⟨b, i, none⟩ = some u := fun b i u hb hc => (World.cell?_of_block (a := ⟨b, i, none⟩) (hby7.block b (World.block_lt_of_cell? _ _ hc) (fun e => hb (Option.some.inj e)))).trans hc
                    have zr7 : Hid (w7.heap[br]? = some (.cells #[.slice (some ⟨fg, 0, none⟩) m fc, .func (.func pf) #[] pc] 58)) := (hby7.block br (Array.getElem?_eq_some_iff.1 zrD.out).1 (fun e => by have := Option.some.inj e; have := hbr.out; omega)).trans zrD.out
                    have cf7 : Hid (w7.cell? ⟨fg, j, none⟩ = some (.func (.func (formF fb)) #[] #[])) := kp _ _ _ (by have := hfg.out; omega) cfD.out
                    have cq7 : Hid (w7.cell? ⟨A, j + 1, none⟩ = some (.string ⟨q.toArray⟩)) := kp _ _ _ (by have := hAb.out; omega) cqD.out
                    clear hby7 hh7 hd7 hn7 hres kp hen EntD zrD cfD cqD byD GD
                    go_wp2_with fail
                    refine ⟨Wp.mkE ⟨zr7.out, cf7.out, cq7.out⟩, ?_⟩
                    refine wpTr_last ?_
                    simp only [opsAt_cons, opsAt_nil, nthOp_zero, nthOp_succ, List.cons_append, List.nil_append]
                    go_wp2_with fail
                    refine last_tr ?_
                    go_wp2
                    go_roundw
                    case rel =>
                      refine ⟨j + 1, by omega, by go_num, ?_⟩
                      cases hw : wordP fb q e with
                      | ok g =>
                        have h1 := HRES.out
                        rw [hw] at h1
                        obtain ⟨rfl, rfl⟩ := h1
                        exact .inl ⟨e1, d1, rfl, BY7.out, E7.out, HRE.out.trans (by rw [HDR2.out, hw])⟩
                      | error cd =>
                        have h1 := HRES.out
                        rw [hw] at h1
                        have h1 : code = cd := h1
                        subst h1
                        exact .inr ⟨code, rfl, by have := (wordP_code hw).1; omega, HLP.out.trans (by rw [HRE.out, HDR2.out, hw]), BY7.out⟩
                    case measure =>
                      simp only [intOf, if_true]
                      by_cases h0 : code = 0
                      · simp only [h0, if_true]; omega
                      · simp only [h0, if_false]; omega
                  · obtain rfl : m = j := by omega
                    have cr1 : wr2.cell? ⟨br, 1, none⟩ = some (.func (.func pf) #[] pc) := by rw [cell_of_row _ _ _ _ _ _ zr.out]; rfl
                    have zE : Hid (wr2.heap[be]? = some (.cells (enL e d).toArray 54)) := HEN.out.here
                    have iE : Hid _ := infoEn
                    have HPA2 : Hid (PutAt wr2 (.func (.func pf) #[] pc) (putOf s kind)) := HPA.out.later (by rw [EBP.out]; exact BTW.out)
                    have hen := put_enters wr2 (putOf s kind) pf pc HPA2.out
                    have HLO : Hid (lineP p (s :: r) = .ok (putX (putOf s kind) e p)) := by show _ = _; rw [HLP.out, HRE.out, List.drop_eq_nil_of_le (by rw [HM.out]; exact Nat.le_refl _), readP]
                    have hdv : Hid (DV base wr2 d e.op.data) := HEN.out.dv.mono (by have := s5.out; have := hbeb.out; omega)
                    have hda : Hid (∀ v ∈ cv :: ov :: ds, ∀ x, v.ownBlock = some x → d.ownBlock ≠ some x) := fun v hv x hx h => by have := HVB.out v hv x hx; have := (HEN.out.dv.lt x h).1; have := s5.out; omega
                    go_wp2_with (with_reducible refine aLd ?_; refine wpList_load_row rfl 54 _ rfl be rfl _ (enL e d).toArray _ _ zE.out Tryz.underlying54 rfl (iE.out _ _) ?_)
                    refine (putAny (putOf s kind) p cv ov ds e d bp base wr2 HPW.out (by omega) (by omega) hdv.out hda.out pf pc HPA2.out).mono ?_
                    rintro y w8 ⟨rfl, hK8, cv', ov', ds', hP8⟩
                    have K8 : Hid _ := (K5.out.trans kbe.out).trans hK8
                    have P8 : Hid _ := hP8
                    have hgr := lineE_grow ((line_same p (s :: r)).symm.trans HLO.out)
                    have HPE3 : Hid _ := HPE2.out.trans (by rw [HLO.out])
                    clear hK8 hP8 hen
                    go_wp2
                    go_roundw
                    case rel => exact ⟨k + 1, _, cv', ov', ds', by omega, by go_num, K8.out, P8.out, by omega, HPE3.out⟩
                    case measure => simp [intOf]; omega
                · have hq9 : (cd == 0) = false := by simpa using hcd
                  have HFIN : Hid _ := HFINE.out cd hlp
                  have kbe : Kb base bp W5 wr := Kb.of_grown hby (fun x hx => by cases hx; exact hbeb.out) (by have := s5.out; have := hbeb.out; omega)
                  have BW : Hid (Below w.heap.size w wr) := BW5.out.trans (kbe.below (by omega) (by omega))
                  have z8 : Hid (wr.heap[w.heap.size]? = some (.cells (paP Ps.zero (.slice none 0 0) (.slice none 0 0) 0 0).toArray 29)) := (kbe.block _ (by omega) (by omega)).trans z85.out
                  clear hby hlp kbe
                  have BL : Hid _ := builtPa2 cd ((k + 1 : Nat) : Int)
                  have a8 : Hid _ := paP_all Ps.zero (.slice none 0 0) (.slice none 0 0) cd ((k + 1 : Nat) : Int) rfl rfl
                  go_wp2_with (first | (with_reducible refine aBd ?_; refine wpBuildP rfl _ _ rfl _ _ (by kernel_rfl) BL.out ?_) | (with_reducible refine aSt ?_; refine wpList_put_row rfl 29 _ _ rfl w.heap.size (paP Ps.zero (.slice none 0 0) (.slice none 0 0) cd ((k + 1 : Nat) : Int)).toArray rfl rfl _ _ z8.out (iz.out _ _ _ _ _) rfl a8.out ?_))
                  intro W9 hP9
                  go_wp2
                  rw [Exit.noGoto_ret]
                  exact bodyPost_ret (v := .agg (paP Ps.zero (.slice none 0 0) (.slice none 0 0) cd ((k + 1 : Nat) : Int)).toArray) (results_cell_row rfl _ _ _ _ (paP Ps.zero (.slice none 0 0) (.slice none 0 0) cd ((k + 1 : Nat) : Int)).toArray _ _ rfl hP9.here Tryz.underlying29 rfl (infoPa _ _ _ _ _)) rfl ⟨hP9.below _ _ BW.out (Nat.le_refl _), _, rfl, by rw [HFIN.out]; exact ⟨_, _, [], rfl, PsR.start _ _⟩⟩
      · obtain rfl : k = NL := by omega
        have HFIN : Hid (scriptR t = .ok p) := by show _ = _; rw [HR.out, HPE.out, List.drop_eq_nil_of_le (by rw [HNL.out]; exact Nat.le_refl _), parseE]
        have y3 : Hid (wr.heap[bp]? = some (.cells (paP p cv ov 0 0).toArray 29)) := HP.out.here
        have y5 : Hid ((paP Ps.zero (.slice none 0 0) (.slice none 0 0) 0 0).toArray.size = (paP p cv ov 0 0).toArray.size) := by show _ = _; rw [List.size_toArray, List.size_toArray, paP_len, paP_len]
        have a8 : Hid _ := paP_all p cv ov 0 0 (owns_one HP.out.ps.cls) (owns_one HP.out.ps.opr)
        go_wp2_with (first
          | (with_reducible refine aLd ?_; refine wpList_load_row rfl 29 _ rfl bp rfl _ (paP p cv ov 0 0).toArray _ _ y3.out Tryz.underlying29 rfl (iz.out _ _ _ _ _) ?_)
          | (with_reducible refine aSt ?_; refine wpList_put_row rfl 29 _ _ rfl w.heap.size (paP p cv ov 0 0).toArray rfl rfl _ _ z80.out (iz.out _ _ _ _ _) y5.out a8.out ?_))
        intro W9 hP9
        go_wp2
        rw [Exit.noGoto_ret]
        exact bodyPost_ret (v := .agg (paP p cv ov 0 0).toArray) (results_cell_row rfl _ _ _ _ (paP p cv ov 0 0).toArray _ _ rfl hP9.here Tryz.underlying29 rfl (infoPa _ _ _ _ _)) rfl ⟨hP9.below _ _ BW0.out (Nat.le_refl _), _, rfl, by rw [HFIN.out]; exact ⟨_, _, ds, rfl, (HP.out.ps.put hP9 (fun v hv e => by have := (HP.out.ps.lt hv _ e).1; have := HP.out.lt; omega)).mono (by omega)⟩⟩
end Go.Proofs.YtijlicammbpeeaaGreatDoor
