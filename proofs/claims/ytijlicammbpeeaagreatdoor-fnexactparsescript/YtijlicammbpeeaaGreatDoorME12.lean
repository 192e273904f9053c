import Derived.Test.YtijlicammbpeeaaGreatDoorME11
import Derived.Test.YtijlicammbpeeaaGreatDoorME06
import Derived.Test.YtijlicammbpeeaaGreatDoorME02
/- The model's cuts and words: 'l8Cut', 'l8Words'. -/
namespace Go.Proofs.YtijlicammbpeeaaGreatDoor
open Go.RowKit
set_option linter.unusedVariables false
set_option linter.unusedSimpArgs false
theorem cutF_take (c : Int) (l : List Int) (k : Nat) (h : k < l.length) : cutF c (l.take (k + 1)) = cutS c (cutF c (l.take k)) (l.getD k 0) := by
  rw [List.take_succ_eq_append_getElem h, cutF_snoc]
  simp [h]
theorem cutF_len (c : Int) (l : List Int) : (cutF c l).1.length + (cutF c l).2.length ≤ l.length := by
  induction l using snoc_ind with
  | h0 => simp [cutF_nil]
  | h1 l x ih =>
    rw [cutF_snoc, cutS]
    split <;> simp <;> omega
theorem cutB_len (c : Int) (l : List Int) : (cutB c l).length ≤ l.length + 1 := by
  have := cutF_len c l
  rw [cutB, List.length_append]
  simp
  omega
set_option maxHeartbeats 2000000 in
theorem l8Cut_any (c : Int) (l : List Int) (n : Nat) (hn : l.length = n) (hn2 : n ≤ 1048576) (g o cp : Nat) (w : World) (hs : Sl w g o l) :
    Calls Tryz.prog 12 #[.slice (some ⟨g, o, none⟩) n cp, .int .u8 c] w fun e w' => ∃ x us, e = .returned x ∧ Pt w (cutB c l) us x w' := by
  have HN : Hid _ := hn
  have HS : Hid (Sl w g o l) := hs
  have HC := cutF_take c l
  have HL := fun k => cutF_len c (l.take k)
  have HC2 : Hid _ := HC
  have HL2 : Hid _ := HL
  clear hn hs HC HL
  have S0 : Hid _ := Cu.open (Pt.start w w (Below.refl _ _))
  go_enter Tryz.func12, Tryz.ntmps12
  go_wp2
  go_loopw [5, 6, 13] (fun u p i wr => ∃ k us, k ≤ n ∧ i = .int .i64 (k : Nat) ∧ Cu w (cutF c (l.take k)).1 us (cutF c (l.take k)).2 u p wr) (fun _ _ i _ => n - (intOf i).toNat)
  case atStart =>
    refine ⟨0, [], Nat.zero_le _, rfl, ?_⟩
    have := S0.out
    simpa [cutF_nil] using this
  case round =>
    obtain ⟨k, us, hk, rfl, hO⟩ := hrel
    have HO : Hid _ := hO
    clear hO S0
    by_cases hlt : k < n
    · have c1 : wr.cell? ⟨g, o + k, none⟩ = some (.int .u8 (l.getD k 0)) := (HS.out.later HO.out.pt.bel HS.out.1).2 k (by rw [HN.out]; exact hlt)
      have h1 := HC2.out k (by rw [HN.out]; exact hlt)
      have h2 := HL2.out k
      rw [List.length_take, HN.out] at h2
      generalize cutF c (l.take k) = cf at *
      obtain ⟨ps, cur⟩ := cf
      have h3 : Hid (ps.length ≤ 10000000) := by show _ ≤ _; simp only [] at h2; omega
      have h4 : Hid (cur.length ≤ 10000000) := by show _ ≤ _; simp only [] at h2; omega
      generalize l.getD k 0 = z at *
      have H1 : Hid _ := h1
      clear h1 h2
      by_cases hz : z = c
      · subst hz
        rw [cutS, if_pos rfl] at H1
        obtain ⟨gp, cap, rfl, _⟩ := HO.out.own.sl
        go_wp2_with (at_builtin; refine pt_law HO.out.pt HO.out.own.slv HO.out.apart rfl (.tmp 20) (.tmp 22) rfl rfl rfl h3.out ?_)
        intro v' w' hP hg hb
        have S1 : Hid _ := Cu.open hP
        clear hP hg hb
        go_wp2
        go_roundw
        case rel => exact ⟨k + 1, _, by omega, by go_num, by rw [H1.out]; exact S1.out⟩
        case measure => simp [intOf]; omega
      · rw [cutS, if_neg hz] at H1
        go_wp2_with (at_builtin; refine cu_law HO.out z rfl (.tmp 25) (.tmp 27) rfl rfl rfl h4.out ?_)
        intro v' w' hP
        have S1 : Hid _ := hP
        clear hP
        go_wp2
        go_roundw
        case rel => exact ⟨k + 1, us, by omega, by go_num, by rw [H1.out]; exact S1.out⟩
        case measure => simp [intOf]; omega
    · obtain rfl : k = n := by omega
      have e1 : l.take k = l := List.take_of_length_le (by rw [HN.out]; exact Nat.le_refl _)
      rw [e1] at HO
      obtain ⟨gp, cap, rfl, _⟩ := HO.out.own.sl
      have h3 : Hid ((cutF c l).1.length ≤ 10000000) := by have := cutF_len c l; have := HN.out; show _ ≤ _; omega
      go_wp2_with (at_builtin; refine pt_law HO.out.pt HO.out.own.slv HO.out.apart rfl (.tmp 30) (.tmp 32) rfl rfl rfl h3.out ?_)
      intro v' w' hP hg hb
      have S1 : Hid _ := hP
      clear hP hg hb
      go_wp2
      go_ret
      exact ⟨_, _, rfl, S1.out⟩
end Go.Proofs.YtijlicammbpeeaaGreatDoor
/- The model's words: 'l8Words'. -/
namespace Go.Proofs.YtijlicammbpeeaaGreatDoor
open Go.RowKit
set_option linter.unusedVariables false
set_option linter.unusedSimpArgs false
theorem Rd.step {base : Nat} {W W' : World} {ps : List (List Int)} {v : Value} {blk blk' : Option Nat} (h : Rd base W ps v blk) (hg : W.grownBy W' blk) (hb : blk' = blk ∨ ∃ k, blk' = some k ∧ W.heap.size ≤ k) : Rd base W' ps v blk' := by
  have h2 := h.by hg
  rcases hb with rfl | ⟨k, rfl, hk⟩
  · exact h2
  · obtain ⟨us, g, c, rfl, h1, h3, h4, h5, h6⟩ := h.rd
    have h7 := (h.turn (.inr ⟨k, rfl, hk⟩)).rd
    exact ⟨us, g, c, rfl, Nat.lt_of_lt_of_le h1 hg.size, fun i u hu => (World.cell?_of_block (a := ⟨g, i, none⟩) (hg.block g h1 h5)).trans (h3 i u hu), h4.by hg h6, fun e => by have := Option.some.inj e; omega, h4.off k (.inr hk)⟩
def lsum (ps : List (List Int)) : Nat := (ps.map fun p => p.length + 1).sum
theorem lsum_append (a b : List (List Int)) : lsum (a ++ b) = lsum a + lsum b := by simp [lsum]
theorem cutF_sum (c : Int) (l : List Int) : lsum (cutF c l).1 + (cutF c l).2.length = l.length := by
  induction l using snoc_ind with
  | h0 => rfl
  | h1 l x ih =>
    rw [cutF_snoc, cutS]
    split
    · simp only [lsum_append, List.length_append, List.length_nil, List.length_cons]
      simp only [lsum, List.map_cons, List.map_nil, List.sum_cons, List.sum_nil]
      unfold lsum at ih
      omega
    · simp only [List.length_append, List.length_cons, List.length_nil]
      omega
theorem cutB_sum (c : Int) (l : List Int) : lsum (cutB c l) = l.length + 1 := by
  have := cutF_sum c l
  rw [cutB, lsum_append]
  simp only [lsum, List.map_cons, List.map_nil, List.sum_cons, List.sum_nil] at this ⊢
  omega
theorem full_len (ps : List (List Int)) : (full ps).length ≤ ps.length := List.length_filter_le _ _
def wdU (ps : List (List Int)) : List (List Int) := ps.flatMap fun p => full (cutB 9 p)
theorem wdU_len : ∀ ps : List (List Int), (wdU ps).length ≤ lsum ps
  | [] => Nat.le_refl _
  | p :: r => by
    have h1 := wdU_len r
    have h2 := full_len (cutB 9 p)
    have h3 := cutB_len 9 p
    simp only [wdU, List.flatMap_cons, List.length_append, lsum, List.map_cons, List.sum_cons] at h1 ⊢
    omega
theorem lsum_take (ps : List (List Int)) (i : Nat) (h : i < ps.length) : lsum (ps.take i) + (ps[i].length + 1) ≤ lsum ps := by
  conv => rhs; rw [← List.take_append_drop i ps, List.drop_eq_getElem_cons h]
  rw [lsum_append]
  simp only [lsum, List.map_cons, List.sum_cons]
  omega
theorem wdU_take (ps : List (List Int)) (i : Nat) (h : i < ps.length) : wdU (ps.take (i + 1)) = wdU (ps.take i) ++ full (cutB 9 ps[i]) := by
  rw [List.take_succ_eq_append_getElem h, wdU, List.flatMap_append]
  simp [wdU]
theorem full_take (ps : List (List Int)) (i : Nat) (h : i < ps.length) : full (ps.take (i + 1)) = full (ps.take i) ++ (if ps[i].length = 0 then [] else [ps[i]]) := by
  rw [List.take_succ_eq_append_getElem h, full_append]
  congr 1
  unfold full
  rw [List.filter_cons, List.filter_nil]
  by_cases h0 : ps[i].length = 0
  · rw [if_pos h0]; simp [List.eq_nil_of_length_eq_zero h0]
  · rw [if_neg h0, if_pos]
    cases hp : ps[i] with
    | nil => exact absurd (by rw [hp]; rfl) h0
    | cons a b => rfl
theorem wds_len (l : List Int) (i j : Nat) (hi : i < (cutB 32 l).length) (hj : j ≤ (cutB 9 (cutB 32 l)[i]).length) (hl : l.length ≤ 1048576) : (wdU ((cutB 32 l).take i) ++ full ((cutB 9 (cutB 32 l)[i]).take j)).length ≤ 10000000 := by
  have h1 := wdU_len ((cutB 32 l).take i)
  have h2 := lsum_take _ i hi
  have h3 := cutB_sum 32 l
  have h4 := full_len ((cutB 9 (cutB 32 l)[i]).take j)
  have h5 := cutB_len 9 (cutB 32 l)[i]
  rw [List.length_take] at h4
  rw [List.length_append]
  omega
set_option maxHeartbeats 4000000 in
theorem l8Words_any (l : List Int) (n : Nat) (hn : l.length = n) (hn2 : n ≤ 1048576) (g o cp : Nat) (w : World) (hs : Sl w g o l) :
    Calls Tryz.prog 13 #[.slice (some ⟨g, o, none⟩) n cp] w fun e w' => ∃ x us, e = .returned x ∧ Pt w (wordsB l) us x w' := by
  have HN : Hid _ := hn
  have HS : Hid (Sl w g o l) := hs
  have S0 : Hid _ := Pt.start w w (Below.refl _ _)
  have HW : Hid (wdU (cutB 32 l) = wordsB l) := rfl
  have HL : Hid _ := wds_len l
  have HT : Hid _ := wdU_take (cutB 32 l)
  have HCS : Hid _ := cutB_len 32 l
  have HSM : Hid _ := lsum_take (cutB 32 l)
  have HSM2 : Hid _ := cutB_sum 32 l
  clear hs
  go_enter Tryz.func13, Tryz.ntmps13
  go_wp2_with fail
  refine (l8Cut_any 32 l n hn hn2 g o cp _ (HS.out.later ((Below.refl w.heap.size w).alloc (Nat.le_refl _) _) HS.out.1)).mono ?_
  rintro e w1 ⟨x, us0, rfl, hP⟩
  have hR : Rd w.heap.size w1 (cutB 32 l) x (some w.heap.size) := hP.rd _ (fun k hk => by cases hk; simp) (by simp)
  obtain ⟨g1, c1, rfl, hh⟩ := hR.at
  clear hh
  have HR : Hid _ := hR
  have HP : Hid _ := S0.out.later (hP.bel.mono (Nat.le_refl _))
  clear hP hR S0
  have hcl : (cutB 32 l).length ≤ 1048577 := by have := HCS.out; omega
  generalize cutB 32 l = PS at *
  obtain ⟨NP, hNP⟩ : ∃ NP, PS.length = NP := ⟨_, rfl⟩
  rw [hNP] at HR hcl ⊢
  have HNP : Hid _ := hNP
  clear hNP hn HCS
  go_wp2
  go_loopw [3, 12] (fun u i wr => ∃ k us, k ≤ NP ∧ i = .int .i64 (k : Nat) ∧ Pt w (wdU (PS.take k)) us u wr ∧ Rd w.heap.size wr PS (.slice (some ⟨g1, 0, none⟩) NP c1) u.ownBlock) (fun _ i _ => NP - (intOf i).toNat)
  case atStart => exact ⟨0, [], Nat.zero_le _, rfl, HP.out, HR.out⟩
  case round =>
    obtain ⟨k, us, hk, rfl, hO, hR⟩ := hrel
    have HO : Hid _ := hO
    have HR2 : Hid _ := hR
    clear hO hR HR HP
    by_cases hlt : k < NP
    · obtain ⟨g', c', e', hat⟩ := HR2.out.at
      obtain ⟨rfl, rfl⟩ : g1 = g' ∧ c1 = c' := by simpa [HNP.out] using e'
      clear e'
      obtain ⟨u, hu, ⟨b, c, rfl, hb, hsl, hc1, hc2⟩, hne⟩ := hat k (by rw [HNP.out]; exact hlt)
      have hkl : k < PS.length := by rw [HNP.out]; exact hlt
      have HLk := fun j => HL.out k j hkl
      have HTk := HT.out k hkl
      have hSk := HSM.out k hkl
      rw [HSM2.out] at hSk
      generalize PS[k] = p at *
      have hpl : p.length ≤ 1048576 := by have := HN.out; omega
      have HLk2 : Hid _ := HLk
      have HTk2 : Hid _ := HTk
      clear HLk HTk hSk hat
      generalize hnp : p.length = np at *
      have HSL : Hid _ := hsl
      clear hsl
      go_wp2_with fail
      refine (l8Cut_any 9 p np hnp hpl b 0 c _ HSL.out).mono ?_
      rintro e w2 ⟨x2, us2, rfl, hP2⟩
      obtain ⟨gk, hgk, hk1, hk2⟩ := HO.out.lt
      have hR3 : Rd w.heap.size w2 (cutB 9 p) x2 u3.ownBlock := hP2.rd _ (fun k hk => by rw [hgk] at hk; cases hk; exact hk2) HO.out.bel.size
      have HO3 : Hid _ := HO.out.later hP2.bel
      have HR4 : Hid _ := HR2.out.later hP2.bel
      obtain ⟨g3, c3, rfl, hh⟩ := hR3.at
      clear hh
      have HR3 : Hid _ := hR3
      have h9 := cutB_len 9 p
      rw [hnp] at h9
      have HF : Hid _ := full_take (cutB 9 p)
      clear hP2 HO HR2 hR3 hgk hk1 hk2 HSL
      generalize cutB 9 p = QS at *
      obtain ⟨NQ, hNQ⟩ : ∃ NQ, QS.length = NQ := ⟨_, rfl⟩
      rw [hNQ] at HR3 h9 ⊢
      have HNQ : Hid _ := hNQ
      have HNp : Hid _ := hnp
      clear hNQ hnp
      go_wp2
      go_loopw [3, 19] (fun u i wr => ∃ j us, j ≤ NQ ∧ i = .int .i64 (j : Nat) ∧ Pt w (wdU (PS.take k) ++ full (QS.take j)) us u wr ∧ Rd w.heap.size wr PS (.slice (some ⟨g1, 0, none⟩) NP c1) u.ownBlock ∧ Rd w.heap.size wr QS (.slice (some ⟨g3, 0, none⟩) NQ c3) u.ownBlock) (fun _ i _ => NQ - (intOf i).toNat)
      case atStart =>
        refine ⟨0, us, Nat.zero_le _, rfl, ?_, HR4.out, HR3.out⟩
        have := HO3.out
        simpa [full] using this
      case round =>
        obtain ⟨j, us5, hj, rfl, hO5, hR5, hR6⟩ := hrel
        have HO5 : Hid _ := hO5
        have HR5 : Hid _ := hR5
        have HR6 : Hid _ := hR6
        clear hO5 hR5 hR6 HR4 HR3 HO3
        by_cases hjlt : j < NQ
        · obtain ⟨g', c', e', hat⟩ := HR6.out.at
          obtain ⟨rfl, rfl⟩ : g3 = g' ∧ c3 = c' := by simpa [HNQ.out] using e'
          clear e'
          obtain ⟨u, hu2, ⟨b2, c2, rfl, hb2, hsl2, hc3, hc4⟩, hne2⟩ := hat j (by rw [HNQ.out]; exact hjlt)
          have hjl : j < QS.length := by rw [HNQ.out]; exact hjlt
          have HFj := HF.out j hjl
          have hlen : Hid _ := HLk2.out j (by omega) (by have := HN.out; omega)
          generalize QS[j] = q at *
          have HFj2 : Hid _ := HFj
          have HS2 : Hid (SlV w.heap.size _ (.slice (some ⟨b2, 0, none⟩) q.length c2) q) := ⟨b2, c2, rfl, hb2, hsl2, hc3, hc4⟩
          have HNE : Hid _ := hne2
          generalize hq : q.length = nq at *
          have HQ : Hid _ := hq
          clear HFj hat hsl2 hne2 hq
          by_cases hz : nq = 0
          · have hgt : ((0 : Int) < (nq : Int)) = False := by simp; omega
            go_wp2
            go_roundw
            case rel => exact ⟨j + 1, us5, by omega, by go_num, by rw [HFj2.out, if_pos hz, List.append_nil]; exact HO5.out, HR5.out, HR6.out⟩
            case measure => simp [intOf]; omega
          · have hgt : ((0 : Int) < (nq : Int)) = True := by simp; omega
            rw [if_neg hz] at HFj2
            go_wp2_with (at_builtin; refine pt_law HO5.out HS2.out HNE.out rfl (.tmp 26) (.tmp 28) rfl rfl rfl hlen.out ?_)
            intro v' w' hP hg hb
            have hb' : v'.ownBlock = u3.ownBlock ∨ ∃ k, v'.ownBlock = some k ∧ wr.heap.size ≤ k := hb.imp id (fun h => ⟨_, h, by omega⟩)
            have HP5 : Hid _ := hP
            have HR7 : Hid _ := HR5.out.step hg hb'
            have HR8 : Hid _ := HR6.out.step hg hb'
            clear hP hg hb hb' HR5 HR6
            go_wp2
            go_roundw
            case rel => exact ⟨j + 1, _, by omega, by go_num, by rw [HFj2.out]; have := HP5.out; simpa only [List.append_assoc] using this, HR7.out, HR8.out⟩
            case measure => simp [intOf]; omega
        · obtain rfl : j = NQ := by omega
          go_wp2
          go_roundw
          case rel =>
            refine ⟨k + 1, us5, by omega, by go_num, ?_, HR5.out⟩
            rw [HTk2.out]
            have := HO5.out
            rwa [List.take_of_length_le (l := QS) (by rw [HNQ.out]; exact Nat.le_refl _)] at this
          case measure => simp [intOf]; omega
    · obtain rfl : k = NP := by omega
      go_wp2
      go_ret
      refine ⟨_, us, rfl, ?_⟩
      have := HO.out
      rw [List.take_of_length_le (by rw [HNP.out]; exact Nat.le_refl _), HW.out] at this
      exact this
end Go.Proofs.YtijlicammbpeeaaGreatDoor
/- 's[l:]', 's[:h]' of a slice, their values. Nothing of the program. -/
namespace Go.Proofs.YtijlicammbpeeaaGreatDoor
open Go.RowKit
set_option linter.unusedVariables false
theorem size_one {P : Program} {e : TypeId} (hs : (P.info? e).map (·.size) = some 1) (w : World) : (sizeOf e).run P w = .ok 1 w := by
  obtain ⟨i, hi, h1⟩ := Option.map_eq_some_iff.1 hs
  simp [sizeOf, typeInfo, hi, h1]
end Go.Proofs.YtijlicammbpeeaaGreatDoor
