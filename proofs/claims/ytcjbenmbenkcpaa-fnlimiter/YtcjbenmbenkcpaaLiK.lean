/- The program's limiter: 'list'. Written by mk_LiK.py. -/
import Derived.Test.YtcjbenmbenkcpaaLiK0
namespace Go.Proofs.Ytcjbenmbenkcpaa
open Go.RowKit
set_option linter.unusedVariables false
/-- Behind 'list'. -/
def ListOut (w : World) (ps : List Pl) (e : Ending) (w' : World) : Prop := ∃ g ps', e = .returned (.slice (some ⟨g, 0, none⟩) ps.length ps.length) ∧ w.heap.size ≤ g ∧ List.Perm ps' ps ∧ ps'.Pairwise (fun x y => x.pos ≤ y.pos) ∧ w'.heap[g]? = some (.cells (flatB (ps'.map (·.b))).toArray 37) ∧ Below w.heap.size w w'
theorem HP.later {w w' : World} {g : Nat} {ps : List Pl} (h : HP w g ps) (hb : Below w.heap.size w w') (hg : g < w.heap.size) : HP w' g ps := fun i hi j v hj => (hb.cell (p := ⟨g, _, none⟩) hg).trans (h i hi j v hj)
theorem HP.put {w w' : World} {g g' : Nat} {ps : List Pl} {cs : Array Value} {t : TypeId} (h : HP w g ps) (hP : Put w g' cs t w') (hne : g ≠ g') : HP w' g ps := fun i hi j v hj => (World.cell?_of_block (hP.far g hne)).trans (h i hi j v hj)
theorem more_perm : ∀ (ps : List Pl) (f : Pl → Bool) (p : Pl), ps.Pairwise (fun x y => x.b.key ≠ y.b.key) → p ∈ ps → f p = false → (ps.filter (fun x => f x || decide (x.b.key = p.b.key))).Perm (ps.filter f ++ [p])
  | [], _, _, _, h, _ => by cases h
  | a :: r, f, p, hp, hm, hf => by
    obtain ⟨h1, h2⟩ := List.pairwise_cons.1 hp
    by_cases hk : a.b.key = p.b.key
    · have hap : a = p := pair_one hp List.mem_cons_self hm hk
      subst hap
      have e : r.filter (fun x => f x || decide (x.b.key = a.b.key)) = r.filter f := List.filter_congr (fun x hx => by
        have hne : ¬ x.b.key = a.b.key := fun e => h1 x hx e.symm
        simp [hne])
      rw [List.filter_cons, List.filter_cons]
      simp only [hf, decide_true, Bool.false_or, if_true, Bool.false_eq_true, if_false, e]
      exact (List.perm_append_singleton a _).symm
    · have hmr : p ∈ r := by
        rcases List.mem_cons.1 hm with h | h
        · rw [h] at hk; exact absurd rfl hk
        · exact h
      have ih := more_perm r f p h2 hmr hf
      rw [List.filter_cons, List.filter_cons]
      simp only [hk, decide_false, Bool.or_false]
      cases f a
      · simpa using ih
      · simpa using ih.cons a
set_option maxRecDepth 10000 in
set_option maxHeartbeats 4000000 in
theorem list_any (ps : List Pl) (b n : Nat) (w : World) (hT : Tab w b n ps) (hn : ps.length ≤ 5000) :
    Calls Try.prog 20 #[.map (some b)] w fun e w' => ListOut w ps e w' := by
  have HT : Hid (Tab _ _ _ _) := hT
  have AP : Hid _ := Tab.apart hT
  have bl : b < w.heap.size := Tab.lt hT
  have ln := Tab.len hT
  clear hT
  obtain ⟨N, hN⟩ : ∃ x, x = ps.length := ⟨_, rfl⟩
  rw [← hN] at ln hn
  have HN : Hid _ := hN
  clear hN
  have hmk := makeP N (by omega)
  have hmb := makeB N (by omega)
  have T1 : Hid (Tab _ _ _ _) := Tab.later HT.out ((Below.refl w.heap.size w).alloc (Nat.le_refl _) (.cells (flatP (List.replicate N zPl)).toArray 66))
  have O1 : Hid (OwnP _ _ _ _) := OwnP.made w N hn
  have B1 : Hid (Below w.heap.size w _) := (Below.refl w.heap.size w).alloc (Nat.le_refl _) (.cells (flatP (List.replicate N zPl)).toArray 66)
  go_enter Try.func20, Try.ntmps20
  go_wp2_with (at_range; refine wpList_rangeT rfl _ rfl b n ps rfl T1.out ?_)
  intro w0 cnt0 hR0 hg0 hs0
  have R0 : Hid (TabR _ _ _ _ _ _ _) := hR0
  have O0 : Hid (OwnP _ _ _ _) := OwnP.kept O1.out hg0 (.inr (by simp [Value.ownBlock]))
  have B0 : Hid (Below w.heap.size w w0) := Below.grown B1.out hg0 B1.out.size (fun k e => by cases e)
  obtain ⟨r, hr⟩ : ∃ x, x = w.heap.size + 1 := ⟨_, rfl⟩
  rw [← hr] at R0 ⊢
  have rge : w.heap.size ≤ r := by omega
  clear hR0 hg0 hs0 hr O1 B1 T1 ln hmk
  go_wp2_with fail
  go_loopw [3] (fun v wr => ∃ (left : List Int → Bool) (cnt g cap : Nat) (acc : List Pl), v = .slice (some ⟨g, 0, none⟩) acc.length cap ∧ TabR wr b r n ps left cnt ∧ OwnP wr w.heap.size v acc ∧ acc.Perm (ps.filter (fun p => !left p.b.key)) ∧ Below w.heap.size w wr) (fun _ wr => wr.rangeLeft b r)
  case atStart =>
    refine ⟨fun _ => true, cnt0, w.heap.size, N, [], rfl, R0.out, O0.out, ?_, B0.out⟩
    have e : ps.filter (fun p => !true) = [] := List.filter_eq_nil_iff.2 (fun p _ => by simp)
    rw [e]
  case round =>
    obtain ⟨left, cnt, g, cap, acc, rfl, hR, hO, hP, hB⟩ := hrel
    have R : Hid (TabR _ _ _ _ _ _ _) := hR
    have O : Hid (OwnP _ _ _ _) := hO
    have PM : Hid _ := hP
    have BW : Hid _ := hB
    obtain ⟨cs, hcs⟩ := OwnP.block O.out (g := g) rfl
    have ng := TabR.cellsNe R.out hcs
    have gge : w.heap.size ≤ g := (World.ownsRow.lt O.out g rfl).1
    have glt : g < wr.heap.size := (World.ownsRow.lt O.out g rfl).2
    have rlt : r < wr.heap.size := TabR.lt R.out
    obtain ⟨n1, n2⟩ := ng
    have hal : acc.length ≤ N := by
      have h1 := PM.out.length_eq
      have h2 := List.length_filter_le (fun p : Pl => !left p.b.key) ps
      rw [HN.out]
      omega
    clear hR hO hP hB hcs R0 O0 B0
    obtain ⟨z, hz⟩ : ∃ x, x = acc.length := ⟨_, rfl⟩
    rw [← hz] at O hal ⊢
    have HZ : Hid _ := hz
    clear hz
    go_wp2_with (at_next; refine wpList_nextT rfl _ rfl b r n ps left cnt rfl R.out ?_ ?_)
    · intro hdone
      have D : Hid _ := hdone
      clear hdone
      have hz2 : z = N := by
        have h1 := PM.out.length_eq
        have e : ps.filter (fun p => !left p.b.key) = ps := List.filter_eq_self.2 (fun p hp => by rw [D.out p hp]; rfl)
        rw [e, ← HN.out, ← HZ.out] at h1
        exact h1
      have PA : Hid (acc.Perm ps) := by
        have e : ps.filter (fun p => !left p.b.key) = ps := List.filter_eq_self.2 (fun p hp => by rw [D.out p hp]; rfl)
        have h1 := PM.out
        rw [e] at h1
        exact h1
      subst hz2
      have HPa : Hid (HP wr g acc) := by have h1 := O.out; rw [HZ.out] at h1; exact OwnP.reads h1 rfl
      have FR : Hid (∀ j, j < acc.length * 12 → wr.frozen? ⟨g, j, none⟩ = false) := fun j _ => by have h1 := O.out; rw [HZ.out] at h1; exact OwnP.free h1 rfl j
      go_wp2_with fail
      have hso := sortP_any acc g cap wr HPa.out FR.out glt (by rw [← HZ.out]; exact hn)
      rw [← HZ.out] at hso
      refine hso.mono ?_
      rintro e w1 ⟨rfl, ps', hpm, hsd, hHP, hg1⟩
      have S1 : Hid _ := hsd
      have P1 : Hid (ps'.Perm ps) := hpm.trans PA.out
      have H1 : Hid (HP w1 g ps') := hHP
      have BW1 : Hid (Below w.heap.size w w1) := Below.grown BW.out hg1 BW.out.size (fun k e => by cases e; exact gge)
      have LP : Hid (ps'.length = z) := by have := hpm.length_eq; have h2 := HZ.out; show _ = _; omega
      have g1t : g < w1.heap.size := Nat.lt_of_lt_of_le glt hg1.size
      clear hso hpm hsd hHP hg1 PA HPa FR R O PM BW HZ D rlt glt n1 n2
      have X0 : Hid ((w1.alloc (.cells (flatB (List.replicate z zBk)).toArray 37)).heap[w1.heap.size]? = some (.cells (flatB ((ps'.map (·.b)).take 0 ++ List.replicate (z - 0) zBk)).toArray 37)) := by
        show _ = _
        rw [List.take_zero, List.nil_append, Nat.sub_zero]
        exact heap_alloc_new _ _
      have B2 : Hid (Below w.heap.size w (w1.alloc (.cells (flatB (List.replicate z zBk)).toArray 37))) := BW1.out.alloc BW1.out.size _
      have H2 : Hid (HP (w1.alloc (.cells (flatB (List.replicate z zBk)).toArray 37)) g ps') := HP.later H1.out ((Below.refl _ _).alloc (Nat.le_refl _) _) g1t
      have gG : g < w1.heap.size := g1t
      have wG : w.heap.size ≤ w1.heap.size := BW1.out.size
      have LMp : Hid ((ps'.map (·.b)).length = z) := by show _ = _; rw [List.length_map]; exact LP.out
      go_wp2_with fail
      obtain ⟨G, hG⟩ : ∃ x, x = w1.heap.size := ⟨_, rfl⟩
      rw [← hG] at X0 gG wG ⊢
      clear hG H1 BW1 g1t
      go_loopw [29] (fun i wq => ∃ k : Nat, k ≤ z ∧ i = .int .i64 k ∧ Below w.heap.size w wq ∧ HP wq g ps' ∧ wq.heap[G]? = some (.cells (flatB ((ps'.map (·.b)).take k ++ List.replicate (z - k) zBk)).toArray 37)) (fun i _ => z - (intOf i).toNat)
      case atStart => exact ⟨0, Nat.zero_le _, rfl, B2.out, H2.out, X0.out⟩
      case round =>
        obtain ⟨k, hk, rfl, hB3, hH3, hX3⟩ := hrel
        have B3 : Hid _ := hB3
        have H3 : Hid (HP _ _ _) := hH3
        have X3 : Hid _ := hX3
        clear hB3 hH3 hX3 B2 H2 X0
        have Gl : G < wr.heap.size := (Array.getElem?_eq_some_iff.1 X3.out).1
        by_cases hlt : k < z
        · have hkp : k < ps'.length := by rw [LP.out]; exact hlt
          obtain ⟨p, hp⟩ : ∃ p, p = ps'[k]'hkp := ⟨_, rfl⟩
          have RG : Hid (wr.rangeAt g (k * 12) (plL p)) := by rw [hp]; exact H3.out k hkp
          have PD : Hid _ := hp
          have i12 : Hid ((Try.prog.info? 66).map (·.size) = some (plL p).length) := by show _ = _; rw [plL_length]; exact infoP
          have i11 : Hid ((Try.prog.info? 37).map (·.size) = some (bkL p.b).length) := by show _ = _; rw [bkL_length]; exact infoB
          clear hp
          obtain ⟨W0, hW0⟩ : ∃ x, x = wr := ⟨_, rfl⟩
          rw [← hW0] at B3 H3 X3 RG Gl ⊢
          clear hW0 wr
          go_wp2_with (first
            | ((with_reducible refine gLd ?_); refine wpList_load_mid rfl 66 _ rfl g (k * 12) rfl (plL p) _ RG.out Try.underlying66 rfl i12.out ?_)
            | ((with_reducible refine gSt ?_); refine wpList_put_row rfl 66 _ _ rfl W0.heap.size (plL p).toArray rfl rfl 66 _ (heap_alloc_new _ _) (plOk p).1 (plOk p).2.2.2 (plOk p).2.1 ?_))
          intro w4 hP4
          have BL : Hid (Below W0.heap.size W0 w4) := hP4.below _ _ ((Below.refl _ _).alloc (Nat.le_refl _) _) (Nat.le_refl _)
          have RB : Hid _ := (row_last hP4.here).2.2
          have B4 : Hid (Below w.heap.size w w4) := B3.out.trans (BL.out.mono B3.out.size)
          have H4 : Hid (HP w4 g ps') := HP.later H3.out BL.out (by omega)
          have X4 : Hid _ := (BL.out.block G Gl).trans X3.out
          obtain ⟨gb, hgb⟩ : ∃ x, x = W0.heap.size := ⟨_, rfl⟩
          rw [← hgb] at RB ⊢
          have hlen : ((ps'.map (·.b)).take k ++ List.replicate (z - k) zBk).length = z := by rw [List.length_append, List.length_take, List.length_replicate, LMp.out]; omega
          have hfit : Hid (k * 11 + (bkL p.b).length ≤ (flatB ((ps'.map (·.b)).take k ++ List.replicate (z - k) zBk)).length) := by show _ ≤ _; rw [flatB_length, hlen, bkL_length]; omega
          have hnew : Hid ((flatB ((ps'.map (·.b)).take k ++ List.replicate (z - k) zBk)).take (k * 11) ++ bkL p.b ++ (flatB ((ps'.map (·.b)).take k ++ List.replicate (z - k) zBk)).drop (k * 11 + (bkL p.b).length) = flatB ((ps'.map (·.b)).take (k + 1) ++ List.replicate (z - (k + 1)) zBk)) := by
            show _ = _
            rw [flatB_put _ k (by rw [hlen]; exact hlt) p.b]
            congr 1
            have h3 : k < (ps'.map (·.b)).length := by rw [LMp.out]; exact hlt
            rw [List.set_append_right _ _ (by rw [List.length_take, Nat.min_eq_left (by omega)]; exact Nat.le_refl _), List.length_take, Nat.min_eq_left (by omega), Nat.sub_self, List.take_succ_eq_append_getElem h3]
            have e3 : z - k = (z - (k + 1)) + 1 := by omega
            rw [e3, List.replicate_succ, List.set_cons_zero, List.append_assoc, List.getElem_map, ← PD.out]
            rfl
          clear hP4 BL B3 H3 X3 RG hgb Gl hlen
          go_wp2_with (first
            | ((with_reducible refine gLd ?_); refine wpList_load_mid rfl 37 _ rfl gb 0 rfl (bkL p.b) _ RB.out Try.underlying37 rfl i11.out ?_)
            | ((with_reducible refine gSt ?_); refine wpList_put_part rfl 37 _ _ rfl G (k * 11) (bkL p.b) rfl rfl (flatB ((ps'.map (·.b)).take k ++ List.replicate (z - k) zBk)) 37 X4.out (flatB ((ps'.map (·.b)).take (k + 1) ++ List.replicate (z - (k + 1)) zBk)) i11.out hfit.out (bkL_one _) hnew.out ?_))
          intro w5 hP5
          have B5 : Hid (Below w.heap.size w w5) := hP5.below _ _ B4.out wG
          have H5 : Hid (HP w5 g ps') := HP.put H4.out hP5 (by omega)
          have X5 : Hid _ := hP5.here
          clear hP5 B4 H4 X4 hfit hnew RB i11 i12
          go_wp2_with fail
          go_roundw
          case rel => exact ⟨k + 1, by omega, by go_num, B5.out, H5.out, X5.out⟩
          case measure => simp [intOf]; omega
        · obtain rfl : k = z := by omega
          go_wp2_with fail
          go_ret
          refine ⟨G, ps', by rw [← HN.out]; rfl, wG, P1.out, S1.out, ?_, B3.out⟩
          rw [X3.out, Nat.sub_self, List.replicate_zero, List.append_nil, List.take_of_length_le (by rw [LMp.out]; exact Nat.le_refl _)]
    · intro p w1 cnt1 hp hl hR1 hlt hg1 hs1 hen
      have R1 : Hid (TabR _ _ _ _ _ _ _) := hR1
      have HPp : Hid _ := hp
      have HL : Hid _ := hl
      have O1 : Hid (OwnP _ _ _ _) := OwnP.kept O.out hg1 (.inr (by simp [Value.ownBlock]; exact fun e => n1 e.symm))
      have B1 : Hid (Below w.heap.size w w1) := Below.grown BW.out hg1 BW.out.size (fun k e => by cases e; exact rge)
      have i12 : Hid ((Try.prog.info? 66).map (·.size) = some (plL p).toArray.size) := (plOk p).1
      have lz : g < w1.heap.size := by rw [hs1]; exact glt
      have lr : r < w1.heap.size := by rw [hs1]; exact rlt
      clear hR1 hg1 hp hl hs1
      go_wp2_with (first
        | ((with_reducible refine gSt ?_); refine wpList_put_row rfl 66 _ _ rfl w1.heap.size (plL p).toArray rfl rfl 66 _ (heap_alloc_new _ _) (plOk p).1 (plOk p).2.2.2 (plOk p).2.1 ?_))
      intro w2 hP2
      have BL : Hid (Below w1.heap.size w1 w2) := hP2.below _ _ ((Below.refl _ _).alloc (Nat.le_refl _) _) (Nat.le_refl _)
      have RW : Hid _ := hP2.here
      have R2 : Hid (TabR _ _ _ _ _ _ _) := TabR.later R1.out (BL.out.trans (((Below.refl w2.heap.size w2).alloc (Nat.le_refl _) (.cells (plL p).toArray 66)).mono BL.out.size))
      have O2 : Hid (OwnP _ _ _ _) := OwnP.later O1.out (BL.out.trans (((Below.refl w2.heap.size w2).alloc (Nat.le_refl _) (.cells (plL p).toArray 66)).mono BL.out.size))
      have B2 : Hid (Below w.heap.size w _) := (B1.out.trans (BL.out.mono B1.out.size)).trans (((Below.refl w2.heap.size w2).alloc (Nat.le_refl _) (.cells (plL p).toArray 66)).mono (B1.out.trans (BL.out.mono B1.out.size)).size)
      have w2s : w.heap.size ≤ w2.heap.size := (B1.out.trans (BL.out.mono B1.out.size)).size
      rw [HZ.out] at O2
      obtain ⟨gb, hgb⟩ : ∃ x, x = w1.heap.size := ⟨_, rfl⟩
      rw [← hgb] at RW ⊢
      clear hP2 R1 O1 B1 BL hgb
      go_wp2_with (first
        | ((with_reducible refine gLd ?_); refine wpList_load_row rfl 66 _ rfl gb rfl _ (plL p).toArray _ _ RW.out Try.underlying66 rfl (plOk p).1 ?_)
        | ((with_reducible refine gBs ?_); refine wpList_oneP rfl _ rfl p rfl ?_)
        | ((with_reducible refine gAp ?_); refine wpList_pushP rfl _ _ rfl w.heap.size (.slice (some ⟨g, 0, none⟩) acc.length cap) acc (by rw [← HZ.out]; rfl) O2.out p w2.heap.size 1 rfl (heap_alloc_new _ _) (by rw [← HZ.out]; omega) (by simp; omega) ?_))
      intro v' w3 hO3 hg3 hB3
      have O3 : Hid (OwnP _ _ _ _) := hO3
      have R3 : Hid (TabR _ _ _ _ _ _ _) := TabR.kept R2.out hg3 (by simp [Value.ownBlock]; exact n2) (by simp [Value.ownBlock]; exact n1)
      have B3 : Hid (Below w.heap.size w w3) := Below.grown B2.out hg3 B2.out.size hB3
      clear hO3 hg3 hB3 B2 R2 O2 RW
      go_wp2_with fail
      go_roundw
      case rel =>
        obtain ⟨a3, cap3, hv3, hs3⟩ := OwnP.shape O3.out
        obtain ⟨g3, ha3, _⟩ := hs3 (by simp)
        refine ⟨strikeK left p.b.key, cnt1, g3, cap3, acc ++ [p], by rw [hv3, ha3], R3.out, O3.out, ?_, B3.out⟩
        refine (PM.out.append_right [p]).trans ?_
        have e : ps.filter (fun x => !strikeK left p.b.key x.b.key) = ps.filter (fun x => !left x.b.key || decide (x.b.key = p.b.key)) := List.filter_congr (fun x _ => by unfold strikeK; by_cases hk : x.b.key = p.b.key <;> simp [hk])
        rw [e]
        exact (more_perm ps (fun x => !left x.b.key) p AP.out HPp.out (by rw [HL.out]; rfl)).symm
      case measure => rw [TabR.left_eq R3.out, TabR.left_eq R.out]; omega
end Go.Proofs.Ytcjbenmbenkcpaa
