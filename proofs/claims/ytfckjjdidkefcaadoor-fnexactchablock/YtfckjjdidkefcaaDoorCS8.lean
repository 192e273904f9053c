import Derived.Test.YtfckjjdidkefcaaDoorCS7
/- The nine steps of the region's invariant. -/
namespace Go.Proofs.YtfckjjdidkefcaaDoor
open Go.RowKit
set_option linter.unusedVariables false
section
variable {key nonce : List Int} {counter : Int} {b : Nat} {W : World} {ws : List Int} {listed : Array Bool} {w : World} {x7 x14 x15 x16 x17 x18 x19 x20 : Value} {Q : Exit → Act → World → Prop}
set_option maxRecDepth 10000 in
set_option maxHeartbeats 2000000 in
theorem cha_s0 (h : ChaIn key nonce counter b W ws listed w x7 x14 x15 x16 x17 x18 x19 x20) (hi : 0 ∈ Region.ready .any opsC listed) (hk : key.length = 32) (hk0 : W.heap[b]? = some (.cells (Iv .u8 key) 22)) (hb0 : b < W.heap.size) :
    wpList Tryd.prog opsC (atEnd (ChaInv key nonce counter b W ws (listed.setIfInBounds 0 true)) Q) [opC0] (frC key nonce counter b x7 x14 x15 x16 x17 x18 x19 x20) w := by
  obtain ⟨hn1, hdep⟩ := cha_dep hi opC0 rfl
  obtain ⟨hlt, hno⟩ := cha_no hn1
  have G0 : Hid _ := (h.bel.block b hb0).trans hk0
  have hik : Hid ((Tryd.prog.info? 22).map (·.size) = some (Iv .u8 key).size) := by show _ = _; rw [Iv_size, hk]; exact infoK32
  have HH : Hid _ := h
  clear h hdep hn1 hk0
  unfold frC opC0
  go_wp2_with (refine wpList_load_row rfl 22 _ rfl b rfl _ (Iv .u8 key) _ _ G0.out Tryd.underlying22 rfl hik.out ?_)
  have h := HH.out
  have hb := Below.refl w.heap.size w
  refine ⟨_, _, _, _, _, _, _, _, rfl, { 
    size := by simpa using h.size
    bel := h.bel.trans (hb.mono h.bel.size)
    p0 := fun _ => rfl
    p1 := fun hl => h.p1 (by rwa [Lb_ne (by omega)] at hl)
    p3 := fun hl => h.p3 (by rwa [Lb_ne (by omega)] at hl)
    p6 := fun hl => h.p6 (by rwa [Lb_ne (by omega)] at hl)
    p2 := fun hl => (h.p2 (by rwa [Lb_ne (by omega)] at hl)).imp (fun e => by rw [Lb_ne (by omega)]; exact e) (fun o => o.later hb)
    p4 := fun hl => (h.p4 (by rwa [Lb_ne (by omega)] at hl)).imp (fun e => by rw [Lb_ne (by omega)]; exact e) (fun o => o.later hb)
    p5 := fun hl => (h.p5 (by rwa [Lb_ne (by omega)] at hl)).imp (fun e => by rw [Lb_ne (by omega)]; exact e) (fun o => o.later hb)
    p7 := fun hl => by
      obtain ⟨g, e1, e2, e3, e4⟩ := h.p7 (by rwa [Lb_ne (by omega)] at hl)
      refine ⟨g, e1, e2, ?_, fun hl2 => (e4 (by rwa [Lb_ne (by omega)] at hl2)).imp (fun e => by rw [Lb_ne (by omega)]; exact e) id⟩
      rw [Lb_ne (by omega), hb.block g (Array.getElem?_eq_some_iff.1 e3).1]
      exact e3
    p8 := fun hl => by first | (rw [Lb_ne (by omega)] at hl ⊢; exact h.p8 hl) | exact Lb_self hlt }⟩
set_option maxRecDepth 10000 in
set_option maxHeartbeats 2000000 in
theorem cha_s1 (h : ChaIn key nonce counter b W ws listed w x7 x14 x15 x16 x17 x18 x19 x20) (hi : 1 ∈ Region.ready .any opsC listed) :
    wpList Tryd.prog opsC (atEnd (ChaInv key nonce counter b W ws (listed.setIfInBounds 1 true)) Q) [opC1] (frC key nonce counter b x7 x14 x15 x16 x17 x18 x19 x20) w := by
  obtain ⟨hn1, hdep⟩ := cha_dep hi opC1 rfl
  obtain ⟨hlt, hno⟩ := cha_no hn1
  have HH : Hid _ := h
  clear h hdep hn1
  unfold frC opC1
  go_wp2_with fail
  have h := HH.out
  have hb := Below.refl w.heap.size w
  refine ⟨_, _, _, _, _, _, _, _, rfl, { 
    size := by simpa using h.size
    bel := h.bel.trans (hb.mono h.bel.size)
    p0 := fun hl => h.p0 (by rwa [Lb_ne (by omega)] at hl)
    p1 := fun _ => rfl
    p3 := fun hl => h.p3 (by rwa [Lb_ne (by omega)] at hl)
    p6 := fun hl => h.p6 (by rwa [Lb_ne (by omega)] at hl)
    p2 := fun hl => (h.p2 (by rwa [Lb_ne (by omega)] at hl)).imp (fun e => by rw [Lb_ne (by omega)]; exact e) (fun o => o.later hb)
    p4 := fun hl => (h.p4 (by rwa [Lb_ne (by omega)] at hl)).imp (fun e => by rw [Lb_ne (by omega)]; exact e) (fun o => o.later hb)
    p5 := fun hl => (h.p5 (by rwa [Lb_ne (by omega)] at hl)).imp (fun e => by rw [Lb_ne (by omega)]; exact e) (fun o => o.later hb)
    p7 := fun hl => by
      obtain ⟨g, e1, e2, e3, e4⟩ := h.p7 (by rwa [Lb_ne (by omega)] at hl)
      refine ⟨g, e1, e2, ?_, fun hl2 => (e4 (by rwa [Lb_ne (by omega)] at hl2)).imp (fun e => by rw [Lb_ne (by omega)]; exact e) id⟩
      rw [Lb_ne (by omega), hb.block g (Array.getElem?_eq_some_iff.1 e3).1]
      exact e3
    p8 := fun hl => by first | (rw [Lb_ne (by omega)] at hl ⊢; exact h.p8 hl) | exact Lb_self hlt }⟩
set_option maxRecDepth 10000 in
set_option maxHeartbeats 2000000 in
theorem cha_s3 (h : ChaIn key nonce counter b W ws listed w x7 x14 x15 x16 x17 x18 x19 x20) (hi : 3 ∈ Region.ready .any opsC listed) :
    wpList Tryd.prog opsC (atEnd (ChaInv key nonce counter b W ws (listed.setIfInBounds 3 true)) Q) [opC3] (frC key nonce counter b x7 x14 x15 x16 x17 x18 x19 x20) w := by
  obtain ⟨hn1, hdep⟩ := cha_dep hi opC3 rfl
  obtain ⟨hlt, hno⟩ := cha_no hn1
  have HH : Hid _ := h
  clear h hdep hn1
  unfold frC opC3
  go_wp2_with fail
  have h := HH.out
  have hb := Below.refl w.heap.size w
  refine ⟨_, _, _, _, _, _, _, _, rfl, { 
    size := by simpa using h.size
    bel := h.bel.trans (hb.mono h.bel.size)
    p0 := fun hl => h.p0 (by rwa [Lb_ne (by omega)] at hl)
    p1 := fun hl => h.p1 (by rwa [Lb_ne (by omega)] at hl)
    p3 := fun _ => rfl
    p6 := fun hl => h.p6 (by rwa [Lb_ne (by omega)] at hl)
    p2 := fun hl => (h.p2 (by rwa [Lb_ne (by omega)] at hl)).imp (fun e => by rw [Lb_ne (by omega)]; exact e) (fun o => o.later hb)
    p4 := fun hl => (h.p4 (by rwa [Lb_ne (by omega)] at hl)).imp (fun e => by rw [Lb_ne (by omega)]; exact e) (fun o => o.later hb)
    p5 := fun hl => (h.p5 (by rwa [Lb_ne (by omega)] at hl)).imp (fun e => by rw [Lb_ne (by omega)]; exact e) (fun o => o.later hb)
    p7 := fun hl => by
      obtain ⟨g, e1, e2, e3, e4⟩ := h.p7 (by rwa [Lb_ne (by omega)] at hl)
      refine ⟨g, e1, e2, ?_, fun hl2 => (e4 (by rwa [Lb_ne (by omega)] at hl2)).imp (fun e => by rw [Lb_ne (by omega)]; exact e) id⟩
      rw [Lb_ne (by omega), hb.block g (Array.getElem?_eq_some_iff.1 e3).1]
      exact e3
    p8 := fun hl => by first | (rw [Lb_ne (by omega)] at hl ⊢; exact h.p8 hl) | exact Lb_self hlt }⟩
set_option maxRecDepth 10000 in
set_option maxHeartbeats 2000000 in
theorem cha_s2 (h : ChaIn key nonce counter b W ws listed w x7 x14 x15 x16 x17 x18 x19 x20) (hi : 2 ∈ Region.ready .any opsC listed) :
    wpList Tryd.prog opsC (atEnd (ChaInv key nonce counter b W ws (listed.setIfInBounds 2 true)) Q) [opC2] (frC key nonce counter b x7 x14 x15 x16 x17 x18 x19 x20) w := by
  obtain ⟨hn1, hdep⟩ := cha_dep hi opC2 rfl
  obtain ⟨hlt, hno⟩ := cha_no hn1
  have l1 : Lb listed 1 = true := hdep { on := 1, ground := Ground.data } (by unfold opC2; simp) rfl
  obtain rfl := h.p1 l1
  have HH : Hid _ := h
  clear h hdep hn1
  unfold frC opC2
  go_wp2_with fail
  have h := HH.out
  have hb : Below w.heap.size w (w.alloc (.cells #[.int .u32 counter] 23)) := (Below.refl _ _).alloc (Nat.le_refl _) _
  refine ⟨_, _, _, _, _, _, _, _, rfl, { 
    size := by simpa using h.size
    bel := h.bel.trans (hb.mono h.bel.size)
    p0 := fun hl => h.p0 (by rwa [Lb_ne (by omega)] at hl)
    p1 := fun hl => h.p1 (by rwa [Lb_ne (by omega)] at hl)
    p3 := fun hl => h.p3 (by rwa [Lb_ne (by omega)] at hl)
    p6 := fun hl => h.p6 (by rwa [Lb_ne (by omega)] at hl)
    p2 := fun _ => .inr (Own.one w counter h.bel.size)
    p4 := fun hl => (h.p4 (by rwa [Lb_ne (by omega)] at hl)).imp (fun e => by rw [Lb_ne (by omega)]; exact e) (fun o => o.later hb)
    p5 := fun hl => (h.p5 (by rwa [Lb_ne (by omega)] at hl)).imp (fun e => by rw [Lb_ne (by omega)]; exact e) (fun o => o.later hb)
    p7 := fun hl => by
      obtain ⟨g, e1, e2, e3, e4⟩ := h.p7 (by rwa [Lb_ne (by omega)] at hl)
      have hg := (Array.getElem?_eq_some_iff.1 e3).1
      refine ⟨g, e1, e2, ?_, fun _ => .inr ?_⟩
      · rw [Lb_ne (by omega), hb.block g hg]
        exact e3
      · intro e
        have : w.heap.size = g := by simpa [Value.ownBlock] using e
        omega
    p8 := fun hl => by first | (rw [Lb_ne (by omega)] at hl ⊢; exact h.p8 hl) | exact Lb_self hlt }⟩
set_option maxRecDepth 10000 in
set_option maxHeartbeats 2000000 in
theorem cha_s4 (h : ChaIn key nonce counter b W ws listed w x7 x14 x15 x16 x17 x18 x19 x20) (hi : 4 ∈ Region.ready .any opsC listed) (hr : nonce.length = 12) (hrb : Bytes nonce) (hn0 : W.heap[b + 1]? = some (.cells (Iv .u8 nonce) 24)) (hb0 : b + 1 < W.heap.size) (hws : ws = wordsOf nonce 3) :
    wpList Tryd.prog opsC (atEnd (ChaInv key nonce counter b W ws (listed.setIfInBounds 4 true)) Q) [opC4] (frC key nonce counter b x7 x14 x15 x16 x17 x18 x19 x20) w := by
  obtain ⟨hn1, hdep⟩ := cha_dep hi opC4 rfl
  obtain ⟨hlt, hno⟩ := cha_no hn1
  have l3 : Lb listed 3 = true := hdep { on := 3, ground := Ground.data } (by unfold opC4; simp) rfl
  obtain rfl := h.p3 l3
  have hrow := (h.bel.block (b + 1) hb0).trans hn0
  have hrd : RdK .u8 w (some ⟨b + 1, 0, none⟩) nonce := by
    intro i hi
    refine ⟨b + 1, 0, rfl, ?_⟩
    rw [Nat.zero_add, cell_of_row _ _ _ _ _ _ hrow, Iv_get .u8 _ i hi, List.getD_eq_getElem?_getD, List.getElem?_eq_getElem hi]
    rfl
  have hcall := words_any nonce 12 3 hr hrb (by omega) (by omega) (some ⟨b + 1, 0, none⟩) 12 w hrd
  have HC : Hid _ := hcall
  have HH : Hid _ := h
  clear h hdep hn1 hrow hrd hcall hn0
  unfold frC opC4
  go_wp2_with fail
  refine Calls.mono HC.out ?_
  rintro e w' ⟨v, rfl, ho, hb⟩
  rw [← hws] at ho
  go_wp2_with fail
  have h := HH.out
  refine ⟨_, _, _, _, _, _, _, _, rfl, { 
    size := by simpa using h.size
    bel := h.bel.trans (hb.mono h.bel.size)
    p0 := fun hl => h.p0 (by rwa [Lb_ne (by omega)] at hl)
    p1 := fun hl => h.p1 (by rwa [Lb_ne (by omega)] at hl)
    p3 := fun hl => h.p3 (by rwa [Lb_ne (by omega)] at hl)
    p6 := fun hl => h.p6 (by rwa [Lb_ne (by omega)] at hl)
    p2 := fun hl => (h.p2 (by rwa [Lb_ne (by omega)] at hl)).imp (fun e => by rw [Lb_ne (by omega)]; exact e) (fun o => o.later hb)
    p4 := fun _ => .inr (ho.mono h.bel.size)
    p5 := fun hl => (h.p5 (by rwa [Lb_ne (by omega)] at hl)).imp (fun e => by rw [Lb_ne (by omega)]; exact e) (fun o => o.later hb)
    p7 := fun hl => by
      obtain ⟨g, e1, e2, e3, e4⟩ := h.p7 (by rwa [Lb_ne (by omega)] at hl)
      refine ⟨g, e1, e2, ?_, fun hl2 => (e4 (by rwa [Lb_ne (by omega)] at hl2)).imp (fun e => by rw [Lb_ne (by omega)]; exact e) id⟩
      rw [Lb_ne (by omega), hb.block g (Array.getElem?_eq_some_iff.1 e3).1]
      exact e3
    p8 := fun hl => by first | (rw [Lb_ne (by omega)] at hl ⊢; exact h.p8 hl) | exact Lb_self hlt }⟩
set_option maxRecDepth 10000 in
set_option maxHeartbeats 2000000 in
theorem cha_s5 (h : ChaIn key nonce counter b W ws listed w x7 x14 x15 x16 x17 x18 x19 x20) (hi : 5 ∈ Region.ready .any opsC listed) (hwl : ws.length = 3) :
    wpList Tryd.prog opsC (atEnd (ChaInv key nonce counter b W ws (listed.setIfInBounds 5 true)) Q) [opC5] (frC key nonce counter b x7 x14 x15 x16 x17 x18 x19 x20) w := by
  obtain ⟨hn1, hdep⟩ := cha_dep hi opC5 rfl
  obtain ⟨hlt, hno⟩ := cha_no hn1
  have l2 : Lb listed 2 = true := hdep { on := 2, ground := Ground.data } (by unfold opC5; simp) rfl
  have l4 : Lb listed 4 = true := hdep { on := 4, ground := Ground.data } (by unfold opC5; simp) rfl
  have o16 := (h.p2 l2).resolve_left (by rw [hno]; simp)
  have o18 := (h.p4 l4).resolve_left (by rw [hno]; simp)
  obtain ⟨_, hbad⟩ | ⟨g18, c18, rfl, _, hg18, _, _, hcell, _⟩ := o18.at
  · rw [hbad] at hwl; simp at hwl
  have HO : Hid _ := o16
  have HB : Hid _ := h.bel
  have HN : Hid (∀ j, j < 3 → w.cell? ⟨g18, 0 + j, none⟩ = some (.int .u32 (ws.getD j 0))) := fun j hj => by rw [Nat.zero_add]; exact hcell j (by omega)
  have HL : Hid (ws.length = 3) := hwl
  have HH : Hid _ := h
  rw [hwl]
  clear h hdep hn1 o16 o18 hcell
  unfold frC opC5
  refine extend_law .u32 38 23 4 Tryd.underlying38 infoU32 (by decide) rfl (.tmp 16) (.tmp 18) rfl W.heap.size W w x16 [counter] g18 0 3 c18 ws HL.out rfl rfl HO.out HB.out HB.out.size (by simp) HN.out ?_
  intro v' w' ho hb2 hgr hblk
  simp only [Act.put, List.setIfInBounds_toArray, List.set_cons_succ, List.set_cons_zero]
  go_wp2_with fail
  have h := HH.out
  refine ⟨_, _, _, _, _, _, _, _, rfl, { 
    size := by simpa using h.size
    bel := hb2
    p0 := fun hl => h.p0 (by rwa [Lb_ne (by omega)] at hl)
    p1 := fun hl => h.p1 (by rwa [Lb_ne (by omega)] at hl)
    p3 := fun hl => h.p3 (by rwa [Lb_ne (by omega)] at hl)
    p6 := fun hl => h.p6 (by rwa [Lb_ne (by omega)] at hl)
    p2 := fun _ => .inl (Lb_self hlt)
    p4 := fun _ => .inl (Lb_self hlt)
    p5 := fun _ => .inr ho
    p7 := fun hl => by
      obtain ⟨g, e1, e2, e3, e4⟩ := h.p7 (by rwa [Lb_ne (by omega)] at hl)
      refine ⟨g, e1, e2, ?_, fun _ => .inl (Lb_self hlt)⟩
      rw [Lb_ne (by omega), hgr.block g (Array.getElem?_eq_some_iff.1 e3).1 (fun e => ((e4 l2).resolve_left (by rw [hno]; simp)) e.symm)]
      exact e3
    p8 := fun hl => by first | (rw [Lb_ne (by omega)] at hl ⊢; exact h.p8 hl) | exact Lb_self hlt }⟩
set_option maxRecDepth 10000 in
set_option maxHeartbeats 2000000 in
theorem cha_s6 (h : ChaIn key nonce counter b W ws listed w x7 x14 x15 x16 x17 x18 x19 x20) (hi : 6 ∈ Region.ready .any opsC listed) (hk : key.length = 32) (hkb : Bytes key) (hwl : ws.length = 3) :
    wpList Tryd.prog opsC (atEnd (ChaInv key nonce counter b W ws (listed.setIfInBounds 6 true)) Q) [opC6] (frC key nonce counter b x7 x14 x15 x16 x17 x18 x19 x20) w := by
  obtain ⟨hn1, hdep⟩ := cha_dep hi opC6 rfl
  obtain ⟨hlt, hno⟩ := cha_no hn1
  have l0 : Lb listed 0 = true := hdep { on := 0, ground := Ground.data } (by unfold opC6; simp) rfl
  have l5 : Lb listed 5 = true := hdep { on := 5, ground := Ground.data } (by unfold opC6; simp) rfl
  obtain rfl := h.p0 l0
  have o19 := (h.p5 l5).resolve_left (by rw [hno]; simp)
  obtain ⟨a, n, cap, rfl, hn, hrd⟩ := o19.rdk
  have hn4 : n = 4 := by rw [hn]; simp [hwl]
  subst hn4
  have hcall := l2Start_any key (counter :: ws) 4 w hk hkb (by simp [hwl]) (by omega) a cap hrd
  have HC : Hid _ := hcall
  have HH : Hid _ := h
  clear h hdep hn1 hcall hrd o19 hn
  unfold frC opC6
  go_wp2_with fail
  refine Calls.mono HC.out ?_
  rintro e w' ⟨rfl, hb⟩
  go_wp2_with fail
  have h := HH.out
  refine ⟨_, _, _, _, _, _, _, _, rfl, { 
    size := by simpa using h.size
    bel := h.bel.trans (hb.mono h.bel.size)
    p0 := fun hl => h.p0 (by rwa [Lb_ne (by omega)] at hl)
    p1 := fun hl => h.p1 (by rwa [Lb_ne (by omega)] at hl)
    p3 := fun hl => h.p3 (by rwa [Lb_ne (by omega)] at hl)
    p6 := fun _ => rfl
    p2 := fun hl => (h.p2 (by rwa [Lb_ne (by omega)] at hl)).imp (fun e => by rw [Lb_ne (by omega)]; exact e) (fun o => o.later hb)
    p4 := fun hl => (h.p4 (by rwa [Lb_ne (by omega)] at hl)).imp (fun e => by rw [Lb_ne (by omega)]; exact e) (fun o => o.later hb)
    p5 := fun _ => .inl (Lb_self hlt)
    p7 := fun hl => by
      obtain ⟨g, e1, e2, e3, e4⟩ := h.p7 (by rwa [Lb_ne (by omega)] at hl)
      refine ⟨g, e1, e2, ?_, fun hl2 => (e4 (by rwa [Lb_ne (by omega)] at hl2)).imp (fun e => by rw [Lb_ne (by omega)]; exact e) id⟩
      rw [Lb_ne (by omega), hb.block g (Array.getElem?_eq_some_iff.1 e3).1]
      exact e3
    p8 := fun hl => by first | (rw [Lb_ne (by omega)] at hl ⊢; exact h.p8 hl) | exact Lb_self hlt }⟩
set_option maxRecDepth 10000 in
set_option maxHeartbeats 2000000 in
theorem cha_s7 (h : ChaIn key nonce counter b W ws listed w x7 x14 x15 x16 x17 x18 x19 x20) (hi : 7 ∈ Region.ready .any opsC listed) :
    wpList Tryd.prog opsC (atEnd (ChaInv key nonce counter b W ws (listed.setIfInBounds 7 true)) Q) [opC7] (frC key nonce counter b x7 x14 x15 x16 x17 x18 x19 x20) w := by
  obtain ⟨hn1, hdep⟩ := cha_dep hi opC7 rfl
  obtain ⟨hlt, hno⟩ := cha_no hn1
  have hzv : ∀ W, (zeroValue 36).run Tryd.prog W = .ok (.agg (Iv .u32 (zeroL 16))) W := (zero_of_info (n := 16) (by kernel_rfl)).1
  have hno8 : Lb listed 8 = false := by
    cases h8 : Lb listed 8 with
    | false => rfl
    | true => exact absurd (h.p8 h8) (by rw [hno]; simp)
  have HH : Hid _ := h
  clear h hdep hn1
  unfold frC opC7
  go_wp2_with fail
  have h := HH.out
  have hb : Below w.heap.size w (w.alloc (.cells (Iv .u32 (zeroL 16)) 36)) := (Below.refl _ _).alloc (Nat.le_refl _) _
  refine ⟨_, _, _, _, _, _, _, _, rfl, { 
    size := by simpa using h.size
    bel := h.bel.trans (hb.mono h.bel.size)
    p0 := fun hl => h.p0 (by rwa [Lb_ne (by omega)] at hl)
    p1 := fun hl => h.p1 (by rwa [Lb_ne (by omega)] at hl)
    p3 := fun hl => h.p3 (by rwa [Lb_ne (by omega)] at hl)
    p6 := fun hl => h.p6 (by rwa [Lb_ne (by omega)] at hl)
    p2 := fun hl => (h.p2 (by rwa [Lb_ne (by omega)] at hl)).imp (fun e => by rw [Lb_ne (by omega)]; exact e) (fun o => o.later hb)
    p4 := fun hl => (h.p4 (by rwa [Lb_ne (by omega)] at hl)).imp (fun e => by rw [Lb_ne (by omega)]; exact e) (fun o => o.later hb)
    p5 := fun hl => (h.p5 (by rwa [Lb_ne (by omega)] at hl)).imp (fun e => by rw [Lb_ne (by omega)]; exact e) (fun o => o.later hb)
    p7 := fun _ => by
      refine ⟨w.heap.size, rfl, h.bel.size, ?_, fun hl2 => ?_⟩
      · rw [Lb_ne (by omega), hno8]
        exact heap_alloc_new _ _
      · rw [Lb_ne (by omega)] at hl2 ⊢
        refine (h.p2 hl2).imp id (fun o e => ?_)
        have := (o.lt _ e).2
        omega
    p8 := fun hl => by first | (rw [Lb_ne (by omega)] at hl ⊢; exact h.p8 hl) | exact Lb_self hlt }⟩
set_option maxRecDepth 10000 in
set_option maxHeartbeats 2000000 in
theorem cha_s8 (h : ChaIn key nonce counter b W ws listed w x7 x14 x15 x16 x17 x18 x19 x20) (hi : 8 ∈ Region.ready .any opsC listed) (hst : (startC key counter ws).length = 16) :
    wpList Tryd.prog opsC (atEnd (ChaInv key nonce counter b W ws (listed.setIfInBounds 8 true)) Q) [opC8] (frC key nonce counter b x7 x14 x15 x16 x17 x18 x19 x20) w := by
  obtain ⟨hn1, hdep⟩ := cha_dep hi opC8 rfl
  obtain ⟨hlt, hno⟩ := cha_no hn1
  have l7 : Lb listed 7 = true := hdep { on := 7, ground := Ground.data } (by unfold opC8; simp) rfl
  have l6 : Lb listed 6 = true := hdep { on := 6, ground := Ground.data } (by unfold opC8; simp) rfl
  have l5 : Lb listed 5 = true := hdep { on := 5, ground := Ground.phase } (by unfold opC8; simp) rfl
  obtain rfl := h.p6 l6
  obtain ⟨g, rfl, hg, hrow, _⟩ := h.p7 l7
  rw [hno, if_neg (by simp)] at hrow
  have HR : Hid _ := hrow
  have hik : Hid ((Tryd.prog.info? 36).map (·.size) = some (Iv .u32 (startC key counter ws)).size) := by show _ = _; rw [Iv_size, hst]; exact infoT16
  have hiz : Hid ((Iv .u32 (zeroL 16)).size = (Iv .u32 (startC key counter ws)).size) := by show _ = _; rw [Iv_size, Iv_size, hst]; rfl
  have HH : Hid _ := h
  clear h hdep hn1 hrow hst
  unfold frC opC8
  refine wpList_put_row rfl 36 (.tmp 7) (.tmp 20) rfl g (Iv .u32 (startC key counter ws)) rfl rfl _ _ HR.out hik.out hiz.out (Iv_one _ _) ?_
  intro w' hP
  simp only [Act.put]
  go_wp2_with fail
  have h := HH.out
  refine ⟨_, _, _, _, _, _, _, _, rfl, { 
    size := by simpa using h.size
    bel := hP.below _ _ h.bel hg
    p0 := fun hl => h.p0 (by rwa [Lb_ne (by omega)] at hl)
    p1 := fun hl => h.p1 (by rwa [Lb_ne (by omega)] at hl)
    p3 := fun hl => h.p3 (by rwa [Lb_ne (by omega)] at hl)
    p6 := fun hl => h.p6 (by rwa [Lb_ne (by omega)] at hl)
    p2 := fun _ => .inl (by rw [Lb_ne (by omega)]; exact l5)
    p4 := fun _ => .inl (by rw [Lb_ne (by omega)]; exact l5)
    p5 := fun _ => .inl (by rw [Lb_ne (by omega)]; exact l6)
    p7 := fun _ => by
      refine ⟨g, rfl, hg, ?_, fun _ => .inl (by rw [Lb_ne (by omega)]; exact l5)⟩
      rw [Lb_self hlt, if_pos rfl]
      exact hP.here
    p8 := fun _ => by rw [Lb_ne (by omega)]; exact l7 }⟩
end
end Go.Proofs.YtfckjjdidkefcaaDoor
