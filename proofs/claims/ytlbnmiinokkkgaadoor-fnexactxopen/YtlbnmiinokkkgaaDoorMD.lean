import Derived.Test.YtlbnmiinokkkgaaDoorCS7Z
import Derived.Test.YtlbnmiinokkkgaaDoorRows
import Derived.Test.YtlbnmiinokkkgaaDoorBase
import Derived.Test.YtlbnmiinokkkgaaDoorMB
import Derived.Test.YtlbnmiinokkkgaaDoorLate
import Derived.Test.YtlbnmiinokkkgaaDoorNum
namespace Go.Proofs.YtlbnmiinokkkgaaDoor
open Go.RowKit
set_option linter.unusedVariables false
section
variable {key nonce : List Int} {counter : Int} {b : Nat} {W : World} {ws : List Int} {listed : Array Bool} {w : World} {x7 x14 x15 x16 x17 x18 x19 x20 : Value} {Q : Exit → Act → World → Prop}
set_option maxRecDepth 10000 in
set_option maxHeartbeats 2000000 in
theorem cha_s0 (h : ChaIn key nonce counter b W ws listed w x7 x14 x15 x16 x17 x18 x19 x20) (hi : 0 ∈ Region.ready .any opsC listed) (hk : key.length = 32) (hk0 : W.heap[b]? = some (.cells (Iv .u8 key) 22)) (hb0 : b < W.heap.size) :
    wpList Tryd.prog opsC (atEnd (ChaInv key nonce counter b W ws (listed.setIfInBounds 0 true)) Q) [opC0] (frC key nonce counter b x7 x14 x15 x16 x17 x18 x19 x20) w := by
  obtain ⟨hn1, hdep⟩ := cha_dep hi opC0 rfl
  obtain ⟨hlt, hno⟩ := cha_no hn1
  have G0 : Hid _ := (h.bel.block b hb0).trans hk0
  have hik : Hid ((Tryd.prog.info? 22).map (·.size) = some (Iv .u8 key).size) := by show _ = _; rw [Iv_size, hk]; exact infoK32
  have HH : Hid _ := h
  clear h hdep hn1 hk0
  unfold frC opC0
  go_wp2_with (refine wpList_load_row rfl 22 _ rfl b rfl _ (Iv .u8 key) _ _ G0.out Tryd.underlying22 rfl hik.out ?_)
  have h := HH.out
  have hb := Below.refl w.heap.size w
  refine ⟨_, _, _, _, _, _, _, _, rfl, { 
    size := by simpa using h.size
    bel := h.bel.trans (hb.mono h.bel.size)
    p0 := fun _ => rfl
    p1 := fun hl => h.p1 (by rwa [Lb_ne (by omega)] at hl)
    p3 := fun hl => h.p3 (by rwa [Lb_ne (by omega)] at hl)
    p6 := fun hl => h.p6 (by rwa [Lb_ne (by omega)] at hl)
    p2 := fun hl => (h.p2 (by rwa [Lb_ne (by omega)] at hl)).imp (fun e => by rw [Lb_ne (by omega)]; exact e) (fun o => o.later hb)
    p4 := fun hl => (h.p4 (by rwa [Lb_ne (by omega)] at hl)).imp (fun e => by rw [Lb_ne (by omega)]; exact e) (fun o => o.later hb)
    p5 := fun hl => (h.p5 (by rwa [Lb_ne (by omega)] at hl)).imp (fun e => by rw [Lb_ne (by omega)]; exact e) (fun o => o.later hb)
    p7 := fun hl => by
      obtain ⟨g, e1, e2, e3, e4⟩ := h.p7 (by rwa [Lb_ne (by omega)] at hl)
      refine ⟨g, e1, e2, ?_, fun hl2 => (e4 (by rwa [Lb_ne (by omega)] at hl2)).imp (fun e => by rw [Lb_ne (by omega)]; exact e) id⟩
      rw [Lb_ne (by omega), hb.block g (Array.getElem?_eq_some_iff.1 e3).1]
      exact e3
    p8 := fun hl => by first | (rw [Lb_ne (by omega)] at hl ⊢; exact h.p8 hl) | exact Lb_self hlt }⟩
set_option maxRecDepth 10000 in
set_option maxHeartbeats 2000000 in
theorem cha_s1 (h : ChaIn key nonce counter b W ws listed w x7 x14 x15 x16 x17 x18 x19 x20) (hi : 1 ∈ Region.ready .any opsC listed) :
    wpList Tryd.prog opsC (atEnd (ChaInv key nonce counter b W ws (listed.setIfInBounds 1 true)) Q) [opC1] (frC key nonce counter b x7 x14 x15 x16 x17 x18 x19 x20) w := by
  obtain ⟨hn1, hdep⟩ := cha_dep hi opC1 rfl
  obtain ⟨hlt, hno⟩ := cha_no hn1
  have HH : Hid _ := h
  clear h hdep hn1
  unfold frC opC1
  go_wp2_with fail
  have h := HH.out
  have hb := Below.refl w.heap.size w
  refine ⟨_, _, _, _, _, _, _, _, rfl, { 
    size := by simpa using h.size
    bel := h.bel.trans (hb.mono h.bel.size)
    p0 := fun hl => h.p0 (by rwa [Lb_ne (by omega)] at hl)
    p1 := fun _ => rfl
    p3 := fun hl => h.p3 (by rwa [Lb_ne (by omega)] at hl)
    p6 := fun hl => h.p6 (by rwa [Lb_ne (by omega)] at hl)
    p2 := fun hl => (h.p2 (by rwa [Lb_ne (by omega)] at hl)).imp (fun e => by rw [Lb_ne (by omega)]; exact e) (fun o => o.later hb)
    p4 := fun hl => (h.p4 (by rwa [Lb_ne (by omega)] at hl)).imp (fun e => by rw [Lb_ne (by omega)]; exact e) (fun o => o.later hb)
    p5 := fun hl => (h.p5 (by rwa [Lb_ne (by omega)] at hl)).imp (fun e => by rw [Lb_ne (by omega)]; exact e) (fun o => o.later hb)
    p7 := fun hl => by
      obtain ⟨g, e1, e2, e3, e4⟩ := h.p7 (by rwa [Lb_ne (by omega)] at hl)
      refine ⟨g, e1, e2, ?_, fun hl2 => (e4 (by rwa [Lb_ne (by omega)] at hl2)).imp (fun e => by rw [Lb_ne (by omega)]; exact e) id⟩
      rw [Lb_ne (by omega), hb.block g (Array.getElem?_eq_some_iff.1 e3).1]
      exact e3
    p8 := fun hl => by first | (rw [Lb_ne (by omega)] at hl ⊢; exact h.p8 hl) | exact Lb_self hlt }⟩
set_option maxRecDepth 10000 in
set_option maxHeartbeats 2000000 in
theorem cha_s3 (h : ChaIn key nonce counter b W ws listed w x7 x14 x15 x16 x17 x18 x19 x20) (hi : 3 ∈ Region.ready .any opsC listed) :
    wpList Tryd.prog opsC (atEnd (ChaInv key nonce counter b W ws (listed.setIfInBounds 3 true)) Q) [opC3] (frC key nonce counter b x7 x14 x15 x16 x17 x18 x19 x20) w := by
  obtain ⟨hn1, hdep⟩ := cha_dep hi opC3 rfl
  obtain ⟨hlt, hno⟩ := cha_no hn1
  have HH : Hid _ := h
  clear h hdep hn1
  unfold frC opC3
  go_wp2_with fail
  have h := HH.out
  have hb := Below.refl w.heap.size w
  refine ⟨_, _, _, _, _, _, _, _, rfl, { 
    size := by simpa using h.size
    bel := h.bel.trans (hb.mono h.bel.size)
    p0 := fun hl => h.p0 (by rwa [Lb_ne (by omega)] at hl)
    p1 := fun hl => h.p1 (by rwa [Lb_ne (by omega)] at hl)
    p3 := fun _ => rfl
    p6 := fun hl => h.p6 (by rwa [Lb_ne (by omega)] at hl)
    p2 := fun hl => (h.p2 (by rwa [Lb_ne (by omega)] at hl)).imp (fun e => by rw [Lb_ne (by omega)]; exact e) (fun o => o.later hb)
    p4 := fun hl => (h.p4 (by rwa [Lb_ne (by omega)] at hl)).imp (fun e => by rw [Lb_ne (by omega)]; exact e) (fun o => o.later hb)
    p5 := fun hl => (h.p5 (by rwa [Lb_ne (by omega)] at hl)).imp (fun e => by rw [Lb_ne (by omega)]; exact e) (fun o => o.later hb)
    p7 := fun hl => by
      obtain ⟨g, e1, e2, e3, e4⟩ := h.p7 (by rwa [Lb_ne (by omega)] at hl)
      refine ⟨g, e1, e2, ?_, fun hl2 => (e4 (by rwa [Lb_ne (by omega)] at hl2)).imp (fun e => by rw [Lb_ne (by omega)]; exact e) id⟩
      rw [Lb_ne (by omega), hb.block g (Array.getElem?_eq_some_iff.1 e3).1]
      exact e3
    p8 := fun hl => by first | (rw [Lb_ne (by omega)] at hl ⊢; exact h.p8 hl) | exact Lb_self hlt }⟩
set_option maxRecDepth 10000 in
set_option maxHeartbeats 2000000 in
theorem cha_s2 (h : ChaIn key nonce counter b W ws listed w x7 x14 x15 x16 x17 x18 x19 x20) (hi : 2 ∈ Region.ready .any opsC listed) :
    wpList Tryd.prog opsC (atEnd (ChaInv key nonce counter b W ws (listed.setIfInBounds 2 true)) Q) [opC2] (frC key nonce counter b x7 x14 x15 x16 x17 x18 x19 x20) w := by
  obtain ⟨hn1, hdep⟩ := cha_dep hi opC2 rfl
  obtain ⟨hlt, hno⟩ := cha_no hn1
  have l1 : Lb listed 1 = true := hdep { on := 1, ground := Ground.data } (by unfold opC2; simp) rfl
  obtain rfl := h.p1 l1
  have HH : Hid _ := h
  clear h hdep hn1
  unfold frC opC2
  go_wp2_with fail
  have h := HH.out
  have hb : Below w.heap.size w (w.alloc (.cells #[.int .u32 counter] 49)) := (Below.refl _ _).alloc (Nat.le_refl _) _
  refine ⟨_, _, _, _, _, _, _, _, rfl, { 
    size := by simpa using h.size
    bel := h.bel.trans (hb.mono h.bel.size)
    p0 := fun hl => h.p0 (by rwa [Lb_ne (by omega)] at hl)
    p1 := fun hl => h.p1 (by rwa [Lb_ne (by omega)] at hl)
    p3 := fun hl => h.p3 (by rwa [Lb_ne (by omega)] at hl)
    p6 := fun hl => h.p6 (by rwa [Lb_ne (by omega)] at hl)
    p2 := fun _ => .inr (Own.one w counter h.bel.size)
    p4 := fun hl => (h.p4 (by rwa [Lb_ne (by omega)] at hl)).imp (fun e => by rw [Lb_ne (by omega)]; exact e) (fun o => o.later hb)
    p5 := fun hl => (h.p5 (by rwa [Lb_ne (by omega)] at hl)).imp (fun e => by rw [Lb_ne (by omega)]; exact e) (fun o => o.later hb)
    p7 := fun hl => by
      obtain ⟨g, e1, e2, e3, e4⟩ := h.p7 (by rwa [Lb_ne (by omega)] at hl)
      have hg := (Array.getElem?_eq_some_iff.1 e3).1
      refine ⟨g, e1, e2, ?_, fun _ => .inr ?_⟩
      · rw [Lb_ne (by omega), hb.block g hg]
        exact e3
      · intro e
        have : w.heap.size = g := by simpa [Value.ownBlock] using e
        omega
    p8 := fun hl => by first | (rw [Lb_ne (by omega)] at hl ⊢; exact h.p8 hl) | exact Lb_self hlt }⟩
set_option maxRecDepth 10000 in
set_option maxHeartbeats 2000000 in
theorem cha_s4 (h : ChaIn key nonce counter b W ws listed w x7 x14 x15 x16 x17 x18 x19 x20) (hi : 4 ∈ Region.ready .any opsC listed) (hr : nonce.length = 12) (hrb : Bytes nonce) (hn0 : W.heap[b + 1]? = some (.cells (Iv .u8 nonce) 23)) (hb0 : b + 1 < W.heap.size) (hws : ws = wordsOf nonce 3) :
    wpList Tryd.prog opsC (atEnd (ChaInv key nonce counter b W ws (listed.setIfInBounds 4 true)) Q) [opC4] (frC key nonce counter b x7 x14 x15 x16 x17 x18 x19 x20) w := by
  obtain ⟨hn1, hdep⟩ := cha_dep hi opC4 rfl
  obtain ⟨hlt, hno⟩ := cha_no hn1
  have l3 : Lb listed 3 = true := hdep { on := 3, ground := Ground.data } (by unfold opC4; simp) rfl
  obtain rfl := h.p3 l3
  have hrow := (h.bel.block (b + 1) hb0).trans hn0
  have hrd : RdK .u8 w (some ⟨b + 1, 0, none⟩) nonce := by
    intro i hi
    refine ⟨b + 1, 0, rfl, ?_⟩
    rw [Nat.zero_add, cell_of_row _ _ _ _ _ _ hrow, Iv_get .u8 _ i hi, List.getD_eq_getElem?_getD, List.getElem?_eq_getElem hi]
    rfl
  have hcall := words_any nonce 12 3 hr hrb (by omega) (by omega) (some ⟨b + 1, 0, none⟩) 12 w hrd
  have HC : Hid _ := hcall
  have HH : Hid _ := h
  clear h hdep hn1 hrow hrd hcall hn0
  unfold frC opC4
  go_wp2_with fail
  refine Calls.mono HC.out ?_
  rintro e w' ⟨v, rfl, ho, hb⟩
  rw [← hws] at ho
  go_wp2_with fail
  have h := HH.out
  refine ⟨_, _, _, _, _, _, _, _, rfl, { 
    size := by simpa using h.size
    bel := h.bel.trans (hb.mono h.bel.size)
    p0 := fun hl => h.p0 (by rwa [Lb_ne (by omega)] at hl)
    p1 := fun hl => h.p1 (by rwa [Lb_ne (by omega)] at hl)
    p3 := fun hl => h.p3 (by rwa [Lb_ne (by omega)] at hl)
    p6 := fun hl => h.p6 (by rwa [Lb_ne (by omega)] at hl)
    p2 := fun hl => (h.p2 (by rwa [Lb_ne (by omega)] at hl)).imp (fun e => by rw [Lb_ne (by omega)]; exact e) (fun o => o.later hb)
    p4 := fun _ => .inr (ho.mono h.bel.size)
    p5 := fun hl => (h.p5 (by rwa [Lb_ne (by omega)] at hl)).imp (fun e => by rw [Lb_ne (by omega)]; exact e) (fun o => o.later hb)
    p7 := fun hl => by
      obtain ⟨g, e1, e2, e3, e4⟩ := h.p7 (by rwa [Lb_ne (by omega)] at hl)
      refine ⟨g, e1, e2, ?_, fun hl2 => (e4 (by rwa [Lb_ne (by omega)] at hl2)).imp (fun e => by rw [Lb_ne (by omega)]; exact e) id⟩
      rw [Lb_ne (by omega), hb.block g (Array.getElem?_eq_some_iff.1 e3).1]
      exact e3
    p8 := fun hl => by first | (rw [Lb_ne (by omega)] at hl ⊢; exact h.p8 hl) | exact Lb_self hlt }⟩
set_option maxRecDepth 10000 in
set_option maxHeartbeats 2000000 in
theorem cha_s5 (h : ChaIn key nonce counter b W ws listed w x7 x14 x15 x16 x17 x18 x19 x20) (hi : 5 ∈ Region.ready .any opsC listed) (hwl : ws.length = 3) :
    wpList Tryd.prog opsC (atEnd (ChaInv key nonce counter b W ws (listed.setIfInBounds 5 true)) Q) [opC5] (frC key nonce counter b x7 x14 x15 x16 x17 x18 x19 x20) w := by
  obtain ⟨hn1, hdep⟩ := cha_dep hi opC5 rfl
  obtain ⟨hlt, hno⟩ := cha_no hn1
  have l2 : Lb listed 2 = true := hdep { on := 2, ground := Ground.data } (by unfold opC5; simp) rfl
  have l4 : Lb listed 4 = true := hdep { on := 4, ground := Ground.data } (by unfold opC5; simp) rfl
  have o16 := (h.p2 l2).resolve_left (by rw [hno]; simp)
  have o18 := (h.p4 l4).resolve_left (by rw [hno]; simp)
  obtain ⟨_, hbad⟩ | ⟨g18, c18, rfl, _, hg18, _, _, hcell, _⟩ := o18.at
  · rw [hbad] at hwl; simp at hwl
  have HO : Hid _ := o16
  have HB : Hid _ := h.bel
  have HN : Hid (∀ j, j < 3 → w.cell? ⟨g18, 0 + j, none⟩ = some (.int .u32 (ws.getD j 0))) := fun j hj => by rw [Nat.zero_add]; exact hcell j (by omega)
  have HL : Hid (ws.length = 3) := hwl
  have HH : Hid _ := h
  rw [hwl]
  clear h hdep hn1 o16 o18 hcell
  unfold frC opC5
  refine extend_law .u32 77 49 4 Tryd.underlying77 infoU32 (by decide) rfl (.tmp 16) (.tmp 18) rfl W.heap.size W w x16 [counter] g18 0 3 c18 ws HL.out rfl rfl HO.out HB.out HB.out.size (by simp) HN.out ?_
  intro v' w' ho hb2 hgr hblk
  simp only [Act.put, List.setIfInBounds_toArray, List.set_cons_succ, List.set_cons_zero]
  go_wp2_with fail
  have h := HH.out
  refine ⟨_, _, _, _, _, _, _, _, rfl, { 
    size := by simpa using h.size
    bel := hb2
    p0 := fun hl => h.p0 (by rwa [Lb_ne (by omega)] at hl)
    p1 := fun hl => h.p1 (by rwa [Lb_ne (by omega)] at hl)
    p3 := fun hl => h.p3 (by rwa [Lb_ne (by omega)] at hl)
    p6 := fun hl => h.p6 (by rwa [Lb_ne (by omega)] at hl)
    p2 := fun _ => .inl (Lb_self hlt)
    p4 := fun _ => .inl (Lb_self hlt)
    p5 := fun _ => .inr ho
    p7 := fun hl => by
      obtain ⟨g, e1, e2, e3, e4⟩ := h.p7 (by rwa [Lb_ne (by omega)] at hl)
      refine ⟨g, e1, e2, ?_, fun _ => .inl (Lb_self hlt)⟩
      rw [Lb_ne (by omega), hgr.block g (Array.getElem?_eq_some_iff.1 e3).1 (fun e => ((e4 l2).resolve_left (by rw [hno]; simp)) e.symm)]
      exact e3
    p8 := fun hl => by first | (rw [Lb_ne (by omega)] at hl ⊢; exact h.p8 hl) | exact Lb_self hlt }⟩
set_option maxRecDepth 10000 in
set_option maxHeartbeats 2000000 in
theorem cha_s6 (h : ChaIn key nonce counter b W ws listed w x7 x14 x15 x16 x17 x18 x19 x20) (hi : 6 ∈ Region.ready .any opsC listed) (hk : key.length = 32) (hkb : Bytes key) (hwl : ws.length = 3) :
    wpList Tryd.prog opsC (atEnd (ChaInv key nonce counter b W ws (listed.setIfInBounds 6 true)) Q) [opC6] (frC key nonce counter b x7 x14 x15 x16 x17 x18 x19 x20) w := by
  obtain ⟨hn1, hdep⟩ := cha_dep hi opC6 rfl
  obtain ⟨hlt, hno⟩ := cha_no hn1
  have l0 : Lb listed 0 = true := hdep { on := 0, ground := Ground.data } (by unfold opC6; simp) rfl
  have l5 : Lb listed 5 = true := hdep { on := 5, ground := Ground.data } (by unfold opC6; simp) rfl
  obtain rfl := h.p0 l0
  have o19 := (h.p5 l5).resolve_left (by rw [hno]; simp)
  obtain ⟨a, n, cap, rfl, hn, hrd⟩ := o19.rdk
  have hn4 : n = 4 := by rw [hn]; simp [hwl]
  subst hn4
  have hcall := l2Start_any key (counter :: ws) 4 w hk hkb (by simp [hwl]) (by omega) a cap hrd
  have HC : Hid _ := hcall
  have HH : Hid _ := h
  clear h hdep hn1 hcall hrd o19 hn
  unfold frC opC6
  go_wp2_with fail
  refine Calls.mono HC.out ?_
  rintro e w' ⟨rfl, hb⟩
  go_wp2_with fail
  have h := HH.out
  refine ⟨_, _, _, _, _, _, _, _, rfl, { 
    size := by simpa using h.size
    bel := h.bel.trans (hb.mono h.bel.size)
    p0 := fun hl => h.p0 (by rwa [Lb_ne (by omega)] at hl)
    p1 := fun hl => h.p1 (by rwa [Lb_ne (by omega)] at hl)
    p3 := fun hl => h.p3 (by rwa [Lb_ne (by omega)] at hl)
    p6 := fun _ => rfl
    p2 := fun hl => (h.p2 (by rwa [Lb_ne (by omega)] at hl)).imp (fun e => by rw [Lb_ne (by omega)]; exact e) (fun o => o.later hb)
    p4 := fun hl => (h.p4 (by rwa [Lb_ne (by omega)] at hl)).imp (fun e => by rw [Lb_ne (by omega)]; exact e) (fun o => o.later hb)
    p5 := fun _ => .inl (Lb_self hlt)
    p7 := fun hl => by
      obtain ⟨g, e1, e2, e3, e4⟩ := h.p7 (by rwa [Lb_ne (by omega)] at hl)
      refine ⟨g, e1, e2, ?_, fun hl2 => (e4 (by rwa [Lb_ne (by omega)] at hl2)).imp (fun e => by rw [Lb_ne (by omega)]; exact e) id⟩
      rw [Lb_ne (by omega), hb.block g (Array.getElem?_eq_some_iff.1 e3).1]
      exact e3
    p8 := fun hl => by first | (rw [Lb_ne (by omega)] at hl ⊢; exact h.p8 hl) | exact Lb_self hlt }⟩
set_option maxRecDepth 10000 in
set_option maxHeartbeats 2000000 in
theorem cha_s7 (h : ChaIn key nonce counter b W ws listed w x7 x14 x15 x16 x17 x18 x19 x20) (hi : 7 ∈ Region.ready .any opsC listed) :
    wpList Tryd.prog opsC (atEnd (ChaInv key nonce counter b W ws (listed.setIfInBounds 7 true)) Q) [opC7] (frC key nonce counter b x7 x14 x15 x16 x17 x18 x19 x20) w := by
  obtain ⟨hn1, hdep⟩ := cha_dep hi opC7 rfl
  obtain ⟨hlt, hno⟩ := cha_no hn1
  have hzv : ∀ W, (zeroValue 60).run Tryd.prog W = .ok (.agg (Iv .u32 (zeroL 16))) W := (zero_of_info (n := 16) (by kernel_rfl)).1
  have hno8 : Lb listed 8 = false := by
    cases h8 : Lb listed 8 with
    | false => rfl
    | true => exact absurd (h.p8 h8) (by rw [hno]; simp)
  have HH : Hid _ := h
  clear h hdep hn1
  unfold frC opC7
  go_wp2_with fail
  have h := HH.out
  have hb : Below w.heap.size w (w.alloc (.cells (Iv .u32 (zeroL 16)) 60)) := (Below.refl _ _).alloc (Nat.le_refl _) _
  refine ⟨_, _, _, _, _, _, _, _, rfl, { 
    size := by simpa using h.size
    bel := h.bel.trans (hb.mono h.bel.size)
    p0 := fun hl => h.p0 (by rwa [Lb_ne (by omega)] at hl)
    p1 := fun hl => h.p1 (by rwa [Lb_ne (by omega)] at hl)
    p3 := fun hl => h.p3 (by rwa [Lb_ne (by omega)] at hl)
    p6 := fun hl => h.p6 (by rwa [Lb_ne (by omega)] at hl)
    p2 := fun hl => (h.p2 (by rwa [Lb_ne (by omega)] at hl)).imp (fun e => by rw [Lb_ne (by omega)]; exact e) (fun o => o.later hb)
    p4 := fun hl => (h.p4 (by rwa [Lb_ne (by omega)] at hl)).imp (fun e => by rw [Lb_ne (by omega)]; exact e) (fun o => o.later hb)
    p5 := fun hl => (h.p5 (by rwa [Lb_ne (by omega)] at hl)).imp (fun e => by rw [Lb_ne (by omega)]; exact e) (fun o => o.later hb)
    p7 := fun _ => by
      refine ⟨w.heap.size, rfl, h.bel.size, ?_, fun hl2 => ?_⟩
      · rw [Lb_ne (by omega), hno8]
        exact heap_alloc_new _ _
      · rw [Lb_ne (by omega)] at hl2 ⊢
        refine (h.p2 hl2).imp id (fun o e => ?_)
        have := (o.lt _ e).2
        omega
    p8 := fun hl => by first | (rw [Lb_ne (by omega)] at hl ⊢; exact h.p8 hl) | exact Lb_self hlt }⟩
set_option maxRecDepth 10000 in
set_option maxHeartbeats 2000000 in
theorem cha_s8 (h : ChaIn key nonce counter b W ws listed w x7 x14 x15 x16 x17 x18 x19 x20) (hi : 8 ∈ Region.ready .any opsC listed) (hst : (startC key counter ws).length = 16) :
    wpList Tryd.prog opsC (atEnd (ChaInv key nonce counter b W ws (listed.setIfInBounds 8 true)) Q) [opC8] (frC key nonce counter b x7 x14 x15 x16 x17 x18 x19 x20) w := by
  obtain ⟨hn1, hdep⟩ := cha_dep hi opC8 rfl
  obtain ⟨hlt, hno⟩ := cha_no hn1
  have l7 : Lb listed 7 = true := hdep { on := 7, ground := Ground.data } (by unfold opC8; simp) rfl
  have l6 : Lb listed 6 = true := hdep { on := 6, ground := Ground.data } (by unfold opC8; simp) rfl
  have l5 : Lb listed 5 = true := hdep { on := 5, ground := Ground.phase } (by unfold opC8; simp) rfl
  obtain rfl := h.p6 l6
  obtain ⟨g, rfl, hg, hrow, _⟩ := h.p7 l7
  rw [hno, if_neg (by simp)] at hrow
  have HR : Hid _ := hrow
  have hik : Hid ((Tryd.prog.info? 60).map (·.size) = some (Iv .u32 (startC key counter ws)).size) := by show _ = _; rw [Iv_size, hst]; exact infoT16
  have hiz : Hid ((Iv .u32 (zeroL 16)).size = (Iv .u32 (startC key counter ws)).size) := by show _ = _; rw [Iv_size, Iv_size, hst]; rfl
  have HH : Hid _ := h
  clear h hdep hn1 hrow hst
  unfold frC opC8
  refine wpList_put_row rfl 60 (.tmp 7) (.tmp 20) rfl g (Iv .u32 (startC key counter ws)) rfl rfl _ _ HR.out hik.out hiz.out (Iv_one _ _) ?_
  intro w' hP
  simp only [Act.put]
  go_wp2_with fail
  have h := HH.out
  refine ⟨_, _, _, _, _, _, _, _, rfl, { 
    size := by simpa using h.size
    bel := hP.below _ _ h.bel hg
    p0 := fun hl => h.p0 (by rwa [Lb_ne (by omega)] at hl)
    p1 := fun hl => h.p1 (by rwa [Lb_ne (by omega)] at hl)
    p3 := fun hl => h.p3 (by rwa [Lb_ne (by omega)] at hl)
    p6 := fun hl => h.p6 (by rwa [Lb_ne (by omega)] at hl)
    p2 := fun _ => .inl (by rw [Lb_ne (by omega)]; exact l5)
    p4 := fun _ => .inl (by rw [Lb_ne (by omega)]; exact l5)
    p5 := fun _ => .inl (by rw [Lb_ne (by omega)]; exact l6)
    p7 := fun _ => by
      refine ⟨g, rfl, hg, ?_, fun _ => .inl (by rw [Lb_ne (by omega)]; exact l5)⟩
      rw [Lb_self hlt, if_pos rfl]
      exact hP.here
    p8 := fun _ => by rw [Lb_ne (by omega)]; exact l7 }⟩
end
end Go.Proofs.YtlbnmiinokkkgaaDoor
namespace Go.Proofs.YtlbnmiinokkkgaaDoor
open Go.RowKit
set_option linter.unusedVariables false

theorem rot16 (x : Int) (w : World) (h : W32 x) : Calls Tryd.prog 70 #[.int .u32 x, .int .i64 16] w fun e w' => e = .returned (.int .u32 (rl 16 x)) ∧ w' = w := by
  have hr := (rl16 x h).2
  have hm : bits .and .u64 16 31 = 16 := by kernel_rfl
  obtain ⟨h0, h1⟩ := h
  go_enter Tryd.func70, Tryd.ntmps70
  go_wp2
  go_ret
  exact ⟨rfl, rfl⟩
theorem rot12 (x : Int) (w : World) (h : W32 x) : Calls Tryd.prog 70 #[.int .u32 x, .int .i64 12] w fun e w' => e = .returned (.int .u32 (rl 12 x)) ∧ w' = w := by
  have hr := (rl12 x h).2
  have hm : bits .and .u64 12 31 = 12 := by kernel_rfl
  obtain ⟨h0, h1⟩ := h
  go_enter Tryd.func70, Tryd.ntmps70
  go_wp2
  go_ret
  exact ⟨rfl, rfl⟩
theorem rot8 (x : Int) (w : World) (h : W32 x) : Calls Tryd.prog 70 #[.int .u32 x, .int .i64 8] w fun e w' => e = .returned (.int .u32 (rl 8 x)) ∧ w' = w := by
  have hr := (rl8 x h).2
  have hm : bits .and .u64 8 31 = 8 := by kernel_rfl
  obtain ⟨h0, h1⟩ := h
  go_enter Tryd.func70, Tryd.ntmps70
  go_wp2
  go_ret
  exact ⟨rfl, rfl⟩
theorem rot7 (x : Int) (w : World) (h : W32 x) : Calls Tryd.prog 70 #[.int .u32 x, .int .i64 7] w fun e w' => e = .returned (.int .u32 (rl 7 x)) ∧ w' = w := by
  have hr := (rl7 x h).2
  have hm : bits .and .u64 7 31 = 7 := by kernel_rfl
  obtain ⟨h0, h1⟩ := h
  go_enter Tryd.func70, Tryd.ntmps70
  go_wp2
  go_ret
  exact ⟨rfl, rfl⟩

set_option maxHeartbeats 1000000 in
theorem quarter_any (a b c d : Int) (w : World) (ha : W32 a) (hb : W32 b) (hc : W32 c) (hd : W32 d) :
    Calls Tryd.prog 55 #[.int .u32 a, .int .u32 b, .int .u32 c, .int .u32 d] w fun e w' => e = .returned (.tuple #[.int .u32 (qA a b c d), .int .u32 (qB a b c d), .int .u32 (qC a b c d), .int .u32 (qD a b c d)]) ∧ w' = w := by
  go_enter Tryd.func55, Tryd.ntmps55
  go_wp2_with fail
  refine (rot16 _ _ (xr_in _ _)).mono ?_
  rintro e w1 ⟨rfl, rfl⟩
  go_wp2_with fail

  refine (rot12 _ _ (xr_in _ _)).mono ?_
  rintro e w1 ⟨rfl, rfl⟩
  go_wp2_with fail
  refine (rot8 _ _ (xr_in _ _)).mono ?_
  rintro e w1 ⟨rfl, rfl⟩
  go_wp2_with fail
  refine (rot7 _ _ (xr_in _ _)).mono ?_
  rintro e w1 ⟨rfl, rfl⟩
  go_wp2
  refine bodyPost_ret (v := .tuple #[.int .u32 _, .int .u32 _, .int .u32 _, .int .u32 _]) (by simp [results, Tryd.results55, go_sem, qA, qB, qC, qD, ad]) rfl ⟨rfl, rfl⟩
end Go.Proofs.YtlbnmiinokkkgaaDoor
namespace Go.Proofs.YtlbnmiinokkkgaaDoor
open Go.RowKit
set_option linter.unusedVariables false
theorem mixedC : Tryd.prog.follows .mixedOrders = true := by kernel_rfl
theorem infoW16 : (Tryd.prog.info? 60).map (·.size) = some 16 := by kernel_rfl

theorem late_step {W W0 : World} {g p : Nat} {v : Value} (h : ∃ cs, W.drew = W0.drew.setRow g cs) : ∃ cs, (W.setCell ⟨g, p, none⟩ v).drew = W0.drew.setRow g cs := by
  obtain ⟨cs, h⟩ := h
  refine ⟨cs.setIfInBounds p v, ?_⟩
  rw [← setCell_setRow, ← h]
  rfl
/-- The table of the mixings' places, as the program's variable holds it. -/
def MixTab (w : World) : Prop := ∀ i, i < 8 → w.cell? ⟨0, i * 4, none⟩ = some (.int .u8 (q0 i)) ∧ w.cell? ⟨0, i * 4 + 1, none⟩ = some (.int .u8 (q1 i)) ∧ w.cell? ⟨0, i * 4 + 2, none⟩ = some (.int .u8 (q2 i)) ∧ w.cell? ⟨0, i * 4 + 3, none⟩ = some (.int .u8 (q3 i))

theorem MixTab.later {B : Nat} {w w' : World} (h : MixTab w) (hb : Below B w w') (hB : w.heap.size ≤ B) : MixTab w' := by
  intro i hi
  obtain ⟨t0, t1, t2, t3⟩ := h i hi
  have l0 := World.block_lt_of_cell? _ _ t0
  exact ⟨(hb.cell (p := ⟨0, i * 4, none⟩) (Nat.lt_of_lt_of_le l0 hB)).trans t0, (hb.cell (p := ⟨0, i * 4 + 1, none⟩) (Nat.lt_of_lt_of_le l0 hB)).trans t1, (hb.cell (p := ⟨0, i * 4 + 2, none⟩) (Nat.lt_of_lt_of_le l0 hB)).trans t2, (hb.cell (p := ⟨0, i * 4 + 3, none⟩) (Nat.lt_of_lt_of_le l0 hB)).trans t3⟩
set_option maxHeartbeats 4000000 in
theorem chaRounds_any (l : List Int) (w : World) (hl : l.length = 16) (h : All32 l) (ht : MixTab w) :
    Calls Tryd.prog 41 #[.agg (Iv .u32 l)] w fun e w' => e = .returned (.agg (Iv .u32 (roundsN l 10))) ∧ Below w.heap.size w w' := by
  go_enter Tryd.func41, Tryd.ntmps41
  go_wp2
  go_loopw [5] (fun r wr => ∃ k : Nat, k ≤ 10 ∧ r = .int .i64 k ∧ wr.heap[w.heap.size]? = some (.cells (Iv .u32 (roundsN l k)) 60) ∧ wr.heap[w.heap.size + 1]? = some (.cells (Iv .u32 (List.replicate 16 0)) 60) ∧ Below w.heap.size w wr) (fun r _ => 10 - (intOf r).toNat)
  case atStart =>
    refine ⟨0, by omega, rfl, ?_, ?_, ?_⟩
    · simp only [heapAt, World.size_alloc]; simp [roundsN]
    · simp only [heapAt, World.size_alloc]; simp; rfl
    · exact ((Below.refl _ _).alloc (by simp) _).alloc (by simp) _
  case round =>
    obtain ⟨k, hk, rfl, hg, hg1, hbel⟩ := hrel
    by_cases hlt : k < 10
    · obtain ⟨WX, rfl⟩ : ∃ X, X = wr := ⟨_, rfl⟩
      go_wp2
      have hdec : decide ((k : Int) < 10) = true := by simp; omega
      simp only [hdec]
      clear hdec
      go_loopw [7] (fun r wr => ∃ j : Nat, j ≤ 8 ∧ r = .int .i64 j ∧ wr.heap[w.heap.size]? = some (.cells (Iv .u32 (mixN (roundsN l k) j)) 60) ∧ wr.heap[w.heap.size + 1]? = some (.cells (Iv .u32 (List.replicate 16 0)) 60) ∧ Below w.heap.size w wr) (fun r _ => 8 - (intOf r).toNat)
      case atStart => exact ⟨0, by omega, rfl, hg, hg1, hbel⟩
      case round =>
        obtain ⟨j, hj, rfl, hgj, hg1j, hbelj⟩ := hrel
        clear hg hg1 hbel
        by_cases hltj : j < 8
        · obtain ⟨t0, t1, t2, t3⟩ := ht j hltj
          have c0 := (hbelj.cell (p := ⟨0, j * 4, none⟩) (World.block_lt_of_cell? _ _ t0)).trans t0
          have c1 := (hbelj.cell (p := ⟨0, j * 4 + 1, none⟩) (World.block_lt_of_cell? _ _ t1)).trans t1
          have c2 := (hbelj.cell (p := ⟨0, j * 4 + 2, none⟩) (World.block_lt_of_cell? _ _ t2)).trans t2
          have c3 := (hbelj.cell (p := ⟨0, j * 4 + 3, none⟩) (World.block_lt_of_cell? _ _ t3)).trans t3
          obtain ⟨l0, l1, l2, l3⟩ := q_lt j hltj
          have HL : Hid (mixN (roundsN l k) (j + 1) = mixAt (mixN (roundsN l k) j) (q0 j) (q1 j) (q2 j) (q3 j)) := rfl
          have hLl : (mixN (roundsN l k) j).length = 16 := by rw [mixN_length, roundsN_length, hl]
          have hLa : All32 (mixN (roundsN l k) j) := mixN_in (roundsN_in h k) j
          have hsz : w.heap.size + 1 < wr.heap.size := (Array.getElem?_eq_some_iff.1 hg1j).1
          generalize mixN (roundsN l k) j = L at *
          have w0 := hLa (q0 j)
          have w1 := hLa (q1 j)
          have w2 := hLa (q2 j)
          have w3 := hLa (q3 j)
          have r0 : wr.cell? ⟨w.heap.size, q0 j, none⟩ = some (.int .u32 (L.getD (q0 j) 0)) := by rw [cell_of_row _ _ _ _ _ _ hgj, Iv_get _ _ _ (by omega)]; simp [show q0 j < L.length by omega]
          have r1 : wr.cell? ⟨w.heap.size, q1 j, none⟩ = some (.int .u32 (L.getD (q1 j) 0)) := by rw [cell_of_row _ _ _ _ _ _ hgj, Iv_get _ _ _ (by omega)]; simp [show q1 j < L.length by omega]
          have r2 : wr.cell? ⟨w.heap.size, q2 j, none⟩ = some (.int .u32 (L.getD (q2 j) 0)) := by rw [cell_of_row _ _ _ _ _ _ hgj, Iv_get _ _ _ (by omega)]; simp [show q2 j < L.length by omega]
          have r3 : wr.cell? ⟨w.heap.size, q3 j, none⟩ = some (.int .u32 (L.getD (q3 j) 0)) := by rw [cell_of_row _ _ _ _ _ _ hgj, Iv_get _ _ _ (by omega)]; simp [show q3 j < L.length by omega]
          have HM : Hid (mixAt L (q0 j) (q1 j) (q2 j) (q3 j) = (((L.set (q0 j) (qA (L.getD (q0 j) 0) (L.getD (q1 j) 0) (L.getD (q2 j) 0) (L.getD (q3 j) 0))).set (q1 j) (qB (L.getD (q0 j) 0) (L.getD (q1 j) 0) (L.getD (q2 j) 0) (L.getD (q3 j) 0))).set (q2 j) (qC (L.getD (q0 j) 0) (L.getD (q1 j) 0) (L.getD (q2 j) 0) (L.getD (q3 j) 0))).set (q3 j) (qD (L.getD (q0 j) 0) (L.getD (q1 j) 0) (L.getD (q2 j) 0) (L.getD (q3 j) 0))) := rfl
          obtain ⟨b0, b1, b1', b2, b2', b3, b3'⟩ := q_in j hltj
          have n01 : ¬ q0 j = q1 j := by omega
          have n02 : ¬ q0 j = q2 j := by omega
          have n03 : ¬ q0 j = q3 j := by omega
          have n12 : ¬ q1 j = q2 j := by omega
          have n13 : ¬ q1 j = q3 j := by omega
          have n23 : ¬ q2 j = q3 j := by omega
          have m01 : ¬ q1 j = q0 j := by omega
          have m02 : ¬ q2 j = q0 j := by omega
          have m03 : ¬ q3 j = q0 j := by omega
          have m12 : ¬ q2 j = q1 j := by omega
          have m13 : ¬ q3 j = q1 j := by omega
          have m23 : ¬ q3 j = q2 j := by omega
          have f0 : wr.frozen? ⟨w.heap.size, q0 j, none⟩ = false := frozen_of_row _ _ _ _ _ hgj
          have f1 : wr.frozen? ⟨w.heap.size, q1 j, none⟩ = false := frozen_of_row _ _ _ _ _ hgj
          have f2 : wr.frozen? ⟨w.heap.size, q2 j, none⟩ = false := frozen_of_row _ _ _ _ _ hgj
          have f3 : wr.frozen? ⟨w.heap.size, q3 j, none⟩ = false := frozen_of_row _ _ _ _ _ hgj
          clear b0 b1 b1' b2 b2' b3 b3'
          have e0 : Hid ((Iv .u32 L)[q0 j]? = some (.int .u32 (L.getD (q0 j) 0))) := by show _ = _; rw [Iv_get _ _ _ (by omega)]; simp [show q0 j < L.length by omega]
          have e1 : Hid ((Iv .u32 L)[q1 j]? = some (.int .u32 (L.getD (q1 j) 0))) := by show _ = _; rw [Iv_get _ _ _ (by omega)]; simp [show q1 j < L.length by omega]
          have e2 : Hid ((Iv .u32 L)[q2 j]? = some (.int .u32 (L.getD (q2 j) 0))) := by show _ = _; rw [Iv_get _ _ _ (by omega)]; simp [show q2 j < L.length by omega]
          have e3 : Hid ((Iv .u32 L)[q3 j]? = some (.int .u32 (L.getD (q3 j) 0))) := by show _ = _; rw [Iv_get _ _ _ (by omega)]; simp [show q3 j < L.length by omega]
          generalize q0 j = p0 at *
          generalize q1 j = p1 at *
          generalize q2 j = p2 at *
          generalize q3 j = p3 at *
          generalize L.getD p0 0 = x0 at *
          generalize L.getD p1 0 = x1 at *
          generalize L.getD p2 0 = x2 at *
          generalize L.getD p3 0 = x3 at *
          clear t0 t1 t2 t3 hLa ht
          have hne : w.heap.size < wr.heap.size := by omega
          have hT : wr.heap[w.heap.size + 1]? = some (.cells (Iv .u32 (List.replicate 16 0)) 60) := hg1j
          go_wp2
          have pc0 : (wr.alloc (.cells #[.int .u8 p0, .int .u8 p1, .int .u8 p2, .int .u8 p3] 72)).cell? ⟨wr.heap.size, 0, none⟩ = some (.int .u8 p0) := by simp
          have pc1 : (wr.alloc (.cells #[.int .u8 p0, .int .u8 p1, .int .u8 p2, .int .u8 p3] 72)).cell? ⟨wr.heap.size, 1, none⟩ = some (.int .u8 p1) := by simp
          have pc2 : (wr.alloc (.cells #[.int .u8 p0, .int .u8 p1, .int .u8 p2, .int .u8 p3] 72)).cell? ⟨wr.heap.size, 2, none⟩ = some (.int .u8 p2) := by simp
          have pc3 : (wr.alloc (.cells #[.int .u8 p0, .int .u8 p1, .int .u8 p2, .int .u8 p3] 72)).cell? ⟨wr.heap.size, 3, none⟩ = some (.int .u8 p3) := by simp
          have hgW : (wr.alloc (.cells #[.int .u8 p0, .int .u8 p1, .int .u8 p2, .int .u8 p3] 72)).heap[w.heap.size]? = some (.cells (Iv .u32 L) 60) := by rw [heap_alloc_old _ _ hne]; exact hgj
          have hgT : (wr.alloc (.cells #[.int .u8 p0, .int .u8 p1, .int .u8 p2, .int .u8 p3] 72)).heap[w.heap.size + 1]? = some (.cells (Iv .u32 (List.replicate 16 0)) 60) := by rw [heap_alloc_old _ _ hsz]; exact hT
          have hbW : Below w.heap.size w (wr.alloc (.cells #[.int .u8 p0, .int .u8 p1, .int .u8 p2, .int .u8 p3] 72)) := hbelj.alloc hbelj.size _
          clear r0 r1 r2 r3 f0 f1 f2 f3 hgj hg1j hbelj hT c0 c1 c2 c3
          generalize wr.alloc (.cells #[.int .u8 p0, .int .u8 p1, .int .u8 p2, .int .u8 p3] 72) = W0 at *
          generalize wr.heap.size = pb at *
          have r0 : W0.cell? ⟨w.heap.size, p0, none⟩ = some (.int .u32 x0) := by rw [cell_of_row _ _ _ _ _ _ hgW]; exact e0.out
          have r1 : W0.cell? ⟨w.heap.size, p1, none⟩ = some (.int .u32 x1) := by rw [cell_of_row _ _ _ _ _ _ hgW]; exact e1.out
          have r2 : W0.cell? ⟨w.heap.size, p2, none⟩ = some (.int .u32 x2) := by rw [cell_of_row _ _ _ _ _ _ hgW]; exact e2.out
          have r3 : W0.cell? ⟨w.heap.size, p3, none⟩ = some (.int .u32 x3) := by rw [cell_of_row _ _ _ _ _ _ hgW]; exact e3.out
          have f0 : W0.frozen? ⟨w.heap.size, p0, none⟩ = false := frozen_of_row _ _ _ _ _ hgW
          have f1 : W0.frozen? ⟨w.heap.size, p1, none⟩ = false := frozen_of_row _ _ _ _ _ hgW
          have f2 : W0.frozen? ⟨w.heap.size, p2, none⟩ = false := frozen_of_row _ _ _ _ _ hgW
          have f3 : W0.frozen? ⟨w.heap.size, p3, none⟩ = false := frozen_of_row _ _ _ _ _ hgW
          have S0 : Hid (∃ cs, W0.drew = W0.drew.setRow w.heap.size cs) := ⟨_, (setRow_self W0.drew w.heap.size (Iv .u32 L) 60 (0, 0) hgW).symm⟩
          have pq0 : ∀ cs, (W0.drew.setRow w.heap.size cs).cell? ⟨pb, 0, none⟩ = some (.int .u8 p0) := fun cs => by rw [cell_setRow_far _ _ _ _ (by show pb ≠ _; omega)]; exact pc0
          have pq1 : ∀ cs, (W0.drew.setRow w.heap.size cs).cell? ⟨pb, 1, none⟩ = some (.int .u8 p1) := fun cs => by rw [cell_setRow_far _ _ _ _ (by show pb ≠ _; omega)]; exact pc1
          have pq2 : ∀ cs, (W0.drew.setRow w.heap.size cs).cell? ⟨pb, 2, none⟩ = some (.int .u8 p2) := fun cs => by rw [cell_setRow_far _ _ _ _ (by show pb ≠ _; omega)]; exact pc2
          have pq3 : ∀ cs, (W0.drew.setRow w.heap.size cs).cell? ⟨pb, 3, none⟩ = some (.int .u8 p3) := fun cs => by rw [cell_setRow_far _ _ _ _ (by show pb ≠ _; omega)]; exact pc3
          refine wp_region_late 31 (fun w' => ∃ cs, w' = W0.drew.setRow w.heap.size cs)
            [(.held, [0, 1, 2, 3, 4, 5, 6, 7]), (.exact, [8, 9, 10, 11, 12, 13, 14, 15, 16, 17, 18, 19, 20, 21, 22, 23]), (.only, [24]), (.held, [25, 26, 27, 28, 29, 30]), (.tail, [31]), (.held, [32]), (.tail, [33]), (.held, [34]), (.tail, [35]), (.held, [36]), (.tail, [37])] mixedC (by kernel_rfl)
            S0.out ?_
          simp only [wpRuns, opsAt_cons, opsAt_nil, nthOp_zero, nthOp_succ, List.cons_append, List.nil_append]
          repeat (go_big_quiet_step (fail))
          refine wpQuiet_nil ?_
          repeat (go_big_quiet_step (fail))
          refine wpQuiet_nil ?_
          go_wp2_with fail
          refine (quarter_any _ _ _ _ _ w0 w1 w2 w3).mono ?_
          rintro e W1 ⟨rfl, rfl⟩
          go_wp2_with fail
          refine ⟨rfl, ?_⟩
          repeat (go_big_quiet_step (fail))
          refine wpQuiet_nil ?_
          go_wp2_with fail
          refine ⟨late_step S0.out, ?_⟩
          repeat (go_big_quiet_step (fail))
          refine wpQuiet_nil ?_
          go_wp2_with fail
          refine ⟨late_step (late_step S0.out), ?_⟩
          repeat (go_big_quiet_step (fail))
          refine wpQuiet_nil ?_
          go_wp2_with fail
          refine ⟨late_step (late_step (late_step S0.out)), ?_⟩
          repeat (go_big_quiet_step (fail))
          refine wpQuiet_nil ?_
          go_wp2_with fail
          refine ⟨late_step (late_step (late_step (late_step S0.out))), calm_normal ?_⟩
          go_wp2
          go_roundw
          case rel =>
            have hw1 := setCell_eq_setRow W0 w.heap.size p0 (Iv .u32 L) 60 (0, 0) (.int .u32 (qA x0 x1 x2 x3)) hgW
            refine ⟨j + 1, by omega, by go_num, ?_, ?_, ?_⟩
            · rw [HL.out, HM.out, hw1, setCell_setRow, setCell_setRow, setCell_setRow, Iv_set, Iv_set, Iv_set, Iv_set]
              exact setRow_heap _ _ _ _ _ _ hgW
            · rw [hw1, setCell_setRow, setCell_setRow, setCell_setRow]
              exact (setRow_far _ _ _ _ (by omega)).trans hgT
            · rw [hw1, setCell_setRow, setCell_setRow, setCell_setRow]
              exact below_drews (below_setRow hbW _ (Nat.le_refl _) _) 1
          case measure => simp [intOf]; omega
        · obtain rfl : j = 8 := by omega
          go_wp2
          go_roundw
          case rel => exact ⟨k + 1, by omega, by go_num, hgj, hg1j, hbelj⟩
          case measure => simp [intOf]; omega
    · obtain rfl : k = 10 := by omega
      have hL : (roundsN l 10).length = 16 := by rw [roundsN_length, hl]
      go_wp2_with (first | refine wpList_load_row rfl 60 _ rfl _ rfl _ _ _ _ hg Tryd.underlying60 rfl (by rw [Iv_size, hL]; exact infoW16) ?_ | refine wpList_store_row rfl 60 _ _ rfl _ (Iv .u32 (roundsN l 10)) rfl rfl _ _ hg1 (by rw [Iv_size, hL]; exact infoW16) (by simp [Iv_size, hL]) (Iv_one _ _) ?_)
      refine wpRet (cs := Iv .u32 (roundsN l 10)) Tryd.results41 ?_ (setRow_heap _ _ _ _ _ _ hg1) Tryd.underlying60 (by rw [Iv_size, hL]; exact infoW16) ?_
      · rfl
      · exact ⟨rfl, below_setRow hbel _ (by omega) _⟩
end Go.Proofs.YtlbnmiinokkkgaaDoor
namespace Go.Proofs.YtlbnmiinokkkgaaDoor
open Go.RowKit
set_option linter.unusedVariables false
theorem mixed8 : Tryd.prog.follows .mixedOrders = true := by kernel_rfl

theorem tail0 (a : Option Addr) (cap : Nat) (w : World) : Calls Tryd.prog 71 #[.slice a 0 cap] w fun e w' => e = .returned (.int .u32 0) ∧ w' = w := by
  go_enter Tryd.func71, Tryd.ntmps71
  go_wp2
  go_ret
  exact ⟨rfl, rfl⟩
theorem tail1 (b o cap : Nat) (z0 : Int) (w : World) (h0 : 0 ≤ z0) (g0 : z0 ≤ 255) (c0 : w.cell? ⟨b, o, none⟩ = some (.int .u8 z0)) :
    Calls Tryd.prog 71 #[.slice (some ⟨b, o, none⟩) 1 cap] w fun e w' => e = .returned (.int .u32 z0) ∧ w' = w := by
  have h1 : bits .or .u32 0 z0 = z0 := by rw [or32 0 0 z0 (by decide) h0 (by omega) (by omega) (by omega) (by decide)]; omega
  go_enter Tryd.func71, Tryd.ntmps71
  go_wp2
  go_ret
  exact ⟨rfl, rfl⟩
theorem tail2 (b o cap : Nat) (z0 z1 : Int) (w : World) (h0 : 0 ≤ z0) (g0 : z0 ≤ 255) (h1 : 0 ≤ z1) (g1 : z1 ≤ 255) (c0 : w.cell? ⟨b, o, none⟩ = some (.int .u8 z0)) (c1 : w.cell? ⟨b, o + 1, none⟩ = some (.int .u8 z1)) :
    Calls Tryd.prog 71 #[.slice (some ⟨b, o, none⟩) 2 cap] w fun e w' => e = .returned (.int .u32 (z0 + 256 * z1)) ∧ w' = w := by
  have e1 : bits .or .u32 0 (z1 * 256) = z1 * 256 := by rw [or32 0 0 _ (by decide) (by omega) (by omega) (by omega) (by omega) (by decide)]; omega
  have e0 : bits .or .u32 (z1 * 256) z0 = z0 + 256 * z1 := by rw [or32h 8 (z1 * 256) z0 (by decide) (by omega) (by omega) (by omega) (by omega) (by omega)]; omega
  go_enter Tryd.func71, Tryd.ntmps71
  go_wp2
  go_ret
  exact ⟨rfl, rfl⟩
theorem tail3 (b o cap : Nat) (z0 z1 z2 : Int) (w : World) (h0 : 0 ≤ z0) (g0 : z0 ≤ 255) (h1 : 0 ≤ z1) (g1 : z1 ≤ 255) (h2 : 0 ≤ z2) (g2 : z2 ≤ 255) (c0 : w.cell? ⟨b, o, none⟩ = some (.int .u8 z0)) (c1 : w.cell? ⟨b, o + 1, none⟩ = some (.int .u8 z1)) (c2 : w.cell? ⟨b, o + 2, none⟩ = some (.int .u8 z2)) :
    Calls Tryd.prog 71 #[.slice (some ⟨b, o, none⟩) 3 cap] w fun e w' => e = .returned (.int .u32 (z0 + 256 * z1 + 65536 * z2)) ∧ w' = w := by
  have e2 : bits .or .u32 0 (z2 * 65536) = z2 * 65536 := by rw [or32 0 0 _ (by decide) (by omega) (by omega) (by omega) (by omega) (by decide)]; omega
  have e1 : bits .or .u32 (z2 * 65536) (z1 * 256) = z2 * 65536 + z1 * 256 := or32h 16 (z2 * 65536) (z1 * 256) (by decide) (by omega) (by omega) (by omega) (by omega) (by omega)
  have e0 : bits .or .u32 (z2 * 65536 + z1 * 256) z0 = z0 + 256 * z1 + 65536 * z2 := by rw [or32h 8 (z2 * 65536 + z1 * 256) z0 (by decide) (by omega) (by omega) (by omega) (by omega) (by omega)]; omega
  go_enter Tryd.func71, Tryd.ntmps71
  go_wp2
  go_ret
  exact ⟨rfl, rfl⟩

/-- 'tailWord(b)' at fewer than four bytes. -/
theorem tail_any (ys : List Int) (m : Nat) (hm : ys.length = m) (hy : m ≤ 3) (hz : Bytes ys) (b o cap : Nat) (w : World) (hc : ∀ i, i < m → w.cell? ⟨b, o + i, none⟩ = some (.int .u8 (ys.getD i 0))) :
    Calls Tryd.prog 71 #[.slice (some ⟨b, o, none⟩) m cap] w fun e w' => e = .returned (.int .u32 (wordAt ys 0)) ∧ w' = w := by
  have b0 := hz 0
  have b1 := hz 1
  have b2 := hz 2
  match ys, hm with
  | [], hm => subst hm; exact tail0 _ _ _
  | [z0], hm =>
    subst hm
    have := tail1 b o cap z0 w b0.1 b0.2 (hc 0 (by simp))
    simpa [wordAt] using this
  | [z0, z1], hm =>
    subst hm
    have := tail2 b o cap z0 z1 w b0.1 b0.2 b1.1 b1.2 (hc 0 (by simp)) (hc 1 (by simp))
    simpa [wordAt] using this
  | [z0, z1, z2], hm =>
    subst hm
    have := tail3 b o cap z0 z1 z2 w b0.1 b0.2 b1.1 b1.2 b2.1 b2.2 (hc 0 (by simp)) (hc 1 (by simp)) (hc 2 (by simp))
    simpa [wordAt] using this
  | _ :: _ :: _ :: _ :: _, hm => simp at hm; omega

/-- 'loadWords(out, b)': out lies in a row that is not b's; b has at most four bytes for each word of out. -/
theorem loadWords_any (g off n cap : Nat) (te : TypeId) (l : List Int) (b o cap2 : Nat) (zs : List Int) (w : World)
    (hg : w.heap[g]? = some (.cells (Iv .u32 l) te)) (hl : off + n ≤ l.length) (hn : n ≤ 1000) (hbg : b ≠ g) (hz : Bytes zs) (hzn : zs.length ≤ 4 * n) (hpos : 0 < zs.length)
    (hc : ∀ i, i < zs.length → w.cell? ⟨b, o + i, none⟩ = some (.int .u8 (zs.getD i 0))) (hcap : zs.length ≤ cap2) (hcap2 : cap2 ≤ 9223372036854775807) :
    Calls Tryd.prog 56 #[.slice (some ⟨g, off, none⟩) n cap, .slice (some ⟨b, o, none⟩) zs.length cap2] w fun e w' =>
      e = .returned (.tuple #[]) ∧ ∃ d, w' = (w.setRow g (Iv .u32 (putFrom l off (wordAt zs) (min (zs.length / 4 + 1) n)))).drewN d := by
  have hwhole : zs.length / 4 ≤ n := by omega
  go_enter Tryd.func56, Tryd.ntmps56
  go_wp2
  go_loopw [10] (fun i wr => ∃ k d : Nat, k ≤ zs.length / 4 ∧ i = .int .i64 k ∧ wr = (w.setRow g (Iv .u32 (putFrom l off (wordAt zs) k))).drewN d) (fun i _ => zs.length / 4 - (intOf i).toNat)
  case atStart =>
    refine ⟨0, 0, Nat.zero_le _, rfl, ?_⟩
    rw [putFrom_zero, setRow_self w g _ _ _ hg]
    rfl
  case round =>
    obtain ⟨k, d, hk, rfl, rfl⟩ := hrel
    by_cases hlt : k < zs.length / 4
    · have d0 := hc (4 * k) (by omega)
      have d1 := hc (4 * k + 1) (by omega)
      have d2 := hc (4 * k + 2) (by omega)
      have d3 := hc (4 * k + 3) (by omega)
      have hz0 := hz (4 * k)
      have hz1 := hz (4 * k + 1)
      have hz2 := hz (4 * k + 2)
      have hz3 := hz (4 * k + 3)
      have hword : wordAt zs k = _ := rfl
      have HW : Hid (wordAt zs k = zs.getD (4 * k) 0 + 256 * zs.getD (4 * k + 1) 0 + 65536 * zs.getD (4 * k + 2) 0 + 16777216 * zs.getD (4 * k + 3) 0) := rfl
      clear hword
      generalize zs.getD (4 * k) 0 = z0 at *
      generalize zs.getD (4 * k + 1) 0 = z1 at *
      generalize zs.getD (4 * k + 2) 0 = z2 at *
      generalize zs.getD (4 * k + 3) 0 = z3 at *
      have c0 : (w.setRow g (Iv .u32 (putFrom l off (wordAt zs) k))).cell? ⟨b, o + 4 * k, none⟩ = some (.int .u8 z0) := by rw [cell_setRow_far _ _ _ _ hbg]; exact d0
      have c1 : (w.setRow g (Iv .u32 (putFrom l off (wordAt zs) k))).cell? ⟨b, o + (4 * k + 1), none⟩ = some (.int .u8 z1) := by rw [cell_setRow_far _ _ _ _ hbg]; exact d1
      have c2 : (w.setRow g (Iv .u32 (putFrom l off (wordAt zs) k))).cell? ⟨b, o + (4 * k + 2), none⟩ = some (.int .u8 z2) := by rw [cell_setRow_far _ _ _ _ hbg]; exact d2
      have c3 : (w.setRow g (Iv .u32 (putFrom l off (wordAt zs) k))).cell? ⟨b, o + (4 * k + 3), none⟩ = some (.int .u8 z3) := by rw [cell_setRow_far _ _ _ _ hbg]; exact d3
      have hw := word_num z0 z1 z2 z3 hz0.1 hz0.2 hz1.1 hz1.2 hz2.1 hz2.2 hz3.1 hz3.2
      rw [← HW.out] at hw
      have HW2 : Hid (_ = _) := hw
      obtain ⟨x0, y0⟩ := hz0
      obtain ⟨x1, y1⟩ := hz1
      obtain ⟨x2, y2⟩ := hz2
      obtain ⟨x3, y3⟩ := hz3
      have ho : ∃ v, (w.setRow g (Iv .u32 (putFrom l off (wordAt zs) k))).cell? ⟨g, off + k, none⟩ = some v := by
        rw [cell_setRow_same _ _ _ _ _ _ _ hg]
        exact Iv_some _ _ _ (by rw [putFrom_length _ _ _ _ (by omega)]; omega)
      obtain ⟨v, hv⟩ := ho
      have hf : (w.setRow g (Iv .u32 (putFrom l off (wordAt zs) k))).frozen? ⟨g, off + k, none⟩ = false := by rw [frozen_setRow]; exact frozen_of_row _ _ _ _ _ hg
      clear hw d0 d1 d2 d3 hc hz
      go_wp2
      refine wp_region_head 36 mixed8 (by kernel_rfl) ?_
      simp only [List.take_succ_cons, List.take_zero, List.drop_succ_cons, List.drop_zero]
      repeat (go_big_quiet_step (fail))
      refine wpQuiet_nil ?_
      go_wp2
      go_roundw
      case rel => exact ⟨k + 1, d + 1, by omega, by go_num, by rw [HW2.out, setCell_drewN, setCell_setRow, Iv_set, putFrom_step _ _ _ _ (by omega)]⟩
      case measure => simp [intOf]; omega
    · obtain rfl : k = zs.length / 4 := by omega
      have hmin : min (zs.length / 4 + 1) n = if zs.length / 4 < n then zs.length / 4 + 1 else zs.length / 4 := by split <;> omega
      have HM : Hid (_ = _) := hmin
      clear hmin
      by_cases hm : zs.length / 4 < n
      · have ho : ∃ v, (w.setRow g (Iv .u32 (putFrom l off (wordAt zs) (zs.length / 4)))).cell? ⟨g, off + zs.length / 4, none⟩ = some v := by
          rw [cell_setRow_same _ _ _ _ _ _ _ hg]
          exact Iv_some _ _ _ (by rw [putFrom_length _ _ _ _ (by omega)]; omega)
        obtain ⟨v, hv⟩ := ho
        have hf : (w.setRow g (Iv .u32 (putFrom l off (wordAt zs) (zs.length / 4)))).frozen? ⟨g, off + zs.length / 4, none⟩ = false := by rw [frozen_setRow]; exact frozen_of_row _ _ _ _ _ hg
        have hcd : ∀ i, i < zs.length - 4 * (zs.length / 4) → (w.setRow g (Iv .u32 (putFrom l off (wordAt zs) (zs.length / 4)))).cell? ⟨b, o + 4 * (zs.length / 4) + i, none⟩ = some (.int .u8 ((zs.drop (4 * (zs.length / 4))).getD i 0)) := by
          intro i hi
          rw [cell_setRow_far _ _ _ _ hbg]
          have := hc (4 * (zs.length / 4) + i) (by omega)
          rw [Nat.add_assoc, this]
          simp only [List.getD_eq_getElem?_getD, List.getElem?_drop]
        have HC : Hid (∀ i, _) := hcd
        have HZ : Hid (Bytes _) := bytes_drop hz (4 * (zs.length / 4))
        clear hc hz hcd
        go_wp2_with fail
        · refine (tail_any [] (zs.length - 4 * (zs.length / 4)) (by simp <;> omega) (by omega) (by intro i; simp) b o 0 _ (by intro i hi; omega)).mono ?_
          rintro e w1 ⟨rfl, rfl⟩
          have hnil : zs.drop (4 * (zs.length / 4)) = [] := List.drop_eq_nil_of_le (by omega)
          have hw0 : wordAt [] 0 = wordAt zs (zs.length / 4) := by rw [← wordAt_drop zs, hnil]
          rw [hw0]
          clear hw0 hnil
          go_wp2
          go_end0
          refine ⟨rfl, d, ?_⟩
          rw [HM.out, if_pos hm, setCell_drewN, setCell_setRow, Iv_set, putFrom_step _ _ _ _ (by omega)]
        · refine (tail_any (zs.drop (4 * (zs.length / 4))) _ (by simp) (by omega) HZ.out b (o + 4 * (zs.length / 4)) _ _ (by exact HC.out)).mono ?_
          rintro e w1 ⟨rfl, rfl⟩
          rw [wordAt_drop]
          go_wp2
          go_end0
          refine ⟨rfl, d, ?_⟩
          rw [HM.out, if_pos hm, setCell_drewN, setCell_setRow, Iv_set, putFrom_step _ _ _ _ (by omega)]
      · go_wp2
        go_end0
        exact ⟨rfl, d, by rw [HM.out, if_neg hm]⟩
theorem loadWords_at (m : Nat) (g off n cap : Nat) (te : TypeId) (l : List Int) (b o cap2 : Nat) (zs : List Int) (w : World) (hm : zs.length = m)
    (hg : w.heap[g]? = some (.cells (Iv .u32 l) te)) (hl : off + n ≤ l.length) (hn : n ≤ 1000) (hbg : b ≠ g) (hz : Bytes zs) (hzn : m ≤ 4 * n) (hpos : 0 < m)
    (hc : ∀ i, i < m → w.cell? ⟨b, o + i, none⟩ = some (.int .u8 (zs.getD i 0))) (hcap : m ≤ cap2) (hcap2 : cap2 ≤ 9223372036854775807) :
    Calls Tryd.prog 56 #[.slice (some ⟨g, off, none⟩) n cap, .slice (some ⟨b, o, none⟩) m cap2] w fun e w' =>
      e = .returned (.tuple #[]) ∧ ∃ d, w' = (w.setRow g (Iv .u32 (putFrom l off (wordAt zs) (min (m / 4 + 1) n)))).drewN d := by
  subst hm
  exact loadWords_any g off n cap te l b o cap2 zs w hg hl hn hbg hz hzn hpos hc hcap hcap2
end Go.Proofs.YtlbnmiinokkkgaaDoor
namespace Go.Proofs.YtlbnmiinokkkgaaDoor
open Go.RowKit
set_option linter.unusedVariables false

/-- 'putLittle(out, value)': out lies in a row of bytes. -/
theorem putLittle32_any (g off n cap : Nat) (te : TypeId) (l : List Int) (x : Int) (w : World)
    (hg : w.heap[g]? = some (.cells (Iv .u8 l) te)) (hl : off + n ≤ l.length) (hn : n ≤ 4) (hx : 0 ≤ x) :
    Calls Tryd.prog 43 #[.slice (some ⟨g, off, none⟩) n cap, .int .u32 x] w fun e w' =>
      e = .returned (.tuple #[]) ∧ w' = w.setRow g (Iv .u8 (putFrom l off (fun i => x / 256 ^ i % 256) n)) := by
  go_enter Tryd.func43, Tryd.ntmps43
  go_wp2
  go_loopw [7] (fun i wr => ∃ k : Nat, k ≤ n ∧ i = .int .i64 k ∧ wr = w.setRow g (Iv .u8 (putFrom l off (fun i => x / 256 ^ i % 256) k))) (fun i _ => n - (intOf i).toNat)
  case atStart =>
    refine ⟨0, Nat.zero_le _, rfl, ?_⟩
    rw [putFrom_zero, setRow_self w g _ _ _ hg]
  case round =>
    obtain ⟨k, hk, rfl, rfl⟩ := hrel
    by_cases hlt : k < n
    · have ho : ∃ v, (w.setRow g (Iv .u8 (putFrom l off (fun i => x / 256 ^ i % 256) k))).cell? ⟨g, off + k, none⟩ = some v := by
        rw [cell_setRow_same _ _ _ _ _ _ _ hg]
        exact Iv_some _ _ _ (by rw [putFrom_length _ _ _ _ (by omega)]; omega)
      obtain ⟨v, hv⟩ := ho
      have hf : (w.setRow g (Iv .u8 (putFrom l off (fun i => x / 256 ^ i % 256) k))).frozen? ⟨g, off + k, none⟩ = false := by rw [frozen_setRow]; exact frozen_of_row _ _ _ _ _ hg
      go_wp2
      go_roundw
      case rel => exact ⟨k + 1, by omega, by go_num, by rw [setCell_setRow, Iv_set, pow8, putFrom_step l off (fun i => x / 256 ^ i % 256) k (by omega)]⟩
      case measure => simp [intOf]; omega
    · obtain rfl : k = n := by omega
      go_wp2
      go_end0
      exact ⟨rfl, rfl⟩

end Go.Proofs.YtlbnmiinokkkgaaDoor
namespace Go.Proofs.YtlbnmiinokkkgaaDoor
open Go.RowKit
set_option linter.unusedVariables false

set_option maxHeartbeats 1000000 in
theorem chaStart_any (key rest : List Int) (w : World) (hk : key.length = 32) (hr : rest.length = 16) (hkb : Bytes key) (hrb : Bytes rest) :
    Calls Tryd.prog 42 #[.agg (Iv .u8 key), .agg (Iv .u8 rest)] w fun e w' => e = .returned (.agg (Iv .u32 (startL key rest))) ∧ Below w.heap.size w w' := by
  go_enter Tryd.func42, Tryd.ntmps42
  go_wp2_with fail
  obtain ⟨W, hW, h0, h1, h2, h3, hs, hb⟩ := alloc4 w (.cells (Iv .u8 key) 22) (.cells (Iv .u8 rest) 45) (.cells (Iv .u32 (List.replicate 16 0)) 60) (.cells (Iv .u32 chaC) 60)
  have hW' := hW
  simp only [Iv, chaC, List.replicate, List.map_cons, List.map_nil] at hW'
  simp only [Iv, hW']
  clear hW hW'
  have H0 : RowAt W w.heap.size .u8 key 22 := h0
  have H1 : RowAt W (w.heap.size + 1) .u8 rest 45 := h1
  have H2 : RowAt W (w.heap.size + 1 + 1) .u32 (List.replicate 16 0) 60 := h2
  have H3 : RowAt W (w.heap.size + 1 + 1 + 1) .u32 chaC 60 := h3
  clear h0 h1 h2 h3
  refine wp_region_head 2 mixedC (by kernel_rfl) ?_
  simp only [List.take_succ_cons, List.take_zero, List.drop_succ_cons, List.drop_zero]
  repeat (go_big_quiet_step (fail))
  refine wpQuiet_nil ?_
  go_wp2_with fail
  refine (loadWords_at 32 (w.heap.size + 1 + 1 + 1) 4 8 12 60 chaC w.heap.size 0 32 key W.drew hk H3 (by decide) (by decide) (by omega) hkb (by decide) (by decide) (by intro i hi; rw [Nat.zero_add]; exact H0.cell i (by omega)) (by decide) (by decide)).mono ?_
  rintro e w1 ⟨rfl, d, hw1⟩
  have K1 : RowAt w1 (w.heap.size + 1) .u8 rest 45 := by rw [hw1]; exact RowAt.far (w := W.drew) H1 _ _ (by omega) d
  have K2 : RowAt w1 (w.heap.size + 1 + 1) .u32 (List.replicate 16 0) 60 := by rw [hw1]; exact RowAt.far (w := W.drew) H2 _ _ (by omega) d
  have K3 : RowAt w1 (w.heap.size + 1 + 1 + 1) .u32 (putFrom chaC 4 (wordAt key) 8) 60 := by rw [hw1]; exact RowAt.put (w := W.drew) H3 _ d
  have hb1 : Below w.heap.size w w1 := by rw [hw1]; exact below_drews (below_setRow (below_drews hb 1) _ (by omega) _) d
  clear hw1 H0 H1 H2 H3 hb
  go_wp2_with fail
  refine wp_region_head 2 mixedC (by kernel_rfl) ?_
  simp only [List.take_succ_cons, List.take_zero, List.drop_succ_cons, List.drop_zero]
  repeat (go_big_quiet_step (fail))
  refine wpQuiet_nil ?_
  go_wp2_with fail
  refine (loadWords_at 16 (w.heap.size + 1 + 1 + 1) 12 4 4 60 (putFrom chaC 4 (wordAt key) 8) (w.heap.size + 1) 0 16 rest w1.drew hr K3 (by rw [putFrom_length _ _ _ _ (by decide)]; decide) (by decide) (by omega) hrb (by decide) (by decide) (by intro i hi; rw [Nat.zero_add]; exact K1.cell i (by omega)) (by decide) (by decide)).mono ?_
  rintro e w2 ⟨rfl, d2, hw2⟩
  have L2 : RowAt w2 (w.heap.size + 1 + 1) .u32 (List.replicate 16 0) 60 := by rw [hw2]; exact RowAt.far (w := w1.drew) K2 _ _ (by omega) d2
  have L3 : RowAt w2 (w.heap.size + 1 + 1 + 1) .u32 (startL key rest) 60 := by rw [hw2]; exact RowAt.put (w := w1.drew) K3 _ d2
  have hb2 : Below w.heap.size w w2 := by rw [hw2]; exact below_drews (below_setRow (below_drews hb1 1) _ (by omega) _) d2
  clear hw2 K1 K2 K3 hb1
  have hi : (Tryd.prog.info? 60).map (·.size) = some (Iv .u32 (startL key rest)).size := by rw [Iv_size]; exact infoW16
  go_wp2_with (first | refine wpList_load_row rfl 60 _ rfl _ rfl _ _ _ _ L3 Tryd.underlying60 rfl hi ?_ | refine wpList_store_row rfl 60 _ _ rfl _ (Iv .u32 (startL key rest)) rfl rfl _ _ L2 hi (by rw [Iv_size, Iv_size]; rfl) (Iv_one _ _) ?_)
  refine wpRet (cs := Iv .u32 (startL key rest)) Tryd.results42 ?_ (setRow_heap _ _ _ _ _ _ L2) Tryd.underlying60 hi ?_
  · rfl
  · exact ⟨rfl, below_setRow hb2 _ (by omega) _⟩
end Go.Proofs.YtlbnmiinokkkgaaDoor
