import Derived.Test.YtmlhbeljepjdfaaADR
namespace Go.Proofs.Ytmlhbeljepjdfaa
open Go.ChangeShapes Go.WideShapes Go.ChangeAt Go.RowKit
set_option linter.unusedVariables false
set_option maxRecDepth 100000 in
set_option maxHeartbeats 2000000 in
theorem admit_walk_var (v : Bool) (l m : List Int) (p now : Int) (hl : l.length = 12) (hm : m.length = 12) (w : World) (rv : Bool) (rl : List Int) (rp c : Int) (hrl : rl.length = 12)
    (HSP : ∀ W, Calls Try.prog 5 #[.agg (PeerL v l p).toArray, .agg (Iv .u8 m), .int .i64 now] W fun e w' => e = .returned (.tuple #[.agg (PeerL rv rl rp).toArray, .int .i64 c]) ∧ Below W.heap.size W w')
    (HIM : ∀ W, Calls Try.prog 8 #[.agg (PeerL v l p).toArray, .agg (Iv .u8 m), .int .i64 now] W fun e w' => e = .returned (.tuple #[.agg (PeerL rv rl rp).toArray, .int .i64 c]) ∧ Below W.heap.size W w') :
    Calls Try.prog 3 #[.agg (PeerL v l p).toArray, .agg (Iv .u8 m), .int .i64 now] w fun e w' => e = .returned (.bool true) ∧ Below w.heap.size w w' := by
  have hzv := zeroPeer
  have hik : Hid ((Try.prog.info? 25).map (·.size) = some (PeerL rv rl rp).toArray.size) := infoPr rv rl rp hrl
  have hzs : Hid ((PeerZ false).toArray.size = (PeerL rv rl rp).toArray.size) := by show _ = _; rw [List.size_toArray, List.size_toArray, PeerL_length _ _ _ hrl]; rfl
  have hiL : Hid ((Try.prog.info? 24).map (·.size) = some (PeerL v l p).toArray.size) := by show _ = _; rw [List.size_toArray, PeerL_length _ _ _ hl]; exact infoPeerL
  have hiN : Hid ((Try.prog.info? 22).map (·.size) = some (Iv .u8 m).size) := by show _ = _; rw [Iv_size, hm]; exact infoA12
  have KSP : Hid _ := HSP
  have KIM : Hid _ := HIM
  clear HSP HIM
  go_enter Try.func3, Try.ntmps3
  go_wp2_with fail
  obtain ⟨W, hW, g0, g1, hs, hBw0⟩ := alloc2 w (.cells (PeerL v l p).toArray 24) (.cells (Iv .u8 m) 22)
  rw [hW]
  clear hW
  have hBW : Below W.heap.size W W := Below.refl _ _
  refine wp_region_inv (ops := ad1ops) (ad1Inv v l m p now rv rl rp c w.heap.size W) (by kernel_rfl) ?_ ?_ ?_
  · exact ⟨undef, undef, undef, undef, undef, undef, undef, undef, undef, undef, undef, rfl, { size := rfl, bel := below_drews hBW 1, p0 := fun h => (by cases h), p1 := fun h => (by cases h), p2 := fun h => (by cases h), p3 := fun h => (by cases h), p4 := fun h => (by cases h), p5 := fun h => (by cases h), p6 := fun h => (by cases h), p7 := fun h => (by cases h), p8 := fun h => (by cases h), p11 := fun h => (by cases h), p9 := fun h => (by cases h), p10 := fun h => (by cases h) }⟩
  · rintro listed a w1 ⟨y7, y8, y11, y12, y13, y14, y15, y16, y17, y18, y19, rfl, h⟩ hready
    obtain ⟨l0, l1, l2, l3, l4, l5, l6, l7, l8, l9, l10, l11⟩ := ad1all h.size hready
    obtain rfl := h.p0 l0
    obtain rfl := h.p1 l1
    obtain rfl := h.p2 l2
    obtain rfl := h.p3 l3
    obtain rfl := h.p4 l4
    obtain rfl := h.p5 l5
    obtain rfl := h.p6 l6
    obtain rfl := h.p7 l7
    obtain rfl := h.p8 l8
    obtain rfl := h.p11 l11
    obtain ⟨g, rfl, hg, hrow⟩ := h.p9 l9
    rw [l10, if_pos rfl] at hrow
    have hbel := h.bel
    clear h hready l0 l1 l2 l3 l4 l5 l6 l7 l8 l9 l10 l11
    unfold ad1fr
    obtain ⟨V, hV⟩ : ∃ x, x = w1 := ⟨_, rfl⟩
    rw [← hV] at hrow hbel ⊢
    clear hV
    obtain ⟨g7, hg7⟩ : ∃ x, x = g := ⟨_, rfl⟩
    rw [← hg7] at hrow hg ⊢
    clear hg7 g
    have HR7 := hrow
    have hlt7 := (Array.getElem?_eq_some_iff.1 hrow).1
    replace g0 := (hbel.block w.heap.size (by omega)).trans g0
    replace g1 := (hbel.block (w.heap.size + 1) (by omega)).trans g1
    replace hBw0 : Below w.heap.size w V := hBw0.trans (hbel.mono (by omega))
    have hsV := hbel.size
    clear hrow hbel hBW
    have hBW : Below V.heap.size V V := Below.refl _ _
    have HG0 : Hid _ := g0
    have HG1 : Hid _ := g1
    have HH7 : Hid _ := HR7
    clear g0 g1 HR7
    go_wp2_with fail
    have g0 := HG0.out
    have g1 := HG1.out
    have HR7 := HH7.out
    clear HG0 HG1 HH7
    refine wp_region_inv (ops := ad2ops) (ad2Inv v l m p now rv rl rp c w.heap.size g7 V) (by kernel_rfl) ?_ ?_ ?_
    · exact ⟨undef, undef, undef, undef, undef, undef, undef, undef, undef, undef, undef, rfl, { size := rfl, bel := below_drews hBW 1, p0 := fun h => (by cases h), p1 := fun h => (by cases h), p2 := fun h => (by cases h), p3 := fun h => (by cases h), p4 := fun h => (by cases h), p5 := fun h => (by cases h), p6 := fun h => (by cases h), p7 := fun h => (by cases h), p8 := fun h => (by cases h), p11 := fun h => (by cases h), p9 := fun h => (by cases h), p10 := fun h => (by cases h) }⟩
    · rintro listed a w1 ⟨y9, y10, y20, y21, y22, y23, y24, y25, y26, y27, y28, rfl, h⟩ hready
      obtain ⟨l0, l1, l2, l3, l4, l5, l6, l7, l8, l9, l10, l11⟩ := ad2all h.size hready
      obtain rfl := h.p0 l0
      obtain rfl := h.p1 l1
      obtain rfl := h.p2 l2
      obtain rfl := h.p3 l3
      obtain rfl := h.p4 l4
      obtain rfl := h.p5 l5
      obtain rfl := h.p6 l6
      obtain rfl := h.p7 l7
      obtain rfl := h.p8 l8
      obtain rfl := h.p11 l11
      obtain ⟨g, rfl, hg, hrow⟩ := h.p9 l9
      rw [l10, if_pos rfl] at hrow
      have hbel := h.bel
      clear h hready l0 l1 l2 l3 l4 l5 l6 l7 l8 l9 l10 l11
      unfold ad2fr
      obtain ⟨w2, hw2⟩ : ∃ x, x = w1 := ⟨_, rfl⟩
      rw [← hw2] at hrow hbel ⊢
      clear hw2
      replace HR7 := (hbel.block g7 hlt7).trans HR7
      have hBw2 : Below w.heap.size w w2 := hBw0.trans (hbel.mono (by omega))
      have G1 : Hid _ := hrow
      have G2 : Hid _ := HR7
      clear hrow HR7 hbel
      go_wp2_with (with_reducible refine wpList_id ?_; first
        | refine wpList_load_row rfl 25 _ rfl g rfl _ (PeerL rv rl rp).toArray _ _ G1.out Try.underlying25 rfl hik.out ?_
        | refine wpList_load_row rfl 25 _ rfl g7 rfl _ (PeerL rv rl rp).toArray _ _ G2.out Try.underlying25 rfl hik.out ?_)
      refine (eqPeer_yes rv rl rp hrl _).mono ?_
      rintro e w7 ⟨rfl, hb7⟩
      go_wp2
      go_ret
      exact ⟨rfl, hBw2.trans (hb7.mono hBw2.size)⟩
    · rintro listed i a w1 ⟨y9, y10, y20, y21, y22, y23, y24, y25, y26, y27, y28, rfl, h⟩ hi
      match i, hi with
      | 0, hi => exact wpOp_of_list rfl (ad2s0 h hi g0 (by omega) hiL.out)
      | 1, hi => exact wpOp_of_list rfl (ad2s1 h hi (fun w' hw' => toPeer_any v l p hl w'))
      | 2, hi => exact wpOp_of_list rfl (ad2s2 h hi g1 (by omega) hiN.out)
      | 3, hi => exact wpOp_of_list rfl (ad2s3 h hi (fun w' hw' => toByteA12_any m hm w'))
      | 4, hi => exact wpOp_of_list rfl (ad2s4 h hi)
      | 5, hi => exact wpOp_of_list rfl (ad2s5 h hi (fun w' hw' => KIM.out w'))
      | 6, hi => exact wpOp_of_list rfl (ad2s6 h hi)
      | 7, hi => exact wpOp_of_list rfl (ad2s7 h hi)
      | 8, hi => exact wpOp_of_list rfl (ad2s8 h hi)
      | 9, hi => exact wpOp_of_list rfl (ad2s9 h hi hzv)
      | 10, hi => exact wpOp_of_list rfl (ad2s10 h hi hik.out hzs.out)
      | 11, hi => exact wpOp_of_list rfl (ad2s11 h hi)
      | n + 12, hi =>
        obtain ⟨_, o, ho, _⟩ := mem_ready.1 hi
        exact absurd (Array.getElem?_eq_some_iff.1 ho).1 (by show ¬ n + 12 < 12; omega)
  · rintro listed i a w1 ⟨y7, y8, y11, y12, y13, y14, y15, y16, y17, y18, y19, rfl, h⟩ hi
    match i, hi with
    | 0, hi => exact wpOp_of_list rfl (ad1s0 h hi g0 (by omega) hiL.out)
    | 1, hi => exact wpOp_of_list rfl (ad1s1 h hi (fun w' hw' => toPeer_any v l p hl w'))
    | 2, hi => exact wpOp_of_list rfl (ad1s2 h hi g1 (by omega) hiN.out)
    | 3, hi => exact wpOp_of_list rfl (ad1s3 h hi (fun w' hw' => toByteA12_any m hm w'))
    | 4, hi => exact wpOp_of_list rfl (ad1s4 h hi)
    | 5, hi => exact wpOp_of_list rfl (ad1s5 h hi (fun w' hw' => KSP.out w'))
    | 6, hi => exact wpOp_of_list rfl (ad1s6 h hi)
    | 7, hi => exact wpOp_of_list rfl (ad1s7 h hi)
    | 8, hi => exact wpOp_of_list rfl (ad1s8 h hi)
    | 9, hi => exact wpOp_of_list rfl (ad1s9 h hi hzv)
    | 10, hi => exact wpOp_of_list rfl (ad1s10 h hi hik.out hzs.out)
    | 11, hi => exact wpOp_of_list rfl (ad1s11 h hi)
    | n + 12, hi =>
      obtain ⟨_, o, ho, _⟩ := mem_ready.1 hi
      exact absurd (Array.getElem?_eq_some_iff.1 ho).1 (by show ¬ n + 12 < 12; omega)
theorem admit_walk (v : Bool) (l m : List Int) (p now : Int) (hl : l.length = 12) (hm : m.length = 12) (hlb : Bytes l) (hmb : Bytes m)
    (hp0 : -9223372036854775808 ≤ p) (hp1 : p ≤ 9223372036854775807) (hn0 : -9223372036854775808 ≤ now) (hn1 : now ≤ 9223372036854775807) (w : World) :
    Calls Try.prog 3 #[.agg (PeerL v l p).toArray, .agg (Iv .u8 m), .int .i64 now] w fun e w' => e = .returned (.bool true) ∧ Below w.heap.size w w' := by
  cases v
  · exact admit_walk_var false l m p now hl hm w true m now 14 hm (fun W => specAdmit_first l m p now hl hm W _ rfl) (fun W => implAdmit_first l m p now hl hm W _ rfl)
  · cases hless : Op.bytesLess (Lib.bytesOf l) (Lib.bytesOf m)
    · exact admit_walk_var true l m p now hl hm w true l p 12 hl (fun W => specAdmit_replay l m p now hl hm hlb hmb hless W _ rfl) (fun W => implAdmit_replay l m p now hl hm hlb hmb hless W _ rfl)
    · by_cases h0 : p < 0
      · exact admit_walk_var true l m p now hl hm w true l p 13 hl (fun W => specAdmit_neg l m p now hl hm hlb hmb hless hp0 hp1 hn0 hn1 h0 W _ rfl) (fun W => implAdmit_neg l m p now hl hm hlb hmb hless hp0 hp1 hn0 hn1 h0 W _ rfl)
      · by_cases h1 : now < p
        · exact admit_walk_var true l m p now hl hm w true l p 13 hl (fun W => specAdmit_late l m p now hl hm hlb hmb hless hp0 hp1 hn0 hn1 (by omega) h1 W _ rfl) (fun W => implAdmit_late l m p now hl hm hlb hmb hless hp0 hp1 hn0 hn1 (by omega) h1 W _ rfl)
        · by_cases h2 : now - p < 50000000
          · exact admit_walk_var true l m p now hl hm w true l p 13 hl (fun W => specAdmit_flood l m p now hl hm hlb hmb hless hp0 hp1 hn0 hn1 (by omega) (by omega) h2 W _ rfl) (fun W => implAdmit_flood l m p now hl hm hlb hmb hless hp0 hp1 hn0 hn1 (by omega) (by omega) h2 W _ rfl)
          · exact admit_walk_var true l m p now hl hm w true m now 14 hm (fun W => specAdmit_ok l m p now hl hm hlb hmb hless hp0 hp1 hn0 hn1 (by omega) (by omega) (by omega) W _ rfl) (fun W => implAdmit_ok l m p now hl hm hlb hmb hless hp0 hp1 hn0 hn1 (by omega) (by omega) (by omega) W _ rfl)
end Go.Proofs.Ytmlhbeljepjdfaa
