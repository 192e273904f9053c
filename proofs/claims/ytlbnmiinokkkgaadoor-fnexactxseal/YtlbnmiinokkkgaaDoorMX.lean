import Derived.Test.YtlbnmiinokkkgaaDoorME
import Derived.Test.YtlbnmiinokkkgaaDoorTo32
import Derived.Test.YtlbnmiinokkkgaaDoorRows
import Derived.Test.YtlbnmiinokkkgaaDoorWire
import Derived.Deep.WholeRow
namespace Go.Proofs.YtlbnmiinokkkgaaDoor
open Go.RowKit
set_option linter.unusedVariables false
def hF (R : List Int) (i : Nat) : Int := nth0 R (i / 4) / 256 ^ (i % 4) % 256
def hG (R : List Int) (i : Nat) : Int := nth0 R (12 + i / 4) / 256 ^ (i % 4) % 256
def hAt (R : List Int) (k k2 i : Nat) : Int := if i < 4 * k then hF R i else if 16 ≤ i ∧ i < 16 + 4 * k2 then hG R (i - 16) else 0
def hRow (R : List Int) (k k2 : Nat) : List Int := (List.range 32).map (hAt R k k2)
theorem hRow_length (R : List Int) (k k2 : Nat) : (hRow R k k2).length = 32 := by simp [hRow]
theorem hRow_get (R : List Int) (k k2 i : Nat) : (hRow R k k2)[i]? = if i < 32 then some (hAt R k k2 i) else none := by
  unfold hRow
  rw [List.getElem?_map]
  by_cases h : i < 32
  · rw [List.getElem?_range h, if_pos h]
    rfl
  · rw [if_neg h, List.getElem?_eq_none (by simp; omega)]
    rfl
theorem hRow_one (R : List Int) (k k2 : Nat) (hk : k < 4) (h2 : k2 ≤ 4) : putFrom (hRow R k k2) (4 * k) (fun i => nth0 R k / 256 ^ i % 256) 4 = hRow R (k + 1) k2 := by
  apply List.ext_getElem?
  intro i
  rw [putFrom_get _ _ _ _ _ (by rw [hRow_length]; omega), hRow_get, hRow_get]
  by_cases h1 : 4 * k ≤ i ∧ i < 4 * k + 4
  · rw [if_pos h1, if_pos (by omega)]
    unfold hAt hF
    rw [if_pos (by omega), show i / 4 = k by omega, show i % 4 = i - 4 * k by omega]
  · rw [if_neg h1]
    by_cases h3 : i < 32
    · rw [if_pos h3, if_pos h3]
      unfold hAt
      by_cases h4 : i < 4 * k
      · rw [if_pos h4, if_pos (by omega)]
      · rw [if_neg h4, if_neg (show ¬ i < 4 * (k + 1) by omega)]
    · rw [if_neg h3, if_neg h3]
theorem hRow_two (R : List Int) (k k2 : Nat) (hk : k ≤ 4) (h2 : k2 < 4) : putFrom (hRow R k k2) (16 + 4 * k2) (fun i => nth0 R (12 + k2) / 256 ^ i % 256) 4 = hRow R k (k2 + 1) := by
  apply List.ext_getElem?
  intro i
  rw [putFrom_get _ _ _ _ _ (by rw [hRow_length]; omega), hRow_get, hRow_get]
  by_cases h1 : 16 + 4 * k2 ≤ i ∧ i < 16 + 4 * k2 + 4
  · rw [if_pos h1, if_pos (by omega)]
    unfold hAt hG
    rw [if_neg (by omega), if_pos (by omega), show (i - 16) / 4 = k2 by omega, show (i - 16) % 4 = i - (16 + 4 * k2) by omega]
  · rw [if_neg h1]
    by_cases h3 : i < 32
    · rw [if_pos h3, if_pos h3]
      unfold hAt
      by_cases h4 : i < 4 * k
      · rw [if_pos h4, if_pos h4]
      · rw [if_neg h4, if_neg h4]
        by_cases h5 : 16 ≤ i ∧ i < 16 + 4 * k2
        · rw [if_pos h5, if_pos (by omega)]
        · rw [if_neg h5, if_neg (by omega)]
    · rw [if_neg h3, if_neg h3]
theorem hRow_zero (R : List Int) : hRow R 0 0 = zeroL 32 := by
  apply List.ext_getElem?
  intro i
  rw [hRow_get]
  unfold hAt zeroL
  rw [List.getElem?_replicate]
  by_cases h : i < 32
  · rw [if_pos h, if_pos h, if_neg (by omega), if_neg (by omega)]
  · rw [if_neg h, if_neg h]
theorem infoH32 : (Tryd.prog.info? 22).map (·.size) = some 32 := by kernel_rfl
set_option maxRecDepth 10000 in
set_option maxHeartbeats 2000000 in
theorem hChaCha_var (key nonce : List Int) (w : World) (hk : key.length = 32) (hr : nonce.length = 16) (hkb : Bytes key) (hrb : Bytes nonce) (ht : MixTab w) (Bf : List Int) (HBF : Hid (hRow (roundsN (startL key nonce) 10) 4 4 = Bf)) :
    Calls Tryd.prog 30 #[.agg (Iv .u8 key), .agg (Iv .u8 nonce)] w fun e w' => e = .returned (.agg (Iv .u8 Bf)) ∧ Below w.heap.size w w' := by
  have hzv : ∀ W, (zeroValue 22).run Tryd.prog W = .ok (.agg (Iv .u8 (zeroL 32))) W := (zero_of_info (n := 32) (by kernel_rfl)).1
  have hzt : ∀ W, (zeroValue 60).run Tryd.prog W = .ok (.agg (Iv .u32 (zeroL 16))) W := (zero_of_info (n := 16) (by kernel_rfl)).1
  have HT : Hid _ := ht
  clear ht
  go_enter Tryd.func30, Tryd.ntmps30
  obtain ⟨W, hW, g0, g1, g2, hs, hb⟩ := alloc3 w (.cells (Iv .u8 key) 22) (.cells (Iv .u8 nonce) 45) (.cells (Iv .u8 (zeroL 32)) 22)
  have G0 : Hid _ := g0
  have G1 : Hid _ := g1
  have hik : Hid ((Tryd.prog.info? 22).map (·.size) = some (Iv .u8 key).size) := by show _ = _; rw [Iv_size, hk]; exact infoH32
  have hin : Hid ((Tryd.prog.info? 45).map (·.size) = some (Iv .u8 nonce).size) := by show _ = _; rw [Iv_size, hr]; exact infoB16
  have hit : Hid (∀ l : List Int, l.length = 16 → (Tryd.prog.info? 60).map (·.size) = some (Iv .u32 l).size) := fun l hl => by rw [Iv_size, hl]; exact infoT16
  have hi32 : Hid (∀ l : List Int, l.length = 32 → (Tryd.prog.info? 22).map (·.size) = some (Iv .u8 l).size) := fun l hl => by rw [Iv_size, hl]; exact infoH32
  have R2 : Hid _ := g2
  have HB : Hid _ := hb
  clear g0 g1 g2 hb
  go_wp2_with (first
    | refine wpList_load_row rfl 22 _ rfl w.heap.size rfl _ (Iv .u8 key) _ _ G0.out Tryd.underlying22 rfl hik.out ?_
    | refine wpList_load_row rfl 45 _ rfl (w.heap.size + 1) rfl _ (Iv .u8 nonce) _ _ G1.out Tryd.underlying45 rfl hin.out ?_)
  refine (chaStart_any key nonce W hk hr hkb hrb).mono ?_
  rintro e w1 ⟨rfl, hb1⟩
  have hst : (startL key nonce).length = 16 := by rw [startL_eq]; rfl
  have h32 : All32 (startL key nonce) := all32_start hkb hrb
  generalize startL key nonce = st at *
  have R2b : Hid _ := (hb1.block _ (by omega)).trans R2.out
  have HBb : Hid (Below w.heap.size w w1) := HB.out.trans (hb1.mono (by omega))
  have hs1 : w.heap.size + 1 + 1 < w1.heap.size := by have := hb1.size; omega
  clear hb1 R2 HB G0 G1 hW hs
  go_wp2_with fail
  refine (chaRounds_any st w1 hst h32 (MixTab.later HT.out HBb.out (Nat.le_refl _))).mono ?_
  rintro e w2 ⟨rfl, hb2⟩
  have hmx : (roundsN st 10).length = 16 := (roundsN_length st 10).trans hst
  have hm32 : All32 (roundsN st 10) := roundsN_in h32 10
  generalize roundsN st 10 = R at *
  have R2c : Hid _ := (hb2.block _ hs1).trans R2b.out
  have HBc : Hid (Below w.heap.size w w2) := HBb.out.trans (hb2.mono HBb.out.size)
  have hs2 : w.heap.size + 1 + 1 < w2.heap.size := Nat.lt_of_lt_of_le hs1 hb2.size
  clear hb2 R2b HBb hs1 HT h32 hst
  have HTT : Hid ((w2.alloc (.cells (Iv .u32 (zeroL 16)) 60)).heap[w2.heap.size]? = some (.cells (Iv .u32 (zeroL 16)) 60)) := heap_alloc_new _ _
  have HS : Hid ((Iv .u32 (zeroL 16)).size = (Iv .u32 R).size) := by show _ = _; rw [Iv_size, Iv_size, hmx]; rfl
  go_wp2_with (refine wpList_put_row rfl 60 _ _ rfl w2.heap.size (Iv .u32 R) rfl rfl _ _ HTT.out (hit.out R hmx) HS.out (Iv_one _ _) ?_)
  intro w3 hP3
  have R8 := hP3.here
  have RO := (hP3.far (w.heap.size + 1 + 1) (by omega)).trans ((heap_alloc_old _ _ hs2).trans R2c.out)
  have RB : Below w.heap.size w w3 := hP3.below _ _ (HBc.out.alloc HBc.out.size _) HBc.out.size
  have hs3 : w3.heap.size = w2.heap.size + 1 := by rw [hP3.size]; simp
  obtain ⟨g8, hg8⟩ : ∃ g, g = w2.heap.size := ⟨_, rfl⟩
  rw [← hg8] at R8 hs3 hs2 ⊢
  clear hP3 HTT HS R2c HBc hg8
  have K8 : Hid _ := R8
  have KO : Hid _ := RO
  have KB : Hid _ := RB
  clear R8 RO RB
  go_wp2_with fail
  go_loopw [12] (fun i wr => ∃ k : Nat, k ≤ 4 ∧ i = .int .i64 k ∧ wr.heap[g8 + 1]? = some (.cells (Iv .u8 (hRow R k k)) 22) ∧ wr.heap[g8]? = some (.cells (Iv .u32 R) 60) ∧ wr.heap[w.heap.size + 1 + 1]? = some (.cells (Iv .u8 (zeroL 32)) 22) ∧ Below w.heap.size w wr) (fun i _ => 4 - (intOf i).toNat)
  case atStart =>
    refine ⟨0, Nat.zero_le _, rfl, ?_, ?_, ?_, KB.out.alloc KB.out.size _⟩
    · rw [hRow_zero, ← hs3]
      exact heap_alloc_new _ _
    · rw [heap_alloc_old _ _ (by omega)]
      exact K8.out
    · rw [heap_alloc_old _ _ (by omega)]
      exact KO.out
  case round =>
    obtain ⟨k, hk, rfl, q1, q8, q0, qB⟩ := hrel
    by_cases hlt : k < 4
    · have c1 : wr.cell? ⟨g8, k, none⟩ = some (.int .u32 (nth0 R k)) := by
        rw [cell_of_row _ _ _ _ _ _ q8, Iv_get .u32 _ k (by omega)]
        simp [nth0, hmx, show k < 16 by omega]
      have c2 : wr.cell? ⟨g8, 12 + k, none⟩ = some (.int .u32 (nth0 R (12 + k))) := by
        rw [cell_of_row _ _ _ _ _ _ q8, Iv_get .u32 _ (12 + k) (by omega)]
        simp [nth0, hmx, show 12 + k < 16 by omega]
      have b1 : 0 ≤ nth0 R k := (hm32 k).1
      have b2 : 0 ≤ nth0 R (12 + k) := (hm32 (12 + k)).1
      have s1 : (0 : Int) ≤ 4 * (k : Int) := by omega
      have s2 : 4 * (k : Int) ≤ 4 * (k : Int) + 4 := by omega
      have s3 : 4 * (k : Int) + 4 ≤ 32 := by omega
      have s4 : (0 : Int) ≤ 4 * (k : Int) + 4 := by omega
      have Q1 : Hid _ := q1
      have Q8 : Hid _ := q8
      have Q0 : Hid _ := q0
      have QB : Hid _ := qB
      clear q1 q8 q0 qB K8 KO KB
      go_wp2_with fail
      refine wp_region_head 9 (by kernel_rfl) (by kernel_rfl) ?_
      simp only [List.take_succ_cons, List.take_zero, List.drop_succ_cons, List.drop_zero]
      repeat (go_big_quiet_step (fail))
      refine wpQuiet_nil ?_
      go_wp2_with fail
      rw [show 4 * k + 4 - 4 * k = 4 by omega]
      refine (putLittle32_any (g8 + 1) (4 * k) 4 _ 22 (hRow R k k) (nth0 R k) wr.drew Q1.out (by rw [hRow_length]; omega) (by omega) b1).mono ?_
      rintro e w6 ⟨rfl, hw6⟩
      rw [hRow_one R k k hlt (by omega)] at hw6
      have P6 : Put wr.drew (g8 + 1) (Iv .u8 (hRow R (k + 1) k)) 22 w6 := by rw [hw6]; exact put_setRow (w := wr.drew) Q1.out _
      clear hw6
      have c2' : w6.cell? ⟨g8, 12 + k, none⟩ = some (.int .u32 (nth0 R (12 + k))) := by
        rw [cell_of_row _ _ _ _ _ _ ((P6.far g8 (by omega)).trans Q8.out), Iv_get .u32 _ (12 + k) (by omega)]
        simp [nth0, hmx, show 12 + k < 16 by omega]
      have Q1' : Hid _ := P6.here
      have Q8' : Hid _ := (P6.far g8 (by omega)).trans Q8.out
      have Q0' : Hid _ := (P6.far (w.heap.size + 1 + 1) (by omega)).trans Q0.out
      have QB' : Hid _ := P6.below _ _ (below_drews QB.out 1) (by omega)
      have t1 : (0 : Int) ≤ 16 + 4 * (k : Int) := by omega
      have t2 : 16 + 4 * (k : Int) ≤ 20 + 4 * (k : Int) := by omega
      have t3 : 20 + 4 * (k : Int) ≤ 32 := by omega
      have t4 : (0 : Int) ≤ 20 + 4 * (k : Int) := by omega
      clear P6 Q1 Q8 Q0 QB c1 c2 s1 s2 s3 s4
      go_wp2_with fail
      refine wp_region_head 11 (by kernel_rfl) (by kernel_rfl) ?_
      simp only [List.take_succ_cons, List.take_zero, List.drop_succ_cons, List.drop_zero]
      repeat (go_big_quiet_step (fail))
      refine wpQuiet_nil ?_
      go_wp2_with fail
      rw [show 20 + 4 * k - (16 + 4 * k) = 4 by omega]
      refine (putLittle32_any (g8 + 1) (16 + 4 * k) 4 _ 22 (hRow R (k + 1) k) (nth0 R (12 + k)) w6.drew Q1'.out (by rw [hRow_length]; omega) (by omega) b2).mono ?_
      rintro e w7 ⟨rfl, hw7⟩
      rw [hRow_two R (k + 1) k (by omega) hlt] at hw7
      have P7 : Put w6.drew (g8 + 1) (Iv .u8 (hRow R (k + 1) (k + 1))) 22 w7 := by rw [hw7]; exact put_setRow (w := w6.drew) Q1'.out _
      clear hw7
      have V1 : Hid _ := P7.here
      have V8 : Hid _ := (P7.far g8 (by omega)).trans Q8'.out
      have V0 : Hid _ := (P7.far (w.heap.size + 1 + 1) (by omega)).trans Q0'.out
      have VB : Hid _ := P7.below _ _ (below_drews QB'.out 1) (by omega)
      clear P7 Q1' Q8' Q0' QB' c2'
      go_wp2_with fail
      go_roundw
      case rel => exact ⟨k + 1, by omega, by go_num, V1.out, V8.out, V0.out, VB.out⟩
      case measure => simp [intOf]; omega
    · obtain rfl : k = 4 := by omega
      rw [HBF.out] at q1
      have hBl : Bf.length = 32 := by rw [← HBF.out, hRow_length]
      have G2 : Hid _ := q1
      have G1 : Hid _ := q0
      have GB : Hid _ := qB
      clear q1 q8 q0 qB K8 KO KB
      go_wp2_with (first
        | refine wpList_load_row rfl 22 _ rfl (g8 + 1) rfl _ (Iv .u8 Bf) _ _ G2.out Tryd.underlying22 rfl (hi32.out Bf hBl) ?_
        | refine wpList_put_row rfl 22 _ _ rfl (w.heap.size + 1 + 1) (Iv .u8 Bf) rfl rfl _ _ G1.out (hi32.out Bf hBl) ?hs (Iv_one _ _) ?_)
      case hs => rw [Iv_size, Iv_size, hBl]; rfl
      intro W9 hP9
      go_wp2
      exact bodyPost_ret (v := .agg (Iv .u8 Bf)) (results_cell_row rfl _ _ _ _ (Iv .u8 Bf) _ _ rfl hP9.here Tryd.underlying22 rfl (hi32.out Bf hBl)) rfl ⟨rfl, hP9.below _ _ GB.out (by omega)⟩
end Go.Proofs.YtlbnmiinokkkgaaDoor
namespace Go.Proofs.YtlbnmiinokkkgaaDoor
open Go.RowKit
set_option linter.unusedVariables false
def hso0 : Oper := { dst := some 7, op := Op.load 22 (Operand.tmp 2), type := 22, pos := "l2_aead.go:63", after := #[], guard := none }
def hso1 : Oper := { dst := some 8, op := Op.slice 45 (Operand.tmp 3) none none none, type := 24, pos := "l2_aead.go:63", after := #[], guard := none }
def hso2 : Oper := { dst := some 9, op := Op.call { callee := Callee.value (Operand.func 58), args := #[Operand.tmp 8, Operand.const (Value.int IntKind.i64 4)], argTypes := #[24, 3] }, type := 77, pos := "l2_aead.go:63", after := #[{ on := 1, ground := Ground.data }], guard := none }
def hso3 : Oper := { dst := some 10, op := Op.call { callee := Callee.value (Operand.func 57), args := #[Operand.tmp 7, Operand.tmp 9], argTypes := #[22, 77] }, type := 60, pos := "l2_aead.go:63", after := #[{ on := 0, ground := Ground.data }, { on := 2, ground := Ground.data }, { on := 2, ground := Ground.chain }], guard := none }
def hso4 : Oper := { dst := some 11, op := Op.call { callee := Callee.value (Operand.func 59), args := #[Operand.tmp 10], argTypes := #[60] }, type := 60, pos := "l2_aead.go:63", after := #[{ on := 3, ground := Ground.data }, { on := 3, ground := Ground.chain }], guard := none }
def hso5 : Oper := { dst := some 5, op := Op.alloc 60, type := 0, pos := "l2_aead.go:63", after := #[], guard := none }
def hso6 : Oper := { dst := none, op := Op.store 60 (Operand.tmp 5) (Operand.tmp 11), type := 0, pos := "l2_aead.go:63", after := #[{ on := 5, ground := Ground.data }, { on := 4, ground := Ground.data }, { on := 4, ground := Ground.chain }, { on := 0, ground := Ground.phase }, { on := 1, ground := Ground.phase }, { on := 2, ground := Ground.phase }, { on := 3, ground := Ground.phase }, { on := 4, ground := Ground.phase }, { on := 5, ground := Ground.phase }], guard := none }
def hsops : Array Oper := #[hso0, hso1, hso2, hso3, hso4, hso5, hso6]
def hsfr (key nonce ws st R : List Int) (b : Nat) (y5 y7 y8 y9 y10 y11 : Value) : Act := { tmps := #[.agg (Iv .u8 key), .agg (Iv .u8 nonce), .pointer (some ⟨b, 0, none⟩), .pointer (some ⟨b + 1, 0, none⟩), .pointer (some ⟨b + 1 + 1, 0, none⟩), y5, undef, y7, y8, y9, y10, y11, undef, undef, undef, undef, undef, undef, undef, undef, undef], defers := [] }
structure hsIn (key nonce ws st R : List Int) (b : Nat) (W : World) (listed : Array Bool) (w : World) (y5 y7 y8 y9 y10 y11 : Value) : Prop where
  size : listed.size = 7
  bel : Below W.heap.size W w
  p0 : Lb listed 0 = true → y7 = .agg (Iv .u8 key)
  p1 : Lb listed 1 = true → y8 = .slice (some ⟨b + 1, 0, none⟩) 16 16
  p2 : Lb listed 2 = true → Lb listed 6 = true ∨ Own .u32 49 W.heap.size w y9 ws
  p3 : Lb listed 3 = true → y10 = .agg (Iv .u32 st)
  p4 : Lb listed 4 = true → y11 = .agg (Iv .u32 R)
  p6 : Lb listed 6 = true → ∀ j, j < 7 → Lb listed j = true
  p5 : Lb listed 5 = true → ∃ g, y5 = .pointer (some ⟨g, 0, none⟩) ∧ W.heap.size ≤ g ∧ w.heap[g]? = some (.cells (Iv .u32 (if Lb listed 6 then R else (zeroL 16))) 60)
def hsInv (key nonce ws st R : List Int) (b : Nat) (W : World) (listed : Array Bool) (a : Act) (w : World) : Prop := ∃ y5 y7 y8 y9 y10 y11, a = hsfr key nonce ws st R b y5 y7 y8 y9 y10 y11 ∧ hsIn key nonce ws st R b W listed w y5 y7 y8 y9 y10 y11
theorem hsready {listed : Array Bool} (hs : listed.size = 7) (hr : Region.ready .any hsops listed = []) {i : Nat} (o : Oper) (ho : hsops[i]? = some o) (hi : i < 7) (hdep : ∀ e ∈ o.after, Lb listed e.on = true) : Lb listed i = true := by
  cases hb : Lb listed i with
  | true => rfl
  | false =>
    have h1 : listed.getD i true = false := by
      have hlt : i < listed.size := by omega
      simp only [Lb, Array.getD, hlt, dif_pos] at hb ⊢
      exact hb
    have : i ∈ Region.ready .any hsops listed := mem_ready.2 ⟨h1, o, ho, fun e he _ => hdep e he⟩
    rw [hr] at this
    cases this
theorem hsall {listed : Array Bool} (hs : listed.size = 7) (hr : Region.ready .any hsops listed = []) : Lb listed 0 = true ∧ Lb listed 1 = true ∧ Lb listed 2 = true ∧ Lb listed 3 = true ∧ Lb listed 4 = true ∧ Lb listed 5 = true ∧ Lb listed 6 = true := by
  have l0 := hsready hs hr (i := 0) hso0 rfl (by omega) (by unfold hso0; simp only [List.mem_toArray, List.not_mem_nil, false_implies, implies_true])
  have l1 := hsready hs hr (i := 1) hso1 rfl (by omega) (by unfold hso1; simp only [List.mem_toArray, List.not_mem_nil, false_implies, implies_true])
  have l2 := hsready hs hr (i := 2) hso2 rfl (by omega) (by unfold hso2; simp only [List.mem_toArray, List.mem_cons, List.not_mem_nil, or_false, forall_eq, l1])
  have l3 := hsready hs hr (i := 3) hso3 rfl (by omega) (by unfold hso3; simp only [List.mem_toArray, List.mem_cons, List.not_mem_nil, or_false, forall_eq_or_imp, forall_eq, l0, l2, and_self])
  have l4 := hsready hs hr (i := 4) hso4 rfl (by omega) (by unfold hso4; simp only [List.mem_toArray, List.mem_cons, List.not_mem_nil, or_false, forall_eq_or_imp, forall_eq, l3, and_self])
  have l5 := hsready hs hr (i := 5) hso5 rfl (by omega) (by unfold hso5; simp only [List.mem_toArray, List.not_mem_nil, false_implies, implies_true])
  have l6 := hsready hs hr (i := 6) hso6 rfl (by omega) (by unfold hso6; simp only [List.mem_toArray, List.mem_cons, List.not_mem_nil, or_false, forall_eq_or_imp, forall_eq, l0, l1, l2, l3, l4, l5, and_self])
  exact ⟨l0, l1, l2, l3, l4, l5, l6⟩
theorem hsdep {listed : Array Bool} {i : Nat} (h : i ∈ Region.ready .any hsops listed) (o : Oper) (ho : hsops[i]? = some o) : listed.getD i true = false ∧ ∀ e ∈ o.after, Region.binds .any e = true → Lb listed e.on = true := by
  obtain ⟨h1, o', ho', hd⟩ := mem_ready.1 h
  rw [ho] at ho'
  cases ho'
  exact ⟨h1, hd⟩
set_option maxRecDepth 10000 in
set_option maxHeartbeats 2000000 in
theorem hss0 {key nonce ws st R : List Int} {b : Nat} {W : World} {listed : Array Bool} {w : World} {y5 y7 y8 y9 y10 y11 : Value} {Q : Exit → Act → World → Prop} (h : hsIn key nonce ws st R b W listed w y5 y7 y8 y9 y10 y11) (hi : 0 ∈ Region.ready .any hsops listed) (hrow : W.heap[b]? = some (.cells (Iv .u8 key) 22)) (hblt : b < W.heap.size) (hinf : (Tryd.prog.info? 22).map (·.size) = some ((Iv .u8 key)).size) :
    wpList Tryd.prog hsops (atEnd (hsInv key nonce ws st R b W (listed.setIfInBounds 0 true)) Q) [hso0] (hsfr key nonce ws st R b y5 y7 y8 y9 y10 y11) w := by
  obtain ⟨hn1, hdep⟩ := hsdep hi hso0 rfl
  obtain ⟨hlt, hno⟩ := cha_no hn1
  have G0 : Hid _ := (h.bel.block _ hblt).trans hrow
  have hik : Hid _ := hinf
  have HH : Hid _ := h
  clear h hdep hn1 hrow hinf
  unfold hsfr hso0
  go_wp2_with (refine wpList_load_row rfl 22 _ rfl (b) rfl _ (Iv .u8 key) _ _ G0.out Tryd.underlying22 rfl hik.out ?_)
  have h := HH.out
  have hb := Below.refl w.heap.size w
  refine ⟨_, _, _, _, _, _, rfl, {
    size := by simpa using h.size
    bel := h.bel.trans (hb.mono h.bel.size)
    p0 := fun _ => rfl
    p1 := fun hl => h.p1 (by rwa [Lb_ne (by omega)] at hl)
    p2 := fun hl => (h.p2 (by rwa [Lb_ne (by omega)] at hl)).imp (fun e => by rw [Lb_ne (by omega)]; exact e) (fun o => o.later hb)
    p3 := fun hl => h.p3 (by rwa [Lb_ne (by omega)] at hl)
    p4 := fun hl => h.p4 (by rwa [Lb_ne (by omega)] at hl)
    p6 := fun hl => absurd (h.p6 (by rwa [Lb_ne (by omega)] at hl) 0 (by omega)) (by rw [hno]; simp)
    p5 := fun hl => by
      obtain ⟨g, e1, e2, e3⟩ := h.p5 (by rwa [Lb_ne (by omega)] at hl)
      refine ⟨g, e1, e2, ?_⟩
      rw [Lb_ne (by omega), hb.block g (Array.getElem?_eq_some_iff.1 e3).1]
      exact e3 }⟩
set_option maxRecDepth 10000 in
set_option maxHeartbeats 2000000 in
theorem hss1 {key nonce ws st R : List Int} {b : Nat} {W : World} {listed : Array Bool} {w : World} {y5 y7 y8 y9 y10 y11 : Value} {Q : Exit → Act → World → Prop} (h : hsIn key nonce ws st R b W listed w y5 y7 y8 y9 y10 y11) (hi : 1 ∈ Region.ready .any hsops listed) :
    wpList Tryd.prog hsops (atEnd (hsInv key nonce ws st R b W (listed.setIfInBounds 1 true)) Q) [hso1] (hsfr key nonce ws st R b y5 y7 y8 y9 y10 y11) w := by
  obtain ⟨hn1, hdep⟩ := hsdep hi hso1 rfl
  obtain ⟨hlt, hno⟩ := cha_no hn1
  have HH : Hid _ := h
  clear h hdep hn1
  unfold hsfr hso1
  go_wp2_with fail
  have h := HH.out
  have hb := Below.refl w.heap.size w
  refine ⟨_, _, _, _, _, _, rfl, {
    size := by simpa using h.size
    bel := h.bel.trans (hb.mono h.bel.size)
    p0 := fun hl => h.p0 (by rwa [Lb_ne (by omega)] at hl)
    p1 := fun _ => rfl
    p2 := fun hl => (h.p2 (by rwa [Lb_ne (by omega)] at hl)).imp (fun e => by rw [Lb_ne (by omega)]; exact e) (fun o => o.later hb)
    p3 := fun hl => h.p3 (by rwa [Lb_ne (by omega)] at hl)
    p4 := fun hl => h.p4 (by rwa [Lb_ne (by omega)] at hl)
    p6 := fun hl => absurd (h.p6 (by rwa [Lb_ne (by omega)] at hl) 1 (by omega)) (by rw [hno]; simp)
    p5 := fun hl => by
      obtain ⟨g, e1, e2, e3⟩ := h.p5 (by rwa [Lb_ne (by omega)] at hl)
      refine ⟨g, e1, e2, ?_⟩
      rw [Lb_ne (by omega), hb.block g (Array.getElem?_eq_some_iff.1 e3).1]
      exact e3 }⟩
set_option maxRecDepth 10000 in
set_option maxHeartbeats 2000000 in
theorem hss2 {key nonce ws st R : List Int} {b : Nat} {W : World} {listed : Array Bool} {w : World} {y5 y7 y8 y9 y10 y11 : Value} {Q : Exit → Act → World → Prop} (h : hsIn key nonce ws st R b W listed w y5 y7 y8 y9 y10 y11) (hi : 2 ∈ Region.ready .any hsops listed) (hcon : ∀ w, Below W.heap.size W w → Calls Tryd.prog 58 #[.slice (some ⟨b + 1, 0, none⟩) 16 16, .int .i64 4] w fun e w' => ∃ v, e = .returned v ∧ Own .u32 49 w.heap.size w' v ws ∧ Below w.heap.size w w') :
    wpList Tryd.prog hsops (atEnd (hsInv key nonce ws st R b W (listed.setIfInBounds 2 true)) Q) [hso2] (hsfr key nonce ws st R b y5 y7 y8 y9 y10 y11) w := by
  obtain ⟨hn1, hdep⟩ := hsdep hi hso2 rfl
  obtain ⟨hlt, hno⟩ := cha_no hn1
  have l1 : Lb listed 1 = true := hdep { on := 1, ground := Ground.data } (by unfold hso2; simp) rfl
  obtain rfl := h.p1 l1
  have HC : Hid _ := hcon w  h.bel 
  have HH : Hid _ := h
  clear h hdep hn1 hcon
  unfold hsfr hso2
  go_wp2_with fail
  refine Calls.mono HC.out ?_
  rintro e w' ⟨v, rfl, ho, hb⟩
  go_wp2_with fail
  have h := HH.out
  refine ⟨_, _, _, _, _, _, rfl, {
    size := by simpa using h.size
    bel := h.bel.trans (hb.mono h.bel.size)
    p0 := fun hl => h.p0 (by rwa [Lb_ne (by omega)] at hl)
    p1 := fun hl => h.p1 (by rwa [Lb_ne (by omega)] at hl)
    p2 := fun _ => .inr (ho.mono h.bel.size)
    p3 := fun hl => h.p3 (by rwa [Lb_ne (by omega)] at hl)
    p4 := fun hl => h.p4 (by rwa [Lb_ne (by omega)] at hl)
    p6 := fun hl => absurd (h.p6 (by rwa [Lb_ne (by omega)] at hl) 2 (by omega)) (by rw [hno]; simp)
    p5 := fun hl => by
      obtain ⟨g, e1, e2, e3⟩ := h.p5 (by rwa [Lb_ne (by omega)] at hl)
      refine ⟨g, e1, e2, ?_⟩
      rw [Lb_ne (by omega), hb.block g (Array.getElem?_eq_some_iff.1 e3).1]
      exact e3 }⟩
set_option maxRecDepth 10000 in
set_option maxHeartbeats 2000000 in
theorem hss3 {key nonce ws st R : List Int} {b : Nat} {W : World} {listed : Array Bool} {w : World} {y5 y7 y8 y9 y10 y11 : Value} {Q : Exit → Act → World → Prop} (h : hsIn key nonce ws st R b W listed w y5 y7 y8 y9 y10 y11) (hi : 3 ∈ Region.ready .any hsops listed) (hcon : ∀ w y9, Below W.heap.size W w → Own .u32 49 W.heap.size w y9 ws → Calls Tryd.prog 57 #[.agg (Iv .u8 key), y9] w fun e w' => e = .returned (.agg (Iv .u32 st)) ∧ Below w.heap.size w w') :
    wpList Tryd.prog hsops (atEnd (hsInv key nonce ws st R b W (listed.setIfInBounds 3 true)) Q) [hso3] (hsfr key nonce ws st R b y5 y7 y8 y9 y10 y11) w := by
  obtain ⟨hn1, hdep⟩ := hsdep hi hso3 rfl
  obtain ⟨hlt, hno⟩ := cha_no hn1
  have l0 : Lb listed 0 = true := hdep { on := 0, ground := Ground.data } (by unfold hso3; simp) rfl
  obtain rfl := h.p0 l0
  have l2 : Lb listed 2 = true := hdep { on := 2, ground := Ground.data } (by unfold hso3; simp) rfl
  have o2 := (h.p2 l2).resolve_left (fun e => absurd (h.p6 e 3 (by omega)) (by rw [hno]; simp))
  have HC : Hid _ := hcon w _ h.bel o2
  have HH : Hid _ := h
  clear h hdep hn1 hcon
  unfold hsfr hso3
  go_wp2_with fail
  refine Calls.mono HC.out ?_
  rintro e w' ⟨rfl, hb⟩
  go_wp2_with fail
  have h := HH.out
  refine ⟨_, _, _, _, _, _, rfl, {
    size := by simpa using h.size
    bel := h.bel.trans (hb.mono h.bel.size)
    p0 := fun hl => h.p0 (by rwa [Lb_ne (by omega)] at hl)
    p1 := fun hl => h.p1 (by rwa [Lb_ne (by omega)] at hl)
    p2 := fun hl => (h.p2 (by rwa [Lb_ne (by omega)] at hl)).imp (fun e => by rw [Lb_ne (by omega)]; exact e) (fun o => o.later hb)
    p3 := fun _ => rfl
    p4 := fun hl => h.p4 (by rwa [Lb_ne (by omega)] at hl)
    p6 := fun hl => absurd (h.p6 (by rwa [Lb_ne (by omega)] at hl) 3 (by omega)) (by rw [hno]; simp)
    p5 := fun hl => by
      obtain ⟨g, e1, e2, e3⟩ := h.p5 (by rwa [Lb_ne (by omega)] at hl)
      refine ⟨g, e1, e2, ?_⟩
      rw [Lb_ne (by omega), hb.block g (Array.getElem?_eq_some_iff.1 e3).1]
      exact e3 }⟩
set_option maxRecDepth 10000 in
set_option maxHeartbeats 2000000 in
theorem hss4 {key nonce ws st R : List Int} {b : Nat} {W : World} {listed : Array Bool} {w : World} {y5 y7 y8 y9 y10 y11 : Value} {Q : Exit → Act → World → Prop} (h : hsIn key nonce ws st R b W listed w y5 y7 y8 y9 y10 y11) (hi : 4 ∈ Region.ready .any hsops listed) (hcon : ∀ w, Below W.heap.size W w → Calls Tryd.prog 59 #[.agg (Iv .u32 st)] w fun e w' => e = .returned (.agg (Iv .u32 R)) ∧ Below w.heap.size w w') :
    wpList Tryd.prog hsops (atEnd (hsInv key nonce ws st R b W (listed.setIfInBounds 4 true)) Q) [hso4] (hsfr key nonce ws st R b y5 y7 y8 y9 y10 y11) w := by
  obtain ⟨hn1, hdep⟩ := hsdep hi hso4 rfl
  obtain ⟨hlt, hno⟩ := cha_no hn1
  have l3 : Lb listed 3 = true := hdep { on := 3, ground := Ground.data } (by unfold hso4; simp) rfl
  obtain rfl := h.p3 l3
  have HC : Hid _ := hcon w  h.bel 
  have HH : Hid _ := h
  clear h hdep hn1 hcon
  unfold hsfr hso4
  go_wp2_with fail
  refine Calls.mono HC.out ?_
  rintro e w' ⟨rfl, hb⟩
  go_wp2_with fail
  have h := HH.out
  refine ⟨_, _, _, _, _, _, rfl, {
    size := by simpa using h.size
    bel := h.bel.trans (hb.mono h.bel.size)
    p0 := fun hl => h.p0 (by rwa [Lb_ne (by omega)] at hl)
    p1 := fun hl => h.p1 (by rwa [Lb_ne (by omega)] at hl)
    p2 := fun hl => (h.p2 (by rwa [Lb_ne (by omega)] at hl)).imp (fun e => by rw [Lb_ne (by omega)]; exact e) (fun o => o.later hb)
    p3 := fun hl => h.p3 (by rwa [Lb_ne (by omega)] at hl)
    p4 := fun _ => rfl
    p6 := fun hl => absurd (h.p6 (by rwa [Lb_ne (by omega)] at hl) 4 (by omega)) (by rw [hno]; simp)
    p5 := fun hl => by
      obtain ⟨g, e1, e2, e3⟩ := h.p5 (by rwa [Lb_ne (by omega)] at hl)
      refine ⟨g, e1, e2, ?_⟩
      rw [Lb_ne (by omega), hb.block g (Array.getElem?_eq_some_iff.1 e3).1]
      exact e3 }⟩
set_option maxRecDepth 10000 in
set_option maxHeartbeats 2000000 in
theorem hss5 {key nonce ws st R : List Int} {b : Nat} {W : World} {listed : Array Bool} {w : World} {y5 y7 y8 y9 y10 y11 : Value} {Q : Exit → Act → World → Prop} (h : hsIn key nonce ws st R b W listed w y5 y7 y8 y9 y10 y11) (hi : 5 ∈ Region.ready .any hsops listed) (hzv : ∀ W, (zeroValue 60).run Tryd.prog W = .ok (.agg (Iv .u32 (zeroL 16))) W) :
    wpList Tryd.prog hsops (atEnd (hsInv key nonce ws st R b W (listed.setIfInBounds 5 true)) Q) [hso5] (hsfr key nonce ws st R b y5 y7 y8 y9 y10 y11) w := by
  obtain ⟨hn1, hdep⟩ := hsdep hi hso5 rfl
  obtain ⟨hlt, hno⟩ := cha_no hn1
  have hnos : Lb listed 6 = false := by
    cases h8 : Lb listed 6 with
    | false => rfl
    | true => exact absurd (h.p6 h8 5 (by omega)) (by rw [hno]; simp)
  have HH : Hid _ := h
  clear h hdep hn1
  unfold hsfr hso5
  go_wp2_with fail
  have h := HH.out
  have hb : Below w.heap.size w (w.alloc (.cells (Iv .u32 (zeroL 16)) 60)) := (Below.refl _ _).alloc (Nat.le_refl _) _
  refine ⟨_, _, _, _, _, _, rfl, {
    size := by simpa using h.size
    bel := h.bel.trans (hb.mono h.bel.size)
    p0 := fun hl => h.p0 (by rwa [Lb_ne (by omega)] at hl)
    p1 := fun hl => h.p1 (by rwa [Lb_ne (by omega)] at hl)
    p2 := fun hl => (h.p2 (by rwa [Lb_ne (by omega)] at hl)).imp (fun e => by rw [Lb_ne (by omega)]; exact e) (fun o => o.later hb)
    p3 := fun hl => h.p3 (by rwa [Lb_ne (by omega)] at hl)
    p4 := fun hl => h.p4 (by rwa [Lb_ne (by omega)] at hl)
    p6 := fun hl => absurd (h.p6 (by rwa [Lb_ne (by omega)] at hl) 5 (by omega)) (by rw [hno]; simp)
    p5 := fun _ => by
      refine ⟨w.heap.size, rfl, h.bel.size, ?_⟩
      rw [Lb_ne (by omega), hnos]
      exact heap_alloc_new _ _ }⟩
set_option maxRecDepth 10000 in
set_option maxHeartbeats 2000000 in
theorem hss6 {key nonce ws st R : List Int} {b : Nat} {W : World} {listed : Array Bool} {w : World} {y5 y7 y8 y9 y10 y11 : Value} {Q : Exit → Act → World → Prop} (h : hsIn key nonce ws st R b W listed w y5 y7 y8 y9 y10 y11) (hi : 6 ∈ Region.ready .any hsops listed) (hinf : (Tryd.prog.info? 60).map (·.size) = some (Iv .u32 R).size) (hzs : (Iv .u32 (zeroL 16)).size = (Iv .u32 R).size) :
    wpList Tryd.prog hsops (atEnd (hsInv key nonce ws st R b W (listed.setIfInBounds 6 true)) Q) [hso6] (hsfr key nonce ws st R b y5 y7 y8 y9 y10 y11) w := by
  obtain ⟨hn1, hdep⟩ := hsdep hi hso6 rfl
  obtain ⟨hlt, hno⟩ := cha_no hn1
  have hd0 : Lb listed 0 = true := hdep { on := 0, ground := Ground.phase } (by unfold hso6; simp) rfl
  have hd1 : Lb listed 1 = true := hdep { on := 1, ground := Ground.phase } (by unfold hso6; simp) rfl
  have hd2 : Lb listed 2 = true := hdep { on := 2, ground := Ground.phase } (by unfold hso6; simp) rfl
  have hd3 : Lb listed 3 = true := hdep { on := 3, ground := Ground.phase } (by unfold hso6; simp) rfl
  have hd4 : Lb listed 4 = true := hdep { on := 4, ground := Ground.phase } (by unfold hso6; simp) rfl
  have hd5 : Lb listed 5 = true := hdep { on := 5, ground := Ground.phase } (by unfold hso6; simp) rfl
  have l4 : Lb listed 4 = true := hdep { on := 4, ground := Ground.data } (by unfold hso6; simp) rfl
  obtain rfl := h.p4 l4
  have la : Lb listed 5 = true := hdep { on := 5, ground := Ground.data } (by unfold hso6; simp) rfl
  obtain ⟨g, rfl, hg, hrow⟩ := h.p5 la
  rw [hno, if_neg (by simp)] at hrow
  have HR : Hid _ := hrow
  have hik : Hid _ := hinf
  have hiz : Hid _ := hzs
  have HH : Hid _ := h
  clear h hdep hn1 hrow hinf hzs
  unfold hsfr hso6
  refine wpList_put_row rfl 60 (.tmp 5) (.tmp 11) rfl g (Iv .u32 R) rfl rfl _ _ HR.out hik.out hiz.out (Iv_one _ _) ?_
  intro w' hP
  simp only [Act.put]
  go_wp2_with fail
  have h := HH.out
  refine ⟨_, _, _, _, _, _, rfl, {
    size := by simpa using h.size
    bel := hP.below _ _ h.bel hg
    p0 := fun hl => h.p0 (by rwa [Lb_ne (by omega)] at hl)
    p1 := fun hl => h.p1 (by rwa [Lb_ne (by omega)] at hl)
    p2 := fun _ => .inl (Lb_self hlt)
    p3 := fun hl => h.p3 (by rwa [Lb_ne (by omega)] at hl)
    p4 := fun hl => h.p4 (by rwa [Lb_ne (by omega)] at hl)
    p6 := fun _ j hj => by
      match j, hj with
      | 0, _ => rw [Lb_ne (by omega)]; exact hd0
      | 1, _ => rw [Lb_ne (by omega)]; exact hd1
      | 2, _ => rw [Lb_ne (by omega)]; exact hd2
      | 3, _ => rw [Lb_ne (by omega)]; exact hd3
      | 4, _ => rw [Lb_ne (by omega)]; exact hd4
      | 5, _ => rw [Lb_ne (by omega)]; exact hd5
      | 6, _ => exact Lb_self hlt
    p5 := fun _ => by
      refine ⟨g, rfl, hg, ?_⟩
      rw [Lb_self hlt, if_pos rfl]
      exact hP.here }⟩
end Go.Proofs.YtlbnmiinokkkgaaDoor
namespace Go.Proofs.YtlbnmiinokkkgaaDoor
open Go.RowKit
set_option linter.unusedVariables false
theorem startH_eq (key nonce : List Int) : putFrom (putFrom chaC 4 (wordAt key) 8) 12 (nth0 (wordsOf nonce 4)) 4 = startL key nonce := by
  unfold startL
  refine putFrom_congr _ _ _ _ _ fun i hi => ?_
  unfold nth0 wordsOf
  rw [List.getD_eq_getElem?_getD, List.getElem?_map, List.getElem?_range hi]
  rfl
theorem all32_join {R : List Int} (h : All32 R) : All32 (R.take 4 ++ R.drop 12) := by
  intro i
  have h0 := h i
  have h1 := h (12 + (i - (R.take 4).length))
  rw [List.getD_eq_getElem?_getD, List.getElem?_append]
  split
  · rw [List.getElem?_take]
    split
    · rw [List.getD_eq_getElem?_getD] at h0
      exact h0
    · exact ⟨by simp, by simp⟩
  · rw [List.getElem?_drop]
    rw [List.getD_eq_getElem?_getD] at h1
    exact h1
theorem hOut_eq (R : List Int) (hR : R.length = 16) : bytesOf (R.take 4 ++ R.drop 12) (4 * 8) = hRow R 4 4 := by
  unfold bytesOf hRow
  refine List.map_congr_left fun i hi => ?_
  have hi' : i < 32 := by simpa using hi
  unfold byteAt hAt hF hG nth0
  by_cases h : i < 16
  · rw [if_pos (by omega), List.getD_eq_getElem?_getD, List.getElem?_append, if_pos (by simp [hR]; omega), List.getElem?_take, if_pos (by omega), List.getD_eq_getElem?_getD]
  · rw [if_neg (by omega), if_pos (by omega), List.getD_eq_getElem?_getD, List.getElem?_append, if_neg (by simp [hR]; omega), List.getElem?_drop, List.getD_eq_getElem?_getD]
    have e1 : 12 + (i / 4 - (R.take 4).length) = 12 + (i - 16) / 4 := by simp [hR]; omega
    have e2 : i % 4 = (i - 16) % 4 := by omega
    rw [e1, e2]
set_option maxRecDepth 10000 in
set_option maxHeartbeats 2000000 in
theorem specHChaCha_var (key nonce : List Int) (w : World) (hk : key.length = 32) (hr : nonce.length = 16) (hkb : Bytes key) (hrb : Bytes nonce) (Bf : List Int) (HBF : Hid (hRow (roundsN (startL key nonce) 10) 4 4 = Bf)) :
    Calls Tryd.prog 53 #[.agg (Iv .u8 key), .agg (Iv .u8 nonce)] w fun e w' => e = .returned (.agg (Iv .u8 Bf)) ∧ Below w.heap.size w w' := by
  have hzv : ∀ W, (zeroValue 22).run Tryd.prog W = .ok (.agg (Iv .u8 (zeroL 32))) W := (zero_of_info (n := 32) (by kernel_rfl)).1
  have hzt : ∀ W, (zeroValue 60).run Tryd.prog W = .ok (.agg (Iv .u32 (zeroL 16))) W := (zero_of_info (n := 16) (by kernel_rfl)).1
  have hst : (startL key nonce).length = 16 := by rw [startL_eq]; rfl
  have h32 : All32 (startL key nonce) := all32_start hkb hrb
  have hRl : (roundsN (startL key nonce) 10).length = 16 := (roundsN_length _ 10).trans hst
  have hR32 : All32 (roundsN (startL key nonce) 10) := roundsN_in h32 10
  have hc3' : ∀ (W : World) (v9 : Value), Own .u32 49 w.heap.size W v9 (wordsOf nonce 4) → Calls Tryd.prog 57 #[.agg (Iv .u8 key), v9] W fun e w' => e = .returned (.agg (Iv .u32 (startL key nonce))) ∧ Below W.heap.size W w' := by
    intro W v9 ho
    obtain ⟨a, n, cap, rfl, hn, hrd⟩ := ho.rdk
    have hn4 : n = 4 := by rw [hn]; simp [wordsOf]
    subst hn4
    have := l2Start_any key (wordsOf nonce 4) 4 W hk hkb (by simp [wordsOf]) (by omega) a cap hrd
    rw [startH_eq] at this
    exact this
  have hc4' := fun W => l2Rounds_any (startL key nonce) W hst h32
  have HEQ : Hid (bytesOf ((roundsN (startL key nonce) 10).take 4 ++ (roundsN (startL key nonce) 10).drop 12) (4 * 8) = Bf) := (hOut_eq _ hRl).trans HBF.out
  generalize roundsN (startL key nonce) 10 = R at *
  generalize startL key nonce = st at *
  have hit : Hid ((Tryd.prog.info? 60).map (·.size) = some (Iv .u32 R).size) := by show _ = _; rw [Iv_size, hRl]; exact infoT16
  have hzs : Hid ((Iv .u32 (zeroL 16)).size = (Iv .u32 R).size) := by show _ = _; rw [Iv_size, Iv_size, hRl]; rfl
  have K3 : Hid _ := hc3'
  have K4 : Hid _ := hc4'
  clear hc3' hc4' HBF hst h32
  go_enter Tryd.func53, Tryd.ntmps53
  go_wp2_with fail
  obtain ⟨W, hW, g0, g1, g2, hs, hBw0⟩ := alloc3 w (.cells (Iv .u8 key) 22) (.cells (Iv .u8 nonce) 45) (.cells (Iv .u8 (zeroL 32)) 22)
  rw [hW]
  clear hW
  have hBW : Below W.heap.size W W := Below.refl _ _
  have hc2 : ∀ w', Below W.heap.size W w' → Calls Tryd.prog 58 #[.slice (some ⟨w.heap.size + 1, 0, none⟩) 16 16, .int .i64 4] w' fun e w'' => ∃ v, e = .returned v ∧ Own .u32 49 w'.heap.size w'' v (wordsOf nonce 4) ∧ Below w'.heap.size w' w'' := by
    intro w' hw'
    refine words_any nonce 16 4 hr hrb (by omega) (by omega) (some ⟨w.heap.size + 1, 0, none⟩) 16 w' ?_
    intro i hi
    refine ⟨w.heap.size + 1, 0, rfl, ?_⟩
    rw [Nat.zero_add, cell_of_row _ _ _ _ _ _ ((hw'.block (w.heap.size + 1) (by omega)).trans g1), Iv_get .u8 _ i hi, List.getD_eq_getElem?_getD, List.getElem?_eq_getElem hi]
    rfl
  have hc3 : ∀ w' y9, Below W.heap.size W w' → Own .u32 49 W.heap.size w' y9 (wordsOf nonce 4) → Calls Tryd.prog 57 #[.agg (Iv .u8 key), y9] w' fun e w'' => e = .returned (.agg (Iv .u32 st)) ∧ Below w'.heap.size w' w'' := fun w' y9 _ ho => K3.out w' y9 (ho.mono (by omega))
  have hc4 : ∀ w', Below W.heap.size W w' → Calls Tryd.prog 59 #[.agg (Iv .u32 st)] w' fun e w'' => e = .returned (.agg (Iv .u32 R)) ∧ Below w'.heap.size w' w'' := fun w' _ => K4.out w'
  refine wp_region_inv (ops := hsops) (hsInv key nonce (wordsOf nonce 4) st R w.heap.size W) (by kernel_rfl) ?_ ?_ ?_
  · exact ⟨undef, undef, undef, undef, undef, undef, rfl, { size := rfl, bel := below_drews hBW 1, p0 := fun h => (by cases h), p1 := fun h => (by cases h), p3 := fun h => (by cases h), p4 := fun h => (by cases h), p2 := fun h => (by cases h), p5 := fun h => (by cases h), p6 := fun h => (by cases h) }⟩
  · rintro listed a w1 ⟨y5, y7, y8, y9, y10, y11, rfl, h⟩ hready
    obtain ⟨l0, l1, l2, l3, l4, l5, l6⟩ := hsall h.size hready
    obtain rfl := h.p0 l0
    obtain rfl := h.p1 l1
    obtain rfl := h.p3 l3
    obtain rfl := h.p4 l4
    obtain ⟨g, rfl, hg, hrow⟩ := h.p5 l5
    rw [l6, if_pos rfl] at hrow
    have hbel := h.bel
    clear h hready l0 l1 l2 l3 l4 l5 l6
    unfold hsfr
    have hlg := (Array.getElem?_eq_some_iff.1 hrow).1
    have hcg : ∀ j, j < 16 → w1.cell? ⟨g, j, none⟩ = some (.int .u32 (R.getD j 0)) := fun j hj => by
      rw [cell_of_row _ _ _ _ _ _ hrow, Iv_get .u32 _ j (by omega), List.getD_eq_getElem?_getD, List.getElem?_eq_getElem (by omega)]
      rfl
    have HO : Hid (Own .u32 49 w1.heap.size (w1.alloc (.cells #[] 49)) (.slice (some ⟨w1.heap.size, 0, none⟩) 0 0) []) := Own.nil w1 (Nat.le_refl _)
    have HW : Hid (Below w1.heap.size w1 (w1.alloc (.cells #[] 49))) := (Below.refl _ _).alloc (Nat.le_refl _) _
    have HN : Hid (∀ j, j < 4 → (w1.alloc (.cells #[] 49)).cell? ⟨g, 0 + j, none⟩ = some (.int .u32 ((R.take 4).getD j 0))) := fun j hj => by
      rw [Nat.zero_add, HW.out.cell (p := ⟨g, j, none⟩) hlg, hcg j (by omega), getD_take, if_pos hj]
    have HCG : Hid _ := hcg
    have HL4 : Hid ((R.take 4).length = 4) := by show _ = _; simp [hRl]
    have HL12 : Hid ((R.drop 12).length = 4) := by show _ = _; simp [hRl]
    have HBW : Hid (Below w.heap.size w w1) := hBw0.trans (hbel.mono (by omega))
    have HRES : Hid _ := (hbel.block (w.heap.size + 1 + 1) (by omega)).trans g2
    have hs1 : w.heap.size + 1 + 1 < w1.heap.size := by have := hbel.size; omega
    clear hrow hbel hcg g0 g1 g2 hc2 hc3 hc4 K3 K4 hit hzs
    go_wp2_with (first
      | (at_builtin; refine extend_law .u32 77 49 4 Tryd.underlying77 infoU32 (by decide) rfl (.tmp 12) (.tmp 13) rfl w1.heap.size w1 _ _ [] g 0 4 16 (R.take 4) HL4.out rfl rfl HO.out HW.out HW.out.size (by simp) HN.out ?_; intro v2 w2 hown2 hbel2 _ _
         have HN2 : Hid (∀ j, j < 4 → w2.cell? ⟨g, 12 + j, none⟩ = some (.int .u32 ((R.drop 12).getD j 0))) := fun j hj => by
           rw [hbel2.cell (p := ⟨g, 12 + j, none⟩) hlg, HCG.out (12 + j) (by omega), List.getD_eq_getElem?_getD, List.getD_eq_getElem?_getD, List.getElem?_drop])
      | (at_builtin; refine extend_law .u32 77 49 4 Tryd.underlying77 infoU32 (by decide) rfl (.tmp 15) (.tmp 16) rfl w1.heap.size w1 _ _ (R.take 4) g 12 4 4 (R.drop 12) HL12.out rfl rfl hown2 hbel2 hbel2.size (by rw [HL4.out]; omega) HN2.out ?_; intro v3 w3 hown3 hbel3 _ _))
    have hXl : (R.take 4 ++ R.drop 12).length = 8 := by rw [List.length_append, HL4.out, HL12.out]
    have hX32 : All32 (R.take 4 ++ R.drop 12) := all32_join hR32
    generalize R.take 4 ++ R.drop 12 = X at *
    obtain ⟨a9, n9, c9, rfl, hn9, hrd9⟩ := hown3.rdk
    rw [hXl] at hn9
    subst hn9
    refine (bytes_any X 8 hXl hX32 (by omega) a9 c9 w3 hrd9).mono ?_
    rintro e w5 ⟨v5, rfl, o5, b5⟩
    have hBl : (bytesOf X (4 * 8)).length = 32 := bytesOf_length _ _
    obtain ⟨_, hbad⟩ | ⟨a3, c3, rfl, ha3, hb3, _, _, hcv, _⟩ := o5.at
    · exact absurd (congrArg List.length hbad) (by rw [hBl]; simp)
    rw [hBl] at hcv ⊢
    rw [HEQ.out] at hcv hBl
    have HCV : Hid (∀ j, j < 32 → w5.cell? ⟨a3, 0 + j, none⟩ = some (.int .u8 (Bf.getD j 0))) := fun j hj => by rw [Nat.zero_add]; exact hcv j hj
    have HB5 : Hid (Below w.heap.size w w5) := HBW.out.trans ((hbel3.mono (by omega)).trans (b5.mono (by have := hbel3.size; omega)))
    have HR5 : Hid _ := (b5.block (w.heap.size + 1 + 1) (by have := hbel3.size; omega)).trans ((hbel3.block (w.heap.size + 1 + 1) hs1).trans HRES.out)
    have hs5 : w.heap.size + 1 + 1 < w5.heap.size := by have := hbel3.size; have := b5.size; omega
    clear hown3 hbel3 o5 b5 hcv hrd9 HCG HO HW HN HRES HBW HEQ
    go_wp2_with fail
    refine (l1To32_any Bf hBl a3 0 c3 w5 hb3 HCV.out).mono ?_
    rintro e w6 ⟨rfl, hb6⟩
    have HR6 : Hid _ := (hb6.block _ hs5).trans HR5.out
    have HB6 : Hid (Below w.heap.size w w6) := HB5.out.trans (hb6.mono HB5.out.size)
    have hi32 : Hid ((Tryd.prog.info? 22).map (·.size) = some (Iv .u8 Bf).size) := by show _ = _; rw [Iv_size, hBl]; exact infoH32
    have hz32 : Hid ((Iv .u8 (zeroL 32)).size = (Iv .u8 Bf).size) := by show _ = _; rw [Iv_size, Iv_size, hBl]; rfl
    clear hb6 HR5 HB5 HCV
    go_wp2_with (refine wpList_put_row rfl 22 _ _ rfl (w.heap.size + 1 + 1) (Iv .u8 Bf) rfl rfl _ _ HR6.out hi32.out hz32.out (Iv_one _ _) ?_)
    intro W9 hP9
    go_wp2
    exact bodyPost_ret (v := .agg (Iv .u8 Bf)) (results_cell_row rfl _ _ _ _ (Iv .u8 Bf) _ _ rfl hP9.here Tryd.underlying22 rfl hi32.out) rfl ⟨rfl, hP9.below _ _ HB6.out (by omega)⟩
  · rintro listed i a w1 ⟨y5, y7, y8, y9, y10, y11, rfl, h⟩ hi
    match i, hi with
    | 0, hi => exact wpOp_of_list rfl (hss0 h hi g0 (by omega) (by rw [Iv_size, hk]; exact infoH32))
    | 1, hi => exact wpOp_of_list rfl (hss1 h hi)
    | 2, hi => exact wpOp_of_list rfl (hss2 h hi hc2)
    | 3, hi => exact wpOp_of_list rfl (hss3 h hi hc3)
    | 4, hi => exact wpOp_of_list rfl (hss4 h hi hc4)
    | 5, hi => exact wpOp_of_list rfl (hss5 h hi hzt)
    | 6, hi => exact wpOp_of_list rfl (hss6 h hi hit.out hzs.out)
    | n + 7, hi =>
      obtain ⟨_, o, ho, _⟩ := mem_ready.1 hi
      exact absurd (Array.getElem?_eq_some_iff.1 ho).1 (by show ¬ n + 7 < 7; omega)
end Go.Proofs.YtlbnmiinokkkgaaDoor
namespace Go.Proofs.YtlbnmiinokkkgaaDoor
open Go.RowKit
set_option linter.unusedVariables false
theorem infoT16b : (Tryd.prog.info? 45).map (·.size) = some 16 := by kernel_rfl
set_option maxRecDepth 10000 in
set_option maxHeartbeats 2000000 in
theorem l1To16_any (l : List Int) (hl : l.length = 16) (g o c : Nat) (w : World) (hg : g < w.heap.size) (hc : ∀ j, j < 16 → w.cell? ⟨g, o + j, none⟩ = some (.int .u8 (l.getD j 0))) :
    Calls Tryd.prog 54 #[.slice (some ⟨g, o, none⟩) 16 c] w fun e w' => e = .returned (.agg (Iv .u8 l)) ∧ Below w.heap.size w w' := by
  have hzv : ∀ W, (zeroValue 45).run Tryd.prog W = .ok (.agg (Iv .u8 (zeroL 16))) W := (zero_of_info (n := 16) (by kernel_rfl)).1
  have hi16 : Hid (∀ l : List Int, l.length = 16 → (Tryd.prog.info? 45).map (·.size) = some (Iv .u8 l).size) := fun l hl => by rw [Iv_size, hl]; exact infoT16b
  have HC : Hid _ := hc
  clear hc
  obtain ⟨W, hW, g0, g1, hs, hb⟩ := alloc2 w (.cells (Iv .u8 (zeroL 16)) 45) (.cells (Iv .u8 (zeroL 16)) 45)
  have R1 : Hid _ := g1
  have R0 : Hid _ := g0
  have HB : Hid _ := hb
  clear g0 g1 hb
  go_enter Tryd.func54, Tryd.ntmps54
  go_wp2_with (refine wpList_put_row rfl 45 _ _ rfl (w.heap.size + 1) (Iv .u8 (zeroL 16)) rfl rfl _ _ R1.out (hi16.out _ (by simp [zeroL])) rfl (Iv_one _ _) ?_)
  intro w1 hP1
  have q1 := hP1.here
  have q0 := (hP1.far w.heap.size (by omega)).trans R0.out
  have qB := hP1.below _ _ HB.out (by omega)
  have qC : ∀ j, j < 16 → w1.cell? ⟨g, o + j, none⟩ = some (.int .u8 (l.getD j 0)) := fun j hj => (qB.cell (p := ⟨g, o + j, none⟩) hg).trans (HC.out j hj)
  clear hP1 R1 R0 HB hW HC
  have Z1 : Hid _ := q1
  have Z0 : Hid _ := q0
  have ZB : Hid _ := qB
  have ZC : Hid _ := qC
  clear q1 q0 qB qC
  go_wp2_with fail
  go_loopw [6] (fun i wr => ∃ k : Nat, k ≤ 16 ∧ i = .int .i64 k ∧ wr.heap[w.heap.size + 1]? = some (.cells (Iv .u8 (fillZ l 16 k)) 45) ∧ wr.heap[w.heap.size]? = some (.cells (Iv .u8 (zeroL 16)) 45) ∧ (∀ j, j < 16 → wr.cell? ⟨g, o + j, none⟩ = some (.int .u8 (l.getD j 0))) ∧ Below w.heap.size w wr) (fun i _ => 16 - (intOf i).toNat)
  case atStart => exact ⟨0, Nat.zero_le _, rfl, Z1.out, Z0.out, ZC.out, ZB.out⟩
  case round =>
    obtain ⟨k, hk, rfl, q1, q0, qL, qB⟩ := hrel
    by_cases hlt : k < 16
    · have cB := qL k hlt
      have cO : ∃ v, wr.cell? ⟨w.heap.size + 1, k, none⟩ = some v := by
        rw [cell_of_row _ _ _ _ _ _ q1]
        exact Iv_some _ _ _ (by rw [fillZ_length _ _ _ hl (by omega)]; omega)
      obtain ⟨v, hv⟩ := cO
      have fO : wr.frozen? ⟨w.heap.size + 1, k, none⟩ = false := frozen_of_row _ _ _ _ _ q1
      have hgd : l.getD k 0 = l[k] := by rw [List.getD_eq_getElem?_getD, List.getElem?_eq_getElem (by omega)]; rfl
      rw [hgd] at cB
      clear hgd
      have Q1 : Hid _ := q1
      have Q0 : Hid _ := q0
      have QL : Hid _ := qL
      have QB : Hid _ := qB
      clear q1 q0 qL qB Z1 Z0 ZB ZC
      go_wp2
      go_roundw
      case rel =>
        refine ⟨k + 1, by omega, by go_num, ?_, ?_, ?_, ?_⟩
        · rw [heap_setCell_same _ _ _ _ _ _ Q1.out, Iv_set]
          unfold fillZ
          exact congrArg (fun z => some (Obj.cells (Iv .u8 z) 45)) (set_fill l 16 k hl hlt 0)
        · rw [heap_setCell_other _ _ _ _ (by simp)]
          exact Q0.out
        · intro j hj
          rw [World.cell?_setCell_other _ _ _ _ (by intro e; cases e; omega)]
          exact QL.out j hj
        · exact QB.out.setCell (p := ⟨w.heap.size + 1, k, none⟩) (by show w.heap.size ≤ w.heap.size + 1; omega) _
      case measure => simp [intOf]; omega
    · obtain rfl : k = 16 := by omega
      rw [fillZ_end l 16 hl] at q1
      have G2 : Hid _ := q1
      have G1 : Hid _ := q0
      have GB : Hid _ := qB
      clear q1 q0 qL qB Z1 Z0 ZB ZC
      go_wp2_with (first
        | refine wpList_load_row rfl 45 _ rfl (w.heap.size + 1) rfl _ (Iv .u8 l) _ _ G2.out Tryd.underlying45 rfl (hi16.out l hl) ?_
        | refine wpList_put_row rfl 45 _ _ rfl w.heap.size (Iv .u8 l) rfl rfl _ _ G1.out (hi16.out l hl) ?hs (Iv_one _ _) ?_)
      case hs => rw [Iv_size, Iv_size, hl]; rfl
      intro W9 hP9
      go_wp2
      exact bodyPost_ret (v := .agg (Iv .u8 l)) (results_cell_row rfl _ _ _ _ (Iv .u8 l) _ _ rfl hP9.here Tryd.underlying45 rfl (hi16.out l hl)) rfl ⟨rfl, hP9.below _ _ GB.out (Nat.le_refl _)⟩
end Go.Proofs.YtlbnmiinokkkgaaDoor
