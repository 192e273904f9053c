import Derived.Test.YtfipcjchjpihkaaDoorRows
import Derived.Test.YtfipcjchjpihkaaDoorMG03
import Derived.Test.YtfipcjchjpihkaaDoorMG01
import Derived.Test.YtfipcjchjpihkaaDoorMG06
import Derived.Deep.Quiet
import Derived.Test.YtfipcjchjpihkaaDoorLate
namespace Go.Proofs.YtfipcjchjpihkaaDoor
open Go.RowKit
set_option linter.unusedVariables false
theorem infoY8 : (Tryd.prog.info? 5).map (fun i => (i.zero, i.size, i.bytes)) = some (some (.int .u8 0), 1, 1) := by kernel_rfl
/-- Words as bytes, the least first. -/
def byteAt (ws : List Int) (i : Nat) : Int := nth0 ws (i / 4) / 256 ^ (i % 4) % 256
def bytesOf (ws : List Int) (n : Nat) : List Int := (List.range n).map (byteAt ws)
theorem bytesOf_length (ws : List Int) (n : Nat) : (bytesOf ws n).length = n := by simp [bytesOf]
theorem bytesOf_four (ws : List Int) (k : Nat) : bytesOf ws (4 * (k + 1)) = bytesOf ws (4 * k) ++ [nth0 ws k % 256] ++ [nth0 ws k / 256 % 256] ++ [nth0 ws k / 65536 % 256] ++ [nth0 ws k / 16777216 % 256] := by
  have e0 : byteAt ws (4 * k) = nth0 ws k % 256 := by unfold byteAt; rw [show 4 * k / 4 = k by omega, show 4 * k % 4 = 0 by omega]; simp
  have e1 : byteAt ws (4 * k + 1) = nth0 ws k / 256 % 256 := by unfold byteAt; rw [show (4 * k + 1) / 4 = k by omega, show (4 * k + 1) % 4 = 1 by omega]; simp
  have e2 : byteAt ws (4 * k + 2) = nth0 ws k / 65536 % 256 := by unfold byteAt; rw [show (4 * k + 2) / 4 = k by omega, show (4 * k + 2) % 4 = 2 by omega]; simp
  have e3 : byteAt ws (4 * k + 3) = nth0 ws k / 16777216 % 256 := by unfold byteAt; rw [show (4 * k + 3) / 4 = k by omega, show (4 * k + 3) % 4 = 3 by omega]; simp
  rw [← e0, ← e1, ← e2, ← e3]
  simp only [bytesOf, show 4 * (k + 1) = 4 * k + 1 + 1 + 1 + 1 by omega, List.range_succ, List.map_append, List.map_cons, List.map_nil]

set_option maxRecDepth 10000 in
set_option maxHeartbeats 4000000 in
theorem bytes_any (ws : List Int) (n : Nat) (hn : ws.length = n) (h32 : All32 ws) (hn2 : n ≤ 100000) (a : Option Addr) (cap : Nat) (w : World) (hr : RdK .u32 w a ws) :
    Calls Tryd.prog 48 #[.slice a n cap] w fun e w' => ∃ v, e = .returned v ∧ Own .u8 5 w.heap.size w' v (bytesOf ws (4 * n)) ∧ Below w.heap.size w w' := by
  go_enter Tryd.func48, Tryd.ntmps48
  go_wp2
  go_loopw [3, 10] (fun v i wr => ∃ k : Nat, k ≤ n ∧ i = .int .i64 k ∧ Own .u8 5 w.heap.size wr v (bytesOf ws (4 * k)) ∧ Below w.heap.size w wr) (fun _ i _ => n - (intOf i).toNat)
  case atStart =>
    exact ⟨0, Nat.zero_le _, rfl, Own.nil w (Nat.le_refl _), (Below.refl _ _).alloc (Nat.le_refl _) _⟩
  case round =>
    obtain ⟨k, hk, rfl, hown, hbel⟩ := hrel
    have HS : Hid (bytesOf ws (4 * (k + 1)) = bytesOf ws (4 * k) ++ [nth0 ws k % 256] ++ [nth0 ws k / 256 % 256] ++ [nth0 ws k / 65536 % 256] ++ [nth0 ws k / 16777216 % 256]) := bytesOf_four ws k
    have HL : Hid ((bytesOf ws (4 * k)).length = 4 * k) := bytesOf_length _ _
    have hsz := hbel.size
    by_cases hlt : k < n
    · obtain ⟨WX, rfl⟩ : ∃ X, X = wr := ⟨_, rfl⟩
      obtain ⟨b, o, rfl, h2⟩ := hr k (by omega)
      have hc : WX.cell? ⟨b, o + k, none⟩ = some (.int .u32 (nth0 ws k)) := (hbel.cell (p := ⟨b, o + k, none⟩) (World.block_lt_of_cell? _ _ h2)).trans h2
      have hx : W32 (nth0 ws k) := h32 k
      generalize nth0 ws k = x at *
      generalize bytesOf ws (4 * k) = L at *
      obtain ⟨x0, x1⟩ := hx
      clear hr h2
      go_wp2
      refine wp_loop_rounds 5 ?_
      rw [rounds_succ]
      go_wp2_with (at_builtin; refine push_law .u8 46 5 1 Tryd.underlying46 infoY8 (by decide) rfl (.tmp 18) (.tmp 22) rfl w.heap.size w WX _ (L) _ rfl rfl hown hbel hsz (by have := HL.out; simp; omega) ?_; intro v0 w0 hown0 hbel0 _ _)
      have hown0' := own_last hown0 (y := x % 256) (by omega)
      have hsz0 := hbel0.size
      rw [rounds_succ]
      go_wp2_with (at_builtin; refine push_law .u8 46 5 1 Tryd.underlying46 infoY8 (by decide) rfl (.tmp 18) (.tmp 22) rfl w.heap.size w w0 _ (L ++ [x % 256]) _ rfl rfl hown0' hbel0 hsz0 (by have := HL.out; simp; omega) ?_; intro v1 w1 hown1 hbel1 _ _)
      have hown1' := own_last hown1 (y := x / 256 % 256) (by omega)
      have hsz1 := hbel1.size
      rw [rounds_succ]
      go_wp2_with (at_builtin; refine push_law .u8 46 5 1 Tryd.underlying46 infoY8 (by decide) rfl (.tmp 18) (.tmp 22) rfl w.heap.size w w1 _ (L ++ [x % 256] ++ [x / 256 % 256]) _ rfl rfl hown1' hbel1 hsz1 (by have := HL.out; simp; omega) ?_; intro v2 w2 hown2 hbel2 _ _)
      have hown2' := own_last hown2 (y := x / 65536 % 256) (by omega)
      have hsz2 := hbel2.size
      rw [rounds_succ]
      go_wp2_with (at_builtin; refine push_law .u8 46 5 1 Tryd.underlying46 infoY8 (by decide) rfl (.tmp 18) (.tmp 22) rfl w.heap.size w w2 _ (L ++ [x % 256] ++ [x / 256 % 256] ++ [x / 65536 % 256]) _ rfl rfl hown2' hbel2 hsz2 (by have := HL.out; simp; omega) ?_; intro v3 w3 hown3 hbel3 _ _)
      have hown3' := own_last hown3 (y := x / 16777216 % 256) (by omega)
      have hsz3 := hbel3.size
      rw [rounds_succ]
      go_wp2_with fail
      go_roundw
      case rel => exact ⟨k + 1, by omega, by go_num, by rw [HS.out]; exact hown3', hbel3⟩
      case measure => simp [intOf]; omega
    · clear hr
      go_wp2
      go_ret
      obtain rfl : k = n := by omega
      exact ⟨_, rfl, hown, hbel⟩
end Go.Proofs.YtfipcjchjpihkaaDoor
namespace Go.Proofs.YtfipcjchjpihkaaDoor
open Go.RowKit
set_option linter.unusedVariables false

/-- 'putLittle(out, value)': out lies in a row of bytes. -/
theorem putLittle32_any (g off n cap : Nat) (te : TypeId) (l : List Int) (x : Int) (w : World)
    (hg : w.heap[g]? = some (.cells (Iv .u8 l) te)) (hl : off + n ≤ l.length) (hn : n ≤ 4) (hx : 0 ≤ x) :
    Calls Tryd.prog 57 #[.slice (some ⟨g, off, none⟩) n cap, .int .u32 x] w fun e w' =>
      e = .returned (.tuple #[]) ∧ w' = w.setRow g (Iv .u8 (putFrom l off (fun i => x / 256 ^ i % 256) n)) := by
  go_enter Tryd.func57, Tryd.ntmps57
  go_wp2
  go_loopw [7] (fun i wr => ∃ k : Nat, k ≤ n ∧ i = .int .i64 k ∧ wr = w.setRow g (Iv .u8 (putFrom l off (fun i => x / 256 ^ i % 256) k))) (fun i _ => n - (intOf i).toNat)
  case atStart =>
    refine ⟨0, Nat.zero_le _, rfl, ?_⟩
    rw [putFrom_zero, setRow_self w g _ _ _ hg]
  case round =>
    obtain ⟨k, hk, rfl, rfl⟩ := hrel
    by_cases hlt : k < n
    · have ho : ∃ v, (w.setRow g (Iv .u8 (putFrom l off (fun i => x / 256 ^ i % 256) k))).cell? ⟨g, off + k, none⟩ = some v := by
        rw [cell_setRow_same _ _ _ _ _ _ _ hg]
        exact Iv_some _ _ _ (by rw [putFrom_length _ _ _ _ (by omega)]; omega)
      obtain ⟨v, hv⟩ := ho
      have hf : (w.setRow g (Iv .u8 (putFrom l off (fun i => x / 256 ^ i % 256) k))).frozen? ⟨g, off + k, none⟩ = false := by rw [frozen_setRow]; exact frozen_of_row _ _ _ _ _ hg
      go_wp2
      go_roundw
      case rel => exact ⟨k + 1, by omega, by go_num, by rw [setCell_setRow, Iv_set, pow8, putFrom_step l off (fun i => x / 256 ^ i % 256) k (by omega)]⟩
      case measure => simp [intOf]; omega
    · obtain rfl : k = n := by omega
      go_wp2
      go_end0
      exact ⟨rfl, rfl⟩

end Go.Proofs.YtfipcjchjpihkaaDoor
/- An array of integers by value, indexed. Nothing of the program. -/
namespace Go.Proofs.YtfipcjchjpihkaaDoor
open Go.RowKit
set_option linter.unusedVariables false

theorem index_ints {P : Program} (t e : TypeId) (n : Nat) (k : IntKind) (l : List Int) (i : Nat) (ht : P.underlying t = some (.array n e)) (he : P.underlying e = some (.int k)) (hs : (P.info? e).map (·.size) = some 1) (hl : l.length = n) (hi : i < n) (w : World) :
    (Instr.index t (.agg (Iv k l)) (.int .i64 (i : Int))).run P w = .ok (.int k (l.getD i 0)) w := by
  obtain ⟨inf, hinf, hsz⟩ : ∃ inf, P.info? e = some inf ∧ inf.size = 1 := by
    cases h : P.info? e with
    | none => rw [h] at hs; cases hs
    | some inf => rw [h] at hs; exact ⟨inf, rfl, by simpa using hs⟩
  have hc := Iv_get k l i (by omega)
  have hg : l.getD i 0 = l[i]'(by omega) := by simp [show i < l.length by omega]
  rw [hg]
  simp [Instr.index, run_underlying ht, asIntOf, go_sem, hi, part, isAgg, run_underlying he, sizeOf, typeInfo, hinf, hsz, hc]
end Go.Proofs.YtfipcjchjpihkaaDoor
/- 's.finish()', 'blake', 'hashOf'. -/
namespace Go.Proofs.YtfipcjchjpihkaaDoor
open Go.RowKit
set_option linter.unusedVariables false
theorem zeroB32 : ∀ W, (zeroValue 24).run Tryd.prog W = .ok (.agg (Iv .u8 (zeroL 32))) W := fun W => by kernel_rfl
theorem infoBB32 : (Tryd.prog.info? 24).map (·.size) = some 32 := by kernel_rfl
theorem outRow_eq (ws : List Int) : putFrom (zeroL 32) 0 (byteAt ws) (4 * 8) = bytesOf ws 32 := by
  unfold putFrom bytesOf zeroL
  simp
theorem hsA_range {w : World} {g : Nat} {h : List Int} {t : Int} {b : List Int} {f : Int} {ty : TypeId} (hg : w.heap[g]? = some (.cells (hsA h t b f) ty)) (hh : h.length = 8) : w.rangeAt g 0 (h.map (Value.int .u32)) := by
  have e : ((HV h t b f).drop 0).take 8 = h.map (Value.int .u32) := by
    unfold HV
    rw [List.drop_zero, List.take_append_of_le_length (by simp; omega), List.take_of_length_le (by simp; omega)]
  rw [← e]
  exact range_row hg 0 8
set_option maxRecDepth 10000 in
set_option maxHeartbeats 1000000 in
theorem finish_any (h b : List Int) (t f : Nat) (w : World) (hh : h.length = 8) (hb : b.length = 64) (h32 : All32 h) (hbb : Bytes (b.take f)) (hf : f ≤ 64) (ht63 : t + f < 9223372036854775808) (ht : Tabs w) (Wf : List Int) (HW : Hid (squeeze h (wordsB (b.take f)) (t + f) true = Wf)) (hWl : Wf.length = 8) (hW32 : All32 Wf) (Bo : List Int) (HBO : Hid (∀ x, bytesOf Wf 32 = x → x = Bo)) (hBo : Bo.length = 32) :
    Calls Tryd.prog 64 #[.agg (hsA h t b f)] w fun e w' => e = .returned (.agg (Iv .u8 Bo)) ∧ Below w.heap.size w w' := by
  have hzb := zeroB32
  have hiS : Hid (∀ (h' : List Int) (t' f' : Int) (b' : List Int), h'.length = 8 → b'.length = 64 → (Tryd.prog.info? 90).map (·.size) = some (hsA h' t' b' f').size) := fun h' t' f' b' hh' hb' => by rw [hsA_size h' t' b' f' hh' hb']; exact infoHS
  have HT : Hid _ := ht
  clear ht
  obtain ⟨W, hW, g0, g1, hs, hBW⟩ := alloc2 w (.cells (hsA h t b f) 90) (.cells (Iv .u8 (zeroL 32)) 24)
  have G0 : Hid _ := g0
  have G1 : Hid _ := g1
  have HBW : Hid _ := hBW
  clear g0 g1 hBW
  go_enter Tryd.func64, Tryd.ntmps64
  go_wp2_with (refine wpList_load_row rfl 90 _ rfl w.heap.size rfl _ (hsA h t b f) _ _ G0.out Tryd.underlying90 rfl (hiS.out _ _ _ _ hh hb) ?_)
  clear hW
  refine (compress_var h b t f true W hh hb h32 hbb hf ht63 (HT.out.later HBW.out (Nat.le_refl _)) Wf HW hWl).mono ?_
  obtain ⟨t2, ht2⟩ : ∃ x, x = t + f := ⟨_, rfl⟩
  rw [← ht2]
  clear ht2
  rintro e w1 ⟨rfl, hb1⟩
  have K0 : Hid _ := (hb1.block w.heap.size (by omega)).trans G0.out
  have K1 : Hid _ := (hb1.block (w.heap.size + 1) (by omega)).trans G1.out
  have KB : Hid (Below w.heap.size w w1) := HBW.out.trans (hb1.mono (by omega))
  have hs1 : w.heap.size + 1 < w1.heap.size := by have := hb1.size; omega
  clear hb1 G0 G1 HBW
  go_wp2_with (refine wpList_put_row rfl 90 _ _ rfl w.heap.size (hsA Wf t2 b 0) rfl rfl _ _ K0.out (hiS.out _ _ _ _ hWl hb) ?hs (hsA_one _ _ _ _) ?_)
  case hs => rw [hsA_size _ _ _ _ hh hb, hsA_size _ _ _ _ hWl hb]
  intro w2 hP2
  have HL0 : Hid ((w2.alloc (.cells (Iv .u8 (zeroL 32)) 24)).rangeAt w.heap.size 0 (Wf.map (Value.int .u32))) := hsA_range ((heap_alloc_old w2 (.cells (Iv .u8 (zeroL 32)) 24) (by have := hP2.size; omega)).trans hP2.here) hWl
  have HL1 : Hid ((w2.alloc (.cells (Iv .u8 (zeroL 32)) 24)).heap[w.heap.size + 1]? = some (.cells (Iv .u8 (zeroL 32)) 24)) := (heap_alloc_old w2 (.cells (Iv .u8 (zeroL 32)) 24) (by have := hP2.size; omega)).trans ((hP2.far _ (by omega)).trans K1.out)
  have HL2 : Hid ((w2.alloc (.cells (Iv .u8 (zeroL 32)) 24)).heap[w2.heap.size]? = some (.cells (Iv .u8 (zeroL 32)) 24)) := heap_alloc_new _ _
  have HLB : Hid (Below w.heap.size w (w2.alloc (.cells (Iv .u8 (zeroL 32)) 24))) := (hP2.below _ _ KB.out (Nat.le_refl _)).alloc (by have := hP2.size; omega) _
  have hs2 : w.heap.size + 1 < w2.heap.size := by have := hP2.size; omega
  clear hP2 K0 K1 KB
  have hi8 : Hid ((Tryd.prog.info? 81).map (·.size) = some (Wf.map (Value.int .u32)).length) := by show _ = _; rw [List.length_map, hWl]; exact infoBW8
  go_wp2_with (refine wpList_load_mid rfl 81 _ rfl w.heap.size 0 rfl (Wf.map (Value.int .u32)) _ HL0.out Tryd.underlying81 rfl hi8.out ?_)
  generalize w2.heap.size = go at *
  go_loopw [10] (fun i wr => ∃ k : Nat, k ≤ 8 ∧ i = .int .i64 k ∧ wr.heap[w.heap.size + 1]? = some (.cells (Iv .u8 (zeroL 32)) 24) ∧ wr.heap[go]? = some (.cells (Iv .u8 (putFrom (zeroL 32) 0 (byteAt Wf) (4 * k))) 24) ∧ Below w.heap.size w wr) (fun i _ => 8 - (intOf i).toNat)
  case atStart => exact ⟨0, by omega, rfl, HL1.out, by rw [Nat.mul_zero, putFrom_zero]; exact HL2.out, HLB.out⟩
  case round =>
    obtain ⟨k, hk, rfl, M1, M2, MB⟩ := hrel
    clear HL0 HL1 HL2 HLB
    by_cases hlt : k < 8
    · have hRk : ∀ wx, (Instr.index 81 (.agg (Wf.map (Value.int .u32)).toArray) (.int .i64 (k : Int))).run Tryd.prog wx = .ok (.int .u32 (nth0 Wf k)) wx := index_ints 81 22 8 .u32 Wf k Tryd.underlying81 Tryd.underlying22 (by kernel_rfl) hWl hlt
      have wR : W32 (nth0 Wf k) := hW32 k
      have HS : Hid (putFrom (putFrom (zeroL 32) 0 (byteAt Wf) (4 * k)) (4 * k) (fun i => nth0 Wf k / 256 ^ i % 256) 4 = putFrom (zeroL 32) 0 (byteAt Wf) (4 * (k + 1))) := by
        show _ = _
        rw [putFrom_join _ _ _ _ _ (by simp [zeroL]; omega), Nat.mul_add]
        intro i hi
        rw [byteAt, show (4 * k + i) / 4 = k by omega, show (4 * k + i) % 4 = i by omega]
      generalize nth0 Wf k = x at *
      obtain ⟨x0, x1⟩ := wR
      have hk1 : (k : Int) < 8 := by omega
      have s1 : (0 : Int) ≤ 4 * (k : Int) := by omega
      have s2 : 4 * (k : Int) ≤ 4 * (k : Int) + 4 := by omega
      have s3 : 4 * (k : Int) + 4 ≤ 32 := by omega
      have s4 : (0 : Int) ≤ 4 * (k : Int) + 4 := by omega
      have N1 : Hid _ := M1
      have N2 : Hid _ := M2
      have NB : Hid _ := MB
      clear M1 M2 MB
      go_wp2_with fail
      rw [show 4 * k + 4 - 4 * k = 4 by omega]
      refine (putLittle32_any go (4 * k) 4 _ 24 (putFrom (zeroL 32) 0 (byteAt Wf) (4 * k)) x wr N2.out (by rw [putFrom_length _ _ _ _ (by simp [zeroL]; omega)]; simp [zeroL]; omega) (by omega) (by omega)).mono ?_
      rintro e w6 ⟨rfl, hw6⟩
      rw [HS.out] at hw6
      have V1 : Hid (w6.heap[w.heap.size + 1]? = some (.cells (Iv .u8 (zeroL 32)) 24)) := by show _ = _; rw [hw6]; exact (setRow_far _ _ _ _ (by omega)).trans N1.out
      have V2 : Hid (w6.heap[go]? = some (.cells (Iv .u8 (putFrom (zeroL 32) 0 (byteAt Wf) (4 * (k + 1)))) 24)) := by show _ = _; rw [hw6]; exact setRow_heap _ _ _ _ _ _ N2.out
      have VB : Hid (Below w.heap.size w w6) := by show Below _ _ _; rw [hw6]; exact below_setRow NB.out _ (by omega) _
      clear hw6 N1 N2 NB HS
      go_wp2_with fail
      go_roundw
      case rel => exact ⟨k + 1, by omega, by go_num, V1.out, V2.out, VB.out⟩
      case measure => simp [intOf]; omega
    · obtain rfl : k = 8 := by omega
      rw [outRow_eq, HBO.out _ rfl] at M2
      have hi32 : Hid ((Tryd.prog.info? 24).map (·.size) = some (Iv .u8 Bo).size) := by show _ = _; rw [Iv_size, hBo]; exact infoBB32
      have N1 : Hid _ := M1
      have N2 : Hid _ := M2
      have NB : Hid _ := MB
      clear M1 M2 MB
      go_wp2_with (first
        | refine wpList_load_row rfl 24 _ rfl go rfl _ (Iv .u8 Bo) _ _ N2.out Tryd.underlying24 rfl hi32.out ?_
        | refine wpList_put_row rfl 24 _ _ rfl (w.heap.size + 1) (Iv .u8 Bo) rfl rfl _ _ N1.out hi32.out ?hs (Iv_one _ _) ?_)
      case hs => rw [Iv_size, Iv_size, hBo]; rfl
      intro W9 hP9
      go_wp2
      exact bodyPost_ret (v := .agg (Iv .u8 Bo)) (results_cell_row rfl _ _ _ _ (Iv .u8 Bo) _ _ rfl hP9.here Tryd.underlying24 rfl hi32.out) rfl ⟨rfl, hP9.below _ _ NB.out (by omega)⟩
/-- What the hash answers, of the start and all that is read. -/
def blakeB (h0 D : List Int) : List Int := bytesOf (finL h0 D) 32
theorem blakeB_length (h0 D : List Int) : (blakeB h0 D).length = 32 := bytesOf_length _ _
theorem finL_length (h0 D : List Int) : (finL h0 D).length = 8 := squeeze_length _ _ _ _
theorem finL_in (h0 D : List Int) : All32 (finL h0 D) := squeeze_in _ _ _ _
/-- 's.finish()' where s has read D. -/
theorem finish_read (h0 D h b : List Int) (k t fn : Nat) (htk : t = 64 * k) (s : HSt h0 D k fn h b) (hk : 0 < fn ∨ k = 0) (hh0 : h0.length = 8) (h032 : All32 h0) (hD : Bytes D) (hlen : D.length ≤ 1000000000000) (w : World) (ht : Tabs w) (Bo : List Int) (hBO : blakeB h0 D = Bo) :
    Calls Tryd.prog 64 #[.agg (hsA h t b fn)] w fun e w' => e = .returned (.agg (Iv .u8 Bo)) ∧ Below w.heap.size w w' :=
  finish_any h b t fn w (by rw [s.words]; exact stateN_length h0 _ hh0 k) s.blk (by rw [s.words]; exact stateN_in h032 _ k) (s.bytes hD) s.fill (by have := s.len; omega) ht (finL h0 D) (by rw [htk]; exact s.last hk) (finL_length _ _) (finL_in _ _) Bo (fun x hx => by rw [← hx]; exact hBO) (by rw [← hBO]; exact blakeB_length _ _)
end Go.Proofs.YtfipcjchjpihkaaDoor
/- Regions whose operations all yield one value in every world that keeps what was there: reads of rows, calls by contract. Nothing of the program. -/
namespace Go.Proofs.YtfipcjchjpihkaaDoor
open Go.RowKit
set_option linter.unusedVariables false
section
variable {P : Program} {ops : Array Oper} {C : World → Prop} {Q : Act → Prop} {a : Act} {o : Oper} {rest : List Oper}

theorem wpQuiet_wanted (hgd : o.guard = none) {v : Value} (h1 : ∀ w, C w → o.quietAt P a C w v) (h : wpQuiet P ops C Q rest (a.put o.dst v)) : wpQuiet P ops C Q (o :: rest) a := by
  unfold wpQuiet
  rw [if_pos (by simp [Region.wanted, hgd])]
  exact ⟨v, h1, h⟩
/-- A row read whole. -/
theorem wpQuiet_load_row (hgd : o.guard = none) (ty : TypeId) (x : Operand) (ho : o.op = .load ty x)
    (g : Nat) (hx : a.eval x = .pointer (some ⟨g, 0, none⟩)) (t : TypeId) (cs : Array Value) (fr : Nat × Nat) (d : TypeDesc) (hg : ∀ w, C w → w.heap[g]? = some (.cells cs t fr))
    (hu : P.underlying ty = some d) (hd : (match d with | .struct _ | .array _ _ => true | _ => false) = true) (hi : (P.info? ty).map (·.size) = some cs.size)
    (h : wpQuiet P ops C Q rest (a.put o.dst (.agg cs))) : wpQuiet P ops C Q (o :: rest) a := by
  refine wpQuiet_wanted hgd (v := .agg cs) (fun w hw => ?_) h
  have e : (execOp a.eval o).run P w = .ok (.value (.agg cs)) w := by
    unfold execOp
    simp only [ho, hx, Instr.loadAt, Instr.sureAddr, Sem.run_bind, Sem.run_pure, Result.andThen_ok, run_loadVar_row w g t ty cs fr d (hg w hw) hu hd hi]
  unfold Oper.quietAt
  rw [e]
  exact ⟨rfl, rfl⟩
/-- A call of a function of the program, by its contract. -/
theorem wpQuiet_call (hgd : o.guard = none) (f : Nat) (args : Array Value) (v : Value) (he : ∀ w, (execOp a.eval o).run P w = .ok (.enter f args) w)
    (hc : ∀ w, C w → Calls P f args w fun e w' => e = .returned v ∧ C w') (h : wpQuiet P ops C Q rest (a.put o.dst v)) : wpQuiet P ops C Q (o :: rest) a := by
  refine wpQuiet_wanted hgd (v := v) (fun w hw => ?_) h
  unfold Oper.quietAt
  rw [he w]
  exact ⟨rfl, hc w hw⟩
end
/-- A world in which what lay below B in W0 lies as it lay. -/
structure Bel (B : Nat) (W0 : World) where
  w : World
  bel : Below B W0 w
theorem wp_region_bel {P : Program} {id : Nat} {Q : Exit → Act → World → Prop} {a : Act} {w : World} {l : List Oper} (B : Nat) (W0 : World) (hm : P.follows .mixedOrders = true) (hB : Region.lexB .any l.toArray = true) (hw : Below B W0 w)
    (h : wpQuiet P l.toArray (fun w' => ∃ x : Bel B W0, w' = x.w) (fun a' => ∀ w', Below B W0 w' → Q .normal a' w') l a) : (Code.region id l.toArray true).wp P Q a w :=
  wp_region_quiet (C := fun w' => ∃ x : Bel B W0, w' = x.w) hm hB ⟨⟨_, below_drews hw 1⟩, rfl⟩ (by
    have := wpQuiet_post (R' := fun a' => ∀ w', (∃ x : Bel B W0, w' = x.w) → Q .normal a' w') (fun a' h' w' ⟨x, hx⟩ => by subst hx; exact h' _ x.bel) _ _ h
    simpa using this)
/-- A contract that keeps all that lay there, in the class. -/
theorem calls_bel {P : Program} {f : Nat} {args : Array Value} {v : Value} {W0 : World} {B : Nat} (x : Bel B W0) (hB : B ≤ W0.heap.size)
    (h : Calls P f args x.w fun e w' => e = .returned v ∧ Below x.w.heap.size x.w w') : Calls P f args x.w fun e w' => e = .returned v ∧ ∃ y : Bel B W0, w' = y.w :=
  h.mono fun e w' ⟨h1, h2⟩ => ⟨h1, ⟨w', x.bel.trans (h2.mono (Nat.le_trans hB x.bel.size))⟩, rfl⟩
end Go.Proofs.YtfipcjchjpihkaaDoor
