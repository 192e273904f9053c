/- FnWire: numbers, and equal structs compared. -/
import Derived.Test.YtppelebolgkghaaDoorPIRs
import Derived.Test.YtppelebolgkghaaDoorPIIs
import Derived.Test.YtppelebolgkghaaDoorWIIs
import Derived.Test.YtppelebolgkghaaDoorWRIs
import Derived.Test.YtppelebolgkghaaDoorDI
import Derived.Test.YtppelebolgkghaaDoorDRs
import Derived.Test.YtppelebolgkghaaDoorDD
import Derived.DeepKeys
namespace Go.Proofs.YtppelebolgkghaaDoor
open Go.RowKit
set_option linter.unusedVariables false
theorem word_back (r : Int) (h : 0 ≤ r ∧ r ≤ 4294967295) (z : List Int) (k : Int) : wordAt (partZ (wireB k r z) 4 4) 0 = r := by
  unfold wireB wordB partZ wordAt
  simp [List.getD_eq_getElem?_getD]
  omega
theorem wire_drop (k r : Int) (z : List Int) : (wireB k r z).drop 8 = z := by simp [wireB, wordB]
theorem wordB_bytes2 (r : Int) : Bytes (wordB r) := by
  intro i
  unfold wordB
  rw [List.getD_eq_getElem?_getD, List.getElem?_map]
  by_cases hi : i < 4
  · rw [List.getElem?_range hi]
    show 0 ≤ r / 256 ^ i % 256 ∧ r / 256 ^ i % 256 ≤ 255
    omega
  · rw [List.getElem?_eq_none (by simp; omega)]
    exact (show (0 : Int) ≤ 0 ∧ (0 : Int) ≤ 255 from ⟨by decide, by decide⟩)
theorem head4_byt (k : Int) (hk : 0 ≤ k ∧ k ≤ 255) : Bytes [k, 0, 0, 0] := by
  intro i
  match i with
  | 0 => exact hk
  | 1 => exact (show (0 : Int) ≤ 0 ∧ (0 : Int) ≤ 255 from ⟨by decide, by decide⟩)
  | 2 => exact (show (0 : Int) ≤ 0 ∧ (0 : Int) ≤ 255 from ⟨by decide, by decide⟩)
  | 3 => exact (show (0 : Int) ≤ 0 ∧ (0 : Int) ≤ 255 from ⟨by decide, by decide⟩)
  | i + 4 => simp
theorem wireB_byt (k r : Int) (hk : 0 ≤ k ∧ k ≤ 255) (z : List Int) (hz : Bytes z) : Bytes (wireB k r z) := bytes_append (head4_byt k hk) (bytes_append (wordB_bytes2 r) hz)
theorem wire_is (k r : Int) (z : List Int) (N : Nat) (hz : z.length + 8 = N) : isWire (wireB k r z) N k = true := by
  unfold isWire
  rw [wireB_length, decide_eq_true hz]
  simp [wireB, headB]
theorem raw_is (k : Int) (l : List Int) (N : Nat) (hl : l.length + 4 = N) : isWire ([k, 0, 0, 0] ++ l) N k = true := by
  unfold isWire
  have h1 : ([k, 0, 0, 0] ++ l).length = N := by simp; omega
  rw [decide_eq_true h1]
  simp [headB]
theorem raw_word (k : Int) (l : List Int) (hl : 4 ≤ l.length) (hb : Bytes l) : 0 ≤ wordAt (partZ ([k, 0, 0, 0] ++ l) 4 4) 0 ∧ wordAt (partZ ([k, 0, 0, 0] ++ l) 4 4) 0 ≤ 4294967295 := by
  have h := word_in (zs := partZ ([k, 0, 0, 0] ++ l) 4 4) (by simpa [partZ] using bytes_take hb 4) 0
  omega
/-- What was read is written back. -/
theorem raw_back (k : Int) (l : List Int) (hl : 4 ≤ l.length) (hb : Bytes l) : wireB k (wordAt (partZ ([k, 0, 0, 0] ++ l) 4 4) 0) (([k, 0, 0, 0] ++ l).drop 8) = [k, 0, 0, 0] ++ l := by
  obtain ⟨a, b, c, d, r, rfl⟩ : ∃ a b c d r, l = a :: b :: c :: d :: r := by
    match l, hl with
    | a :: b :: c :: d :: r, _ => exact ⟨a, b, c, d, r, rfl⟩
  have h0 := hb 0
  have h1 := hb 1
  have h2 := hb 2
  have h3 := hb 3
  simp only [List.getD_cons_zero, List.getD_cons_succ] at h0 h1 h2 h3
  have e : wordAt (partZ ([k, 0, 0, 0] ++ (a :: b :: c :: d :: r)) 4 4) 0 = a + 256 * b + 65536 * c + 16777216 * d := by
    unfold partZ wordAt
    simp [List.getD_eq_getElem?_getD]
  rw [e]
  have e2 : ([k, 0, 0, 0] ++ (a :: b :: c :: d :: r)).drop 8 = r := rfl
  rw [e2]
  have e3 : ∀ x : Int, wordB x = [x / 256 ^ 0 % 256, x / 256 ^ 1 % 256, x / 256 ^ 2 % 256, x / 256 ^ 3 % 256] := fun x => rfl
  unfold wireB
  rw [e3]
  have q0 : (a + 256 * b + 65536 * c + 16777216 * d) / 256 ^ 0 % 256 = a := by omega
  have q1 : (a + 256 * b + 65536 * c + 16777216 * d) / 256 ^ 1 % 256 = b := by omega
  have q2 : (a + 256 * b + 65536 * c + 16777216 * d) / 256 ^ 2 % 256 = c := by omega
  have q3 : (a + 256 * b + 65536 * c + 16777216 * d) / 256 ^ 3 % 256 = d := by omega
  rw [q0, q1, q2, q3]
  rfl
theorem xor_ne : ∀ x y : Fin 256, y.val ≠ 0 → bits .xor .u8 (x.val : Int) (y.val : Int) ≠ (x.val : Int) ∧ 0 ≤ bits .xor .u8 (x.val : Int) (y.val : Int) ∧ bits .xor .u8 (x.val : Int) (y.val : Int) ≤ 255 := by
  intro x y hy
  have h := u8_xor x.val y.val (by omega) (by omega) (by omega) (by omega)
  rw [h]
  have hx : (x.val ^^^ y.val) < 2 ^ 8 := Nat.xor_lt_two_pow (n := 8) x.isLt y.isLt
  simp only [Int.toNat_natCast]
  refine ⟨fun e => ?_, by omega, by omega⟩
  have e2 : x.val ^^^ y.val = x.val := by omega
  have e3 : x.val ^^^ (x.val ^^^ y.val) = x.val ^^^ x.val := by rw [e2]
  rw [← Nat.xor_assoc, Nat.xor_self, Nat.zero_xor] at e3
  exact hy e3
/-- A changed head. -/
theorem changed_no (k : Int) (l : List Int) (N : Nat) (i : Nat) (hi : i < 4) (v : Int) (hv : v ≠ ([k, 0, 0, 0] ++ l).getD i 0) : isWire (([k, 0, 0, 0] ++ l).set i v) N k = false := by
  unfold isWire
  have h4 : i = 0 ∨ i = 1 ∨ i = 2 ∨ i = 3 := by omega
  rcases h4 with rfl | rfl | rfl | rfl <;> simp [headB] at hv ⊢ <;> omega
theorem mapM_some {α β : Type} (f : α → Option β) : ∀ xs : List α, (∀ x ∈ xs, ∃ y, f x = some y) → ∃ ys, xs.mapM f = some ys
  | [], _ => ⟨[], rfl⟩
  | x :: xs, h => by
    obtain ⟨y, hy⟩ := h x List.mem_cons_self
    obtain ⟨ys, hys⟩ := mapM_some f xs (fun z hz => h z (List.mem_cons_of_mem _ hz))
    exact ⟨y :: ys, by rw [List.mapM_cons, hy, hys]; rfl⟩
theorem mapM_flat {α β : Type} (f : α → Option (List β)) (xs : List α) (h : ∀ x ∈ xs, ∃ y, f x = some y) : ∃ ys, (xs.mapM f).map List.flatten = some ys := by
  obtain ⟨ys, hys⟩ := mapM_some f xs h
  exact ⟨ys.flatten, by rw [hys]; rfl⟩
theorem lits_bytes (d : Nat) (t : TypeId) (n : Nat) (hu : Tryd.prog.underlying t = some (.array n 5)) (hc : Tryd.prog.cellsOf t = n) (l : List Int) (hl : l.length = n) (hb : Bytes l) : ∃ x, Tryd.prog.keyLits (d + 2) t (l.map (Value.int .u8)) = some x := by
  have h1 : Tryd.prog.cellsOf 5 = 1 := by kernel_rfl
  unfold Program.keyLits
  rw [hu]
  simp only [List.length_map, hl, hc, if_true, h1, Nat.mul_one]
  obtain ⟨ys, hys⟩ := mapM_some (fun i => Tryd.prog.keyLits (d + 1) 5 (((l.map (Value.int .u8)).drop i).take 1)) (List.range n) (fun i hi => by
    have hi' : i < l.length := by rw [hl]; exact List.mem_range.1 hi
    have e : ((l.map (Value.int .u8)).drop i).take 1 = [Value.int .u8 (l.getD i 0)] := by
      rw [List.drop_eq_getElem_cons (by simpa using hi')]
      simp [List.getD_eq_getElem?_getD, hi']
    have hw := hb i
    refine ⟨[.int .u8 (l.getD i 0)], ?_⟩
    simp only [e]
    unfold Program.keyLits
    rw [Tryd.underlying5]
    have hwf : (Lit.int .u8 (l.getD i 0)).wf = true := by
      have e1 : IntKind.u8.min = 0 := by decide
      have e2 : IntKind.u8.max = 255 := by decide
      generalize l.getD i 0 = y at hw
      simp [Lit.wf, e1, e2]
      omega
    simp only [hwf, and_self, if_true])
  exact ⟨ys.flatten, by rw [hys]; rfl⟩
theorem lits_word (d : Nat) (r : Int) (hr : 0 ≤ r ∧ r ≤ 4294967295) : ∃ x, Tryd.prog.keyLits (d + 1) 25 [.int .u32 r] = some x := by
  refine ⟨[.int .u32 r], ?_⟩
  unfold Program.keyLits
  rw [Tryd.underlying25]
  have hwf : (Lit.int .u32 r).wf = true := by
    have e1 : IntKind.u32.min = 0 := by decide
    have e2 : IntKind.u32.max = 4294967295 := by decide
    simp [Lit.wf, e1, e2]
    omega
  simp only [hwf, and_self, if_true]
theorem lits_part (d : Nat) (t : TypeId) (n o : Nat) (hu : Tryd.prog.underlying t = some (.array n 5)) (hc : Tryd.prog.cellsOf t = n) (r : Int) (z : List Int) (h : o + n ≤ z.length) (hb : Bytes z) : ∃ x, Tryd.prog.keyLits (d + 2) t (((WL r z).drop (o + 1)).take (Tryd.prog.cellsOf t)) = some x := by
  rw [hc, WL_mid]
  exact lits_bytes d t n hu hc _ (by simp; omega) (bytes_take (bytes_drop hb o) n)
set_option maxRecDepth 100000 in
theorem lits_ini (r : Int) (hr : 0 ≤ r ∧ r ≤ 4294967295) (z : List Int) (hz : z.length = 140) (hb : Bytes z) : ∃ x, Tryd.prog.keyLits 4 31 (WL r z) = some x := by
  have hl : (WL r z).length = Tryd.prog.cellsOf 31 := by rw [WL_length, hz]; kernel_rfl
  unfold Program.keyLits
  rw [Tryd.underlying31]
  simp only
  rw [if_pos ⟨hl, by kernel_rfl⟩]
  refine mapM_flat _ _ (fun f hf => ?_)
  simp only [List.mem_cons, List.not_mem_nil, or_false] at hf
  rcases hf with rfl | rfl | rfl | rfl | rfl | rfl
  · exact lits_word 2 r hr
  · exact lits_part 1 26 32 0 Tryd.underlying26 (by kernel_rfl) r z (by omega) hb
  · exact lits_part 1 27 48 32 Tryd.underlying27 (by kernel_rfl) r z (by omega) hb
  · exact lits_part 1 28 28 80 Tryd.underlying28 (by kernel_rfl) r z (by omega) hb
  · exact lits_part 1 29 16 108 Tryd.underlying29 (by kernel_rfl) r z (by omega) hb
  · exact lits_part 1 29 16 124 Tryd.underlying29 (by kernel_rfl) r z (by omega) hb
theorem eqIni (r : Int) (hr : 0 ≤ r ∧ r ≤ 4294967295) (z : List Int) (hz : z.length = 140) (hb : Bytes z) (w : World) : (Op.equalIn 10000 31 (.agg (WL r z).toArray) (.agg (WL r z).toArray)).run Tryd.prog w = .ok true w := by
  have hk : Tryd.prog.keyTypeAt 4 31 = true := by kernel_rfl
  obtain ⟨x, hx⟩ := lits_ini r hr z hz hb
  have hf : (Value.agg (WL r z).toArray).formed Tryd.prog 31 = true := by
    have hc : Tryd.prog.cellsOf 31 = 141 := by kernel_rfl
    unfold Value.formed
    rw [Tryd.underlying31]
    simp only [WL_size, hz, hc]
    rfl
  have hx' : Tryd.prog.keyLits 4 31 (Value.agg (WL r z).toArray).cells.toList = some x := hx
  obtain ⟨b, h1, h2⟩ := run_equalIn_deep (P := Tryd.prog) 9996 4 31 hk w 4 4 _ _ _ _ hf hf hx' hx'
  rw [h2.2 rfl] at h1
  exact h1
end Go.Proofs.YtppelebolgkghaaDoor
