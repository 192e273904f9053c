import Derived.Test.YtlddfjpoaeebeaaDoorBBZ
import Derived.Test.YtlddfjpoaeebeaaDoorMH03
import Derived.Test.YtlddfjpoaeebeaaDoorRows
import Derived.Test.YtlddfjpoaeebeaaDoorCha
import Derived.Test.YtlddfjpoaeebeaaDoorBase
import Derived.Test.YtlddfjpoaeebeaaDoorNum
/- 'startHash(size, key)'. -/
namespace Go.Proofs.YtlddfjpoaeebeaaDoor
open Go.RowKit
set_option linter.unusedVariables false
/-- What a key makes of the first block. -/
def keyBlock (K : List Int) : List Int := if K.length = 0 then [] else K ++ List.replicate (64 - K.length) 0
theorem zeroB64 : ∀ W, (zeroValue 62).run Tryd.prog W = .ok (.agg (Iv .u8 (zeroL 64))) W := fun W => by kernel_rfl
theorem builtHS : Tryd.prog.built 64 [(0, .agg (Iv .u32 ivL))] = some (hsA ivL 0 (zeroL 64) 0) := by kernel_rfl
theorem wpList_build_to {P : Program} {ops : Array Oper} {rest : List Oper} {o : Oper} {a : Act} {w : World} {Q : Exit → Act → World → Prop} (hg : o.guard = none) (t : TypeId) (parts : Array (Nat × Operand)) (ho : o.op = .build t parts) (cs : Array Value)
    (hf : P.built t (parts.map fun (i, x) => (i, a.eval x)).toList = some cs) (h : wpList P ops Q rest (a.put o.dst (.agg cs)) w) : wpList P ops Q (o :: rest) a w :=
  wpList_build hg t parts ho (by rw [hf]; rfl) (by rw [hf]; exact h)
theorem Tabs.ivRange {w : World} (h : Tabs w) : w.rangeAt 0 0 (ivL.map (Value.int .u32)) := by
  intro j v hj
  have hj8 : j < 8 := by have := (List.getElem?_eq_some_iff.1 hj).1; simpa [ivL] using this
  rw [Nat.zero_add, h.iv j hj8, ← hj]
  simp [nth0, List.getD_eq_getElem?_getD, List.getElem?_eq_getElem (show j < ivL.length from hj8)]
set_option maxRecDepth 10000 in
set_option maxHeartbeats 1000000 in
theorem startHash_nil (n kl : Nat) (HK : Hid (kl = 0)) (hkl : kl ≤ 64) (hn : n ≤ 64) (a : Option Addr) (cap : Nat) (w : World) (ht : Tabs w) (bgl : List Int) (HBL : Hid (beginL n kl = bgl)) :
    Calls Tryd.prog 42 #[.int .i64 n, .slice a kl cap] w fun e w' => e = .returned (.agg (hsA bgl 0 (zeroL 64) 0)) ∧ Below w.heap.size w w' := by
  have hk0 : (0 < kl) = False := by have := HK.out; simp; omega
  have hzv := zeroHS
  have hzb := zeroB64
  have HT : Hid _ := ht
  clear ht
  have hiS : Hid (∀ (h' : List Int) (t' f' : Int) (b' : List Int), h'.length = 8 → b'.length = 64 → (Tryd.prog.info? 64).map (·.size) = some (hsA h' t' b' f').size) := fun h' t' f' b' hh' hb' => by rw [hsA_size h' t' b' f' hh' hb']; exact infoHS
  have HR : Hid ((w.alloc (.cells (hsA (zeroL 8) 0 (zeroL 64) 0) 64)).rangeAt 0 0 (ivL.map (Value.int .u32))) := (HT.out.later ((Below.refl w.heap.size w).alloc (Nat.le_refl _) _) (Nat.le_refl _)).ivRange
  obtain ⟨W, hW, g0, g1, hs, hBW⟩ := alloc2 w (.cells (hsA (zeroL 8) 0 (zeroL 64) 0) 64) (.cells (hsA (zeroL 8) 0 (zeroL 64) 0) 64)
  have G0 : Hid _ := g0
  have G1 : Hid _ := g1
  have HBW : Hid _ := hBW
  clear g0 g1 hBW
  go_enter Tryd.func42, Tryd.ntmps42
  go_wp2_with (first
    | refine wpList_load_mid rfl 56 _ rfl 0 0 rfl (ivL.map (Value.int .u32)) _ HR.out Tryd.underlying56 rfl infoBW8 ?_
    | refine wpList_build_to rfl 64 _ rfl (hsA ivL 0 (zeroL 64) 0) (by simp only [List.map_toArray, List.map_cons, List.map_nil]; exact builtHS) ?_
    | refine wpList_put_row rfl 64 _ _ rfl (w.heap.size + 1) (hsA ivL 0 (zeroL 64) 0) rfl rfl _ _ G1.out (hiS.out _ _ _ _ rfl rfl) rfl (hsA_one _ _ _ _) ?_)
  intro w1 hP1
  have R1 := hP1.here
  have R0 := (hP1.far w.heap.size (by omega)).trans G0.out
  have RB : Hid (Below w.heap.size w w1) := hP1.below _ _ HBW.out (by omega)
  have hs1 : w1.heap.size = w.heap.size + 1 + 1 := by rw [hP1.size]; exact hs
  clear hP1 G0 G1 HBW hW HR hs
  obtain ⟨k0, e0⟩ : ∃ x : Int, x = 1779033703 := ⟨_, rfl⟩
  have c0 : w1.cell? ⟨w.heap.size + 1, 0, none⟩ = some (.int .u32 k0) := by rw [e0, cell_of_row _ _ _ _ _ _ R1]; exact hsA_word ivL 0 (zeroL 64) 0 rfl 0 (by decide)
  have f0 : w1.frozen? ⟨w.heap.size + 1, 0, none⟩ = false := frozen_of_row _ _ _ _ _ R1
  have HBG : Hid (∀ x, x = xr k0 (xr (xr 16842752 ((kl : Int) * 256)) n) → hsA (ivL.set 0 x) 0 (zeroL 64) 0 = hsA (beginL n kl) 0 (zeroL 64) 0) := fun x hx => by
    rw [hx, e0]
    unfold beginL
    rw [Int.natCast_mul]
    rfl
  have hbl := beginL_length n kl
  have hb32 : Hid (All32 (beginL n kl)) := beginL_in n kl
  have HROW : Hid (∀ x, x = xr k0 (xr (xr 16842752 ((kl : Int) * 256)) n) → (w1.setCell ⟨w.heap.size + 1, 0, none⟩ (.int .u32 x)).heap[w.heap.size + 1]? = some (.cells (hsA (beginL n kl) 0 (zeroL 64) 0) 64)) := fun x hx => by
    rw [← HBG.out x hx, ← hsA_setWord ivL 0 (zeroL 64) 0 rfl 0 (by decide)]
    exact heap_setCell_same _ _ _ _ _ _ R1
  have HRES : Hid (∀ x, (w1.setCell ⟨w.heap.size + 1, 0, none⟩ (.int .u32 x)).heap[w.heap.size]? = some (.cells (hsA (zeroL 8) 0 (zeroL 64) 0) 64)) := fun x => (heap_setCell_other _ _ _ _ (by simp)).trans R0
  have HBEL : Hid (∀ x, Below w.heap.size w (w1.setCell ⟨w.heap.size + 1, 0, none⟩ (.int .u32 x))) := fun x => Below.setCell RB.out (by simp) _
  clear R0 R1 e0 HBG RB
  rw [HBL.out] at HROW hbl hb32
  clear HBL
  go_wp2_with (first
    | refine wpList_load_row rfl 64 _ rfl (w.heap.size + 1) rfl _ (hsA bgl 0 (zeroL 64) 0) _ _ (HROW.out _ rfl) Tryd.underlying64 rfl (hiS.out _ _ _ _ hbl rfl) ?_
    | refine wpList_put_row rfl 64 _ _ rfl w.heap.size (hsA bgl 0 (zeroL 64) 0) rfl rfl _ _ (HRES.out _) (hiS.out _ _ _ _ hbl rfl) ?hs (hsA_one _ _ _ _) ?_)
  case hs => rw [hsA_size _ _ _ _ hbl rfl]; rfl
  intro W9 hP9
  go_wp2
  exact bodyPost_ret (v := .agg (hsA bgl 0 (zeroL 64) 0)) (results_cell_row rfl _ _ _ _ (hsA bgl 0 (zeroL 64) 0) _ _ rfl hP9.here Tryd.underlying64 rfl (hiS.out _ _ _ _ hbl rfl)) rfl ⟨rfl, hP9.below _ _ (HBEL.out _) (Nat.le_refl _)⟩
end Go.Proofs.YtlddfjpoaeebeaaDoor
/- Slices of the call's own memory inside a region that draws its order. Nothing of the program. -/
namespace Go.Proofs.YtlddfjpoaeebeaaDoor
open Go.RowKit
set_option linter.unusedVariables false

/-- 'append(s, x...)' at a step of a region that draws. -/
theorem step_extend {P : Program} {ops : Array Oper} {o : Oper} {a : Act} {K : Act → World → Prop} {Q : Exit → Act → World → Prop} {E : Prop} (k : IntKind) (t e : TypeId) (bytes : Nat) (ht : P.underlying t = some (.slice e))
    (hinfo : (P.info? e).map (fun i => (i.zero, i.size, i.bytes)) = some (some (.int k 0), 1, bytes)) (hby : bytes ≤ 8) (hgd : o.guard = none) (s x : Operand) (ho : o.op = .call { callee := .builtin .append, args := #[s, x], argTypes := #[t, t] })
    (base : Nat) (w0 wr : World) (v : Value) (l : List Int) (b o' m c : Nat) (news : List Int) (hm : news.length = m) (hs : a.eval s = v) (hx : a.eval x = .slice (some ⟨b, o', none⟩) m c) (hown : Own k e base wr v l) (hbel : Below base w0 wr) (hbase : base ≤ wr.heap.size) (hlen : l.length + m ≤ 1000000000)
    (hnews : ∀ j, j < m → wr.cell? ⟨b, o' + j, none⟩ = some (.int k (news.getD j 0)))
    (h : ∀ v' w', Own k e base w' v' (l ++ news) → Below base w0 w' → wr.grownBy w' v.ownBlock → (v'.ownBlock = v.ownBlock ∨ v'.ownBlock = some wr.heap.size) → K (a.put o.dst v') w') : if Region.wanted o (yielded ops a.tmps) = true then Oper.wp P o a wr K Q else E := by
  have hw : Region.wanted o (yielded ops a.tmps) = true := by simp [Region.wanted, hgd]
  rw [if_pos hw]
  obtain ⟨i, hi, hz, hsz, hb⟩ := info_parts hinfo
  have g1 : ∀ j u, (iv k news)[j]? = some u → wr.cell? ((⟨b, o', none⟩ : Addr).add j) = some u := by
    intro j u hj
    have hj' : j < m := by
      have := (List.getElem?_eq_some_iff.1 hj).1
      rw [iv_length] at this
      omega
    have hadd : (⟨b, o', none⟩ : Addr).add j = ⟨b, o' + j, none⟩ := by unfold Addr.add; split <;> simp_all
    rw [hadd, hnews j hj']
    rw [iv_get] at hj
    rw [← hj]
    simp [show j < news.length by omega]
  have g2 : l.length + m ≤ maxLen := by unfold maxLen; omega
  have g3 : (l.length + m) * bytes ≤ 140737488355328 := by
    have : (l.length + m) * bytes ≤ (l.length + m) * 8 := Nat.mul_le_mul_left _ hby
    omega
  have g4 : (iv k news).length = m * 1 := by rw [iv_length]; omega
  obtain ⟨v', w', hr, h1, h2, _⟩ := run_append_own (P := P) wr base t o.type e i (.int k 0) 1 bytes ht hi hz hsz hb rfl (by decide) v l.length (iv k l) hown ⟨b, o', none⟩ m c (iv k news) g4 g1 (iv_one k news) g2 g3 hbase
  have h4 := append_block ht hi hz hsz hb rfl hown g4 g1 (iv_one k news) g2 g3 hr
  unfold Oper.wp execOp
  simp only [ho, resolve, invoke, builtin, Sem.run_bind, Sem.run_pure, Result.andThen_ok, List.map_toArray, List.map_cons, List.map_nil, hs, hx, hr]
  refine h v' w' ?_ (hbel.grown h2 hbase (fun g hg => (Own.lt hown g hg).1)) h2 h4
  unfold Own
  rw [iv_append, List.length_append, hm]
  exact h1
/-- '[]T{y}': a slice of one number in a new block. -/
theorem Own.one {k : IntKind} {e : TypeId} {base : Nat} (w : World) (y : Int) (hb : base ≤ w.heap.size) : Own k e base (w.alloc (.cells #[.int k y] e)) (.slice (some ⟨w.heap.size, 0, none⟩) 1 1) [y] := by
  refine ⟨by simp [iv_length], .inr ⟨w.heap.size, 1, #[.int k y], by simp, hb, heap_alloc_new w _, by simp, by unfold maxLen; omega, by simp, ?_⟩⟩
  simp [iv]
/-- What a slice of the call's own holds can be read. -/
theorem Own.rdk {k : IntKind} {e : TypeId} {base : Nat} {w : World} {v : Value} {l : List Int} (h : Own k e base w v l) : ∃ a n cap, v = .slice a n cap ∧ n = l.length ∧ RdK k w a l := by
  obtain ⟨rfl, rfl⟩ | ⟨g, cap, rfl, hg, hl, hc, hm, hcell, _⟩ := h.at
  · exact ⟨none, 0, 0, rfl, rfl, fun i hi => by simp at hi⟩
  · exact ⟨some ⟨g, 0, none⟩, l.length, cap, rfl, rfl, fun i hi => ⟨g, 0, rfl, by rw [Nat.zero_add]; exact hcell i hi⟩⟩
theorem own_last {k : IntKind} {e : TypeId} {base : Nat} {w : World} {v : Value} {l : List Int} {x y : Int} (h : Own k e base w v (l ++ [x])) (hxy : x = y) : Own k e base w v (l ++ [y]) := hxy ▸ h
end Go.Proofs.YtlddfjpoaeebeaaDoor
namespace Go.Proofs.YtlddfjpoaeebeaaDoor
open Go.RowKit
set_option linter.unusedVariables false
theorem infoY8 : (Tryd.prog.info? 5).map (fun i => (i.zero, i.size, i.bytes)) = some (some (.int .u8 0), 1, 1) := by kernel_rfl
/-- Words as bytes, the least first. -/
def byteAt (ws : List Int) (i : Nat) : Int := nth0 ws (i / 4) / 256 ^ (i % 4) % 256
def bytesOf (ws : List Int) (n : Nat) : List Int := (List.range n).map (byteAt ws)
theorem bytesOf_length (ws : List Int) (n : Nat) : (bytesOf ws n).length = n := by simp [bytesOf]
theorem bytesOf_four (ws : List Int) (k : Nat) : bytesOf ws (4 * (k + 1)) = bytesOf ws (4 * k) ++ [nth0 ws k % 256] ++ [nth0 ws k / 256 % 256] ++ [nth0 ws k / 65536 % 256] ++ [nth0 ws k / 16777216 % 256] := by
  have e0 : byteAt ws (4 * k) = nth0 ws k % 256 := by unfold byteAt; rw [show 4 * k / 4 = k by omega, show 4 * k % 4 = 0 by omega]; simp
  have e1 : byteAt ws (4 * k + 1) = nth0 ws k / 256 % 256 := by unfold byteAt; rw [show (4 * k + 1) / 4 = k by omega, show (4 * k + 1) % 4 = 1 by omega]; simp
  have e2 : byteAt ws (4 * k + 2) = nth0 ws k / 65536 % 256 := by unfold byteAt; rw [show (4 * k + 2) / 4 = k by omega, show (4 * k + 2) % 4 = 2 by omega]; simp
  have e3 : byteAt ws (4 * k + 3) = nth0 ws k / 16777216 % 256 := by unfold byteAt; rw [show (4 * k + 3) / 4 = k by omega, show (4 * k + 3) % 4 = 3 by omega]; simp
  rw [← e0, ← e1, ← e2, ← e3]
  simp only [bytesOf, show 4 * (k + 1) = 4 * k + 1 + 1 + 1 + 1 by omega, List.range_succ, List.map_append, List.map_cons, List.map_nil]

set_option maxRecDepth 10000 in
set_option maxHeartbeats 4000000 in
theorem bytes_any (ws : List Int) (n : Nat) (hn : ws.length = n) (h32 : All32 ws) (hn2 : n ≤ 100000) (a : Option Addr) (cap : Nat) (w : World) (hr : RdK .u32 w a ws) :
    Calls Tryd.prog 41 #[.slice a n cap] w fun e w' => ∃ v, e = .returned v ∧ Own .u8 5 w.heap.size w' v (bytesOf ws (4 * n)) ∧ Below w.heap.size w w' := by
  go_enter Tryd.func41, Tryd.ntmps41
  go_wp2
  go_loopw [3, 10] (fun v i wr => ∃ k : Nat, k ≤ n ∧ i = .int .i64 k ∧ Own .u8 5 w.heap.size wr v (bytesOf ws (4 * k)) ∧ Below w.heap.size w wr) (fun _ i _ => n - (intOf i).toNat)
  case atStart =>
    exact ⟨0, Nat.zero_le _, rfl, Own.nil w (Nat.le_refl _), (Below.refl _ _).alloc (Nat.le_refl _) _⟩
  case round =>
    obtain ⟨k, hk, rfl, hown, hbel⟩ := hrel
    have HS : Hid (bytesOf ws (4 * (k + 1)) = bytesOf ws (4 * k) ++ [nth0 ws k % 256] ++ [nth0 ws k / 256 % 256] ++ [nth0 ws k / 65536 % 256] ++ [nth0 ws k / 16777216 % 256]) := bytesOf_four ws k
    have HL : Hid ((bytesOf ws (4 * k)).length = 4 * k) := bytesOf_length _ _
    have hsz := hbel.size
    by_cases hlt : k < n
    · obtain ⟨WX, rfl⟩ : ∃ X, X = wr := ⟨_, rfl⟩
      obtain ⟨b, o, rfl, h2⟩ := hr k (by omega)
      have hc : WX.cell? ⟨b, o + k, none⟩ = some (.int .u32 (nth0 ws k)) := (hbel.cell (p := ⟨b, o + k, none⟩) (World.block_lt_of_cell? _ _ h2)).trans h2
      have hx : W32 (nth0 ws k) := h32 k
      generalize nth0 ws k = x at *
      generalize bytesOf ws (4 * k) = L at *
      obtain ⟨x0, x1⟩ := hx
      clear hr h2
      go_wp2
      refine wp_loop_rounds 5 ?_
      rw [rounds_succ]
      go_wp2_with (at_builtin; refine push_law .u8 22 5 1 Tryd.underlying22 infoY8 (by decide) rfl (.tmp 18) (.tmp 22) rfl w.heap.size w WX _ (L) _ rfl rfl hown hbel hsz (by have := HL.out; simp; omega) ?_; intro v0 w0 hown0 hbel0 _ _)
      have hown0' := own_last hown0 (y := x % 256) (by omega)
      have hsz0 := hbel0.size
      rw [rounds_succ]
      go_wp2_with (at_builtin; refine push_law .u8 22 5 1 Tryd.underlying22 infoY8 (by decide) rfl (.tmp 18) (.tmp 22) rfl w.heap.size w w0 _ (L ++ [x % 256]) _ rfl rfl hown0' hbel0 hsz0 (by have := HL.out; simp; omega) ?_; intro v1 w1 hown1 hbel1 _ _)
      have hown1' := own_last hown1 (y := x / 256 % 256) (by omega)
      have hsz1 := hbel1.size
      rw [rounds_succ]
      go_wp2_with (at_builtin; refine push_law .u8 22 5 1 Tryd.underlying22 infoY8 (by decide) rfl (.tmp 18) (.tmp 22) rfl w.heap.size w w1 _ (L ++ [x % 256] ++ [x / 256 % 256]) _ rfl rfl hown1' hbel1 hsz1 (by have := HL.out; simp; omega) ?_; intro v2 w2 hown2 hbel2 _ _)
      have hown2' := own_last hown2 (y := x / 65536 % 256) (by omega)
      have hsz2 := hbel2.size
      rw [rounds_succ]
      go_wp2_with (at_builtin; refine push_law .u8 22 5 1 Tryd.underlying22 infoY8 (by decide) rfl (.tmp 18) (.tmp 22) rfl w.heap.size w w2 _ (L ++ [x % 256] ++ [x / 256 % 256] ++ [x / 65536 % 256]) _ rfl rfl hown2' hbel2 hsz2 (by have := HL.out; simp; omega) ?_; intro v3 w3 hown3 hbel3 _ _)
      have hown3' := own_last hown3 (y := x / 16777216 % 256) (by omega)
      have hsz3 := hbel3.size
      rw [rounds_succ]
      go_wp2_with fail
      go_roundw
      case rel => exact ⟨k + 1, by omega, by go_num, by rw [HS.out]; exact hown3', hbel3⟩
      case measure => simp [intOf]; omega
    · clear hr
      go_wp2
      go_ret
      obtain rfl : k = n := by omega
      exact ⟨_, rfl, hown, hbel⟩
end Go.Proofs.YtlddfjpoaeebeaaDoor
namespace Go.Proofs.YtlddfjpoaeebeaaDoor
open Go.RowKit
set_option linter.unusedVariables false

/-- 'putLittle(out, value)': out lies in a row of bytes. -/
theorem putLittle32_any (g off n cap : Nat) (te : TypeId) (l : List Int) (x : Int) (w : World)
    (hg : w.heap[g]? = some (.cells (Iv .u8 l) te)) (hl : off + n ≤ l.length) (hn : n ≤ 4) (hx : 0 ≤ x) :
    Calls Tryd.prog 52 #[.slice (some ⟨g, off, none⟩) n cap, .int .u32 x] w fun e w' =>
      e = .returned (.tuple #[]) ∧ w' = w.setRow g (Iv .u8 (putFrom l off (fun i => x / 256 ^ i % 256) n)) := by
  go_enter Tryd.func52, Tryd.ntmps52
  go_wp2
  go_loopw [7] (fun i wr => ∃ k : Nat, k ≤ n ∧ i = .int .i64 k ∧ wr = w.setRow g (Iv .u8 (putFrom l off (fun i => x / 256 ^ i % 256) k))) (fun i _ => n - (intOf i).toNat)
  case atStart =>
    refine ⟨0, Nat.zero_le _, rfl, ?_⟩
    rw [putFrom_zero, setRow_self w g _ _ _ hg]
  case round =>
    obtain ⟨k, hk, rfl, rfl⟩ := hrel
    by_cases hlt : k < n
    · have ho : ∃ v, (w.setRow g (Iv .u8 (putFrom l off (fun i => x / 256 ^ i % 256) k))).cell? ⟨g, off + k, none⟩ = some v := by
        rw [cell_setRow_same _ _ _ _ _ _ _ hg]
        exact Iv_some _ _ _ (by rw [putFrom_length _ _ _ _ (by omega)]; omega)
      obtain ⟨v, hv⟩ := ho
      have hf : (w.setRow g (Iv .u8 (putFrom l off (fun i => x / 256 ^ i % 256) k))).frozen? ⟨g, off + k, none⟩ = false := by rw [frozen_setRow]; exact frozen_of_row _ _ _ _ _ hg
      go_wp2
      go_roundw
      case rel => exact ⟨k + 1, by omega, by go_num, by rw [setCell_setRow, Iv_set, pow8, putFrom_step l off (fun i => x / 256 ^ i % 256) k (by omega)]⟩
      case measure => simp [intOf]; omega
    · obtain rfl : k = n := by omega
      go_wp2
      go_end0
      exact ⟨rfl, rfl⟩

end Go.Proofs.YtlddfjpoaeebeaaDoor
/- An array of integers by value, indexed. Nothing of the program. -/
namespace Go.Proofs.YtlddfjpoaeebeaaDoor
open Go.RowKit
set_option linter.unusedVariables false

theorem index_ints {P : Program} (t e : TypeId) (n : Nat) (k : IntKind) (l : List Int) (i : Nat) (ht : P.underlying t = some (.array n e)) (he : P.underlying e = some (.int k)) (hs : (P.info? e).map (·.size) = some 1) (hl : l.length = n) (hi : i < n) (w : World) :
    (Instr.index t (.agg (Iv k l)) (.int .i64 (i : Int))).run P w = .ok (.int k (l.getD i 0)) w := by
  obtain ⟨inf, hinf, hsz⟩ : ∃ inf, P.info? e = some inf ∧ inf.size = 1 := by
    cases h : P.info? e with
    | none => rw [h] at hs; cases hs
    | some inf => rw [h] at hs; exact ⟨inf, rfl, by simpa using hs⟩
  have hc := Iv_get k l i (by omega)
  have hg : l.getD i 0 = l[i]'(by omega) := by simp [show i < l.length by omega]
  rw [hg]
  simp [Instr.index, run_underlying ht, asIntOf, go_sem, hi, part, isAgg, run_underlying he, sizeOf, typeInfo, hinf, hsz, hc]
end Go.Proofs.YtlddfjpoaeebeaaDoor
