/- 'startHash(size, key)'. -/
import Derived.Test.YtgpjdbkdnojbhaaDoorBB
namespace Go.Proofs.YtgpjdbkdnojbhaaDoor
open Go.RowKit
set_option linter.unusedVariables false
/-- What a key makes of the first block. -/
def keyBlock (K : List Int) : List Int := if K.length = 0 then [] else K ++ List.replicate (64 - K.length) 0
theorem zeroB64 : ∀ W, (zeroValue 90).run Tryd.prog W = .ok (.agg (Iv .u8 (zeroL 64))) W := fun W => by kernel_rfl
theorem builtHS : Tryd.prog.built 92 [(0, .agg (Iv .u32 ivL))] = some (hsA ivL 0 (zeroL 64) 0) := by kernel_rfl
theorem wpList_build_to {P : Program} {ops : Array Oper} {rest : List Oper} {o : Oper} {a : Act} {w : World} {Q : Exit → Act → World → Prop} (hg : o.guard = none) (t : TypeId) (parts : Array (Nat × Operand)) (ho : o.op = .build t parts) (cs : Array Value)
    (hf : P.built t (parts.map fun (i, x) => (i, a.eval x)).toList = some cs) (h : wpList P ops Q rest (a.put o.dst (.agg cs)) w) : wpList P ops Q (o :: rest) a w :=
  wpList_build hg t parts ho (by rw [hf]; rfl) (by rw [hf]; exact h)
theorem Tabs.ivRange {w : World} (h : Tabs w) : w.rangeAt 0 0 (ivL.map (Value.int .u32)) := by
  intro j v hj
  have hj8 : j < 8 := by have := (List.getElem?_eq_some_iff.1 hj).1; simpa [ivL] using this
  rw [Nat.zero_add, h.iv j hj8, ← hj]
  simp [nth0, List.getD_eq_getElem?_getD, List.getElem?_eq_getElem (show j < ivL.length from hj8)]
set_option maxRecDepth 10000 in
set_option maxHeartbeats 1000000 in
theorem startHash_nil (n kl : Nat) (HK : Hid (kl = 0)) (hkl : kl ≤ 64) (hn : n ≤ 64) (a : Option Addr) (cap : Nat) (w : World) (ht : Tabs w) (bgl : List Int) (HBL : Hid (beginL n kl = bgl)) :
    Calls Tryd.prog 66 #[.int .i64 n, .slice a kl cap] w fun e w' => e = .returned (.agg (hsA bgl 0 (zeroL 64) 0)) ∧ Below w.heap.size w w' := by
  have hk0 : (0 < kl) = False := by have := HK.out; simp; omega
  have hzv := zeroHS
  have hzb := zeroB64
  have HT : Hid _ := ht
  clear ht
  have hiS : Hid (∀ (h' : List Int) (t' f' : Int) (b' : List Int), h'.length = 8 → b'.length = 64 → (Tryd.prog.info? 92).map (·.size) = some (hsA h' t' b' f').size) := fun h' t' f' b' hh' hb' => by rw [hsA_size h' t' b' f' hh' hb']; exact infoHS
  have HR : Hid ((w.alloc (.cells (hsA (zeroL 8) 0 (zeroL 64) 0) 92)).rangeAt 0 0 (ivL.map (Value.int .u32))) := (HT.out.later ((Below.refl w.heap.size w).alloc (Nat.le_refl _) _) (Nat.le_refl _)).ivRange
  obtain ⟨W, hW, g0, g1, hs, hBW⟩ := alloc2 w (.cells (hsA (zeroL 8) 0 (zeroL 64) 0) 92) (.cells (hsA (zeroL 8) 0 (zeroL 64) 0) 92)
  have G0 : Hid _ := g0
  have G1 : Hid _ := g1
  have HBW : Hid _ := hBW
  clear g0 g1 hBW
  go_enter Tryd.func66, Tryd.ntmps66
  go_wp2_with (first
    | refine wpList_load_mid rfl 84 _ rfl 0 0 rfl (ivL.map (Value.int .u32)) _ HR.out Tryd.underlying84 rfl infoBW8 ?_
    | refine wpList_build_to rfl 92 _ rfl (hsA ivL 0 (zeroL 64) 0) (by simp only [List.map_toArray, List.map_cons, List.map_nil]; exact builtHS) ?_
    | refine wpList_put_row rfl 92 _ _ rfl (w.heap.size + 1) (hsA ivL 0 (zeroL 64) 0) rfl rfl _ _ G1.out (hiS.out _ _ _ _ rfl rfl) rfl (hsA_one _ _ _ _) ?_)
  intro w1 hP1
  have R1 := hP1.here
  have R0 := (hP1.far w.heap.size (by omega)).trans G0.out
  have RB : Hid (Below w.heap.size w w1) := hP1.below _ _ HBW.out (by omega)
  have hs1 : w1.heap.size = w.heap.size + 1 + 1 := by rw [hP1.size]; exact hs
  clear hP1 G0 G1 HBW hW HR hs
  obtain ⟨k0, e0⟩ : ∃ x : Int, x = 1779033703 := ⟨_, rfl⟩
  have c0 : w1.cell? ⟨w.heap.size + 1, 0, none⟩ = some (.int .u32 k0) := by rw [e0, cell_of_row _ _ _ _ _ _ R1]; exact hsA_word ivL 0 (zeroL 64) 0 rfl 0 (by decide)
  have f0 : w1.frozen? ⟨w.heap.size + 1, 0, none⟩ = false := frozen_of_row _ _ _ _ _ R1
  have HBG : Hid (∀ x, x = xr k0 (xr (xr 16842752 ((kl : Int) * 256)) n) → hsA (ivL.set 0 x) 0 (zeroL 64) 0 = hsA (beginL n kl) 0 (zeroL 64) 0) := fun x hx => by
    rw [hx, e0]
    unfold beginL
    rw [Int.natCast_mul]
    rfl
  have hbl := beginL_length n kl
  have hb32 : Hid (All32 (beginL n kl)) := beginL_in n kl
  have HROW : Hid (∀ x, x = xr k0 (xr (xr 16842752 ((kl : Int) * 256)) n) → (w1.setCell ⟨w.heap.size + 1, 0, none⟩ (.int .u32 x)).heap[w.heap.size + 1]? = some (.cells (hsA (beginL n kl) 0 (zeroL 64) 0) 92)) := fun x hx => by
    rw [← HBG.out x hx, ← hsA_setWord ivL 0 (zeroL 64) 0 rfl 0 (by decide)]
    exact heap_setCell_same _ _ _ _ _ _ R1
  have HRES : Hid (∀ x, (w1.setCell ⟨w.heap.size + 1, 0, none⟩ (.int .u32 x)).heap[w.heap.size]? = some (.cells (hsA (zeroL 8) 0 (zeroL 64) 0) 92)) := fun x => (heap_setCell_other _ _ _ _ (by simp)).trans R0
  have HBEL : Hid (∀ x, Below w.heap.size w (w1.setCell ⟨w.heap.size + 1, 0, none⟩ (.int .u32 x))) := fun x => Below.setCell RB.out (by simp) _
  clear R0 R1 e0 HBG RB
  rw [HBL.out] at HROW hbl hb32
  clear HBL
  go_wp2_with (first
    | refine wpList_load_row rfl 92 _ rfl (w.heap.size + 1) rfl _ (hsA bgl 0 (zeroL 64) 0) _ _ (HROW.out _ rfl) Tryd.underlying92 rfl (hiS.out _ _ _ _ hbl rfl) ?_
    | refine wpList_put_row rfl 92 _ _ rfl w.heap.size (hsA bgl 0 (zeroL 64) 0) rfl rfl _ _ (HRES.out _) (hiS.out _ _ _ _ hbl rfl) ?hs (hsA_one _ _ _ _) ?_)
  case hs => rw [hsA_size _ _ _ _ hbl rfl]; rfl
  intro W9 hP9
  go_wp2
  exact bodyPost_ret (v := .agg (hsA bgl 0 (zeroL 64) 0)) (results_cell_row rfl _ _ _ _ (hsA bgl 0 (zeroL 64) 0) _ _ rfl hP9.here Tryd.underlying92 rfl (hiS.out _ _ _ _ hbl rfl)) rfl ⟨rfl, hP9.below _ _ (HBEL.out _) (Nat.le_refl _)⟩
end Go.Proofs.YtgpjdbkdnojbhaaDoor
