import Derived.Test.YtgpjdbkdnojbhaaDoorRows
import Derived.Test.YtgpjdbkdnojbhaaDoorOwn3
import Derived.Test.YtgpjdbkdnojbhaaDoorCha
namespace Go.Proofs.YtgpjdbkdnojbhaaDoor
open Go.RowKit
set_option linter.unusedVariables false
theorem infoU32 : (Tryd.prog.info? 51).map (fun i => (i.zero, i.size, i.bytes)) = some (some (.int .u32 0), 1, 4) := by kernel_rfl
def wordsOf (zs : List Int) (n : Nat) : List Int := (List.range n).map (wordAt zs)
theorem wordsOf_succ (zs : List Int) (k : Nat) : wordsOf zs (k + 1) = wordsOf zs k ++ [wordAt zs k] := by simp [wordsOf, List.range_succ]
theorem wordsOf_length (zs : List Int) (k : Nat) : (wordsOf zs k).length = k := by simp [wordsOf]
theorem getD_past (zs : List Int) (i : Nat) (h : zs.length ≤ i) : zs.getD i 0 = 0 := by simp [List.getD_eq_getElem?_getD, List.getElem?_eq_none h]

set_option maxRecDepth 10000 in
set_option maxHeartbeats 4000000 in
theorem words_any (zs : List Int) (m n : Nat) (hm : zs.length = m) (hz : Bytes zs) (hn : n ≤ 1000) (hm2 : m ≤ 100000) (a : Option Addr) (cap : Nat) (w : World) (hr : RdK .u8 w a zs) :
    Calls Tryd.prog 75 #[.slice a m cap, .int .i64 n] w fun e w' => ∃ v, e = .returned v ∧ Own .u32 51 w.heap.size w' v (wordsOf zs n) ∧ Below w.heap.size w w' := by
  go_enter Tryd.func75, Tryd.ntmps75
  go_wp2
  go_loopw [5, 6] (fun v i wr => ∃ k : Nat, k ≤ n ∧ i = .int .i64 k ∧ Own .u32 51 w.heap.size wr v (wordsOf zs k) ∧ Below w.heap.size w wr) (fun _ i _ => n - (intOf i).toNat)
  case atStart =>
    exact ⟨0, Nat.zero_le _, rfl, Own.nil w (Nat.le_refl _), (Below.refl _ _).alloc (Nat.le_refl _) _⟩
  case round =>
    obtain ⟨k, hk, rfl, hown, hbel⟩ := hrel
    have HS : Hid (wordsOf zs (k + 1) = wordsOf zs k ++ [zs.getD (4 * k) 0 + 256 * zs.getD (4 * k + 1) 0 + 65536 * zs.getD (4 * k + 2) 0 + 16777216 * zs.getD (4 * k + 3) 0]) := wordsOf_succ zs k
    have HL : Hid ((wordsOf zs k).length ≤ 100000000) := by show _ ≤ _; rw [wordsOf_length]; omega
    have hsz := hbel.size
    by_cases hlt : k < n
    · obtain ⟨WX, rfl⟩ : ∃ X, X = wr := ⟨_, rfl⟩
      have hz0 := hz (4 * k)
      have hz1 := hz (4 * k + 1)
      have hz2 := hz (4 * k + 2)
      have hz3 := hz (4 * k + 3)
      have HC : Hid (∀ i, i < m → ∃ b o, a = some ⟨b, o, none⟩ ∧ WX.cell? ⟨b, o + i, none⟩ = some (.int .u8 (zs.getD i 0))) := by
        intro i hi
        obtain ⟨b, o, h1, h2⟩ := hr i (by omega)
        exact ⟨b, o, h1, (hbel.cell (p := ⟨b, o + i, none⟩) (World.block_lt_of_cell? _ _ h2)).trans h2⟩
      have HP : Hid (∀ i, m ≤ i → zs.getD i 0 = 0) := fun i hi => getD_past zs i (by omega)
      clear hr hz
      have hc : m ≤ 4 * k ∨ m = 4 * k + 1 ∨ m = 4 * k + 2 ∨ m = 4 * k + 3 ∨ 4 * k + 4 ≤ m := by omega
      rcases hc with hc | hc | hc | hc | hc
      · have p0 : Hid (zs.getD (4 * k) 0 = 0) := HP.out _ (by omega)
        have p1 : Hid (zs.getD (4 * k + 1) 0 = 0) := HP.out _ (by omega)
        have p2 : Hid (zs.getD (4 * k + 2) 0 = 0) := HP.out _ (by omega)
        have p3 : Hid (zs.getD (4 * k + 3) 0 = 0) := HP.out _ (by omega)
        have e : Hid (wordsOf zs (k + 1) = wordsOf zs k ++ [0]) := by show _ = _; rw [HS.out, p0.out, p1.out, p2.out, p3.out]; rfl
        clear HS HP HC p0 p1 p2 p3 hz0 hz1 hz2 hz3
        have h0 : ¬ ((4 : Int) * k < m) := by omega
        have h1 : ¬ ((4 : Int) * k + 1 < m) := by omega
        have h2 : ¬ ((4 : Int) * k + 2 < m) := by omega
        have h3 : ¬ ((4 : Int) * k + 3 < m) := by omega
        go_wp2
        refine wp_loop_rounds 5 ?_
        iterate 4 (rw [rounds_succ]; go_wp2)
        rw [rounds_succ]
        go_wp2_with (at_builtin; refine push_law .u32 87 51 4 Tryd.underlying87 infoU32 (by decide) rfl (.tmp 38) (.tmp 40) rfl w.heap.size w WX _ (wordsOf zs k) _ rfl rfl hown hbel hsz HL.out ?_; intro v' w' hown' hbel' _ _)
        go_roundw
        case rel => exact ⟨k + 1, by omega, by go_num, by rw [e.out]; exact hown', hbel'⟩
        case measure => simp [intOf]; omega
      · have hb : ∃ b o, a = some ⟨b, o, none⟩ := by obtain ⟨b, o, h1, _⟩ := HC.out (4 * k) (by omega); exact ⟨b, o, h1⟩
        obtain ⟨b, o, rfl⟩ := hb
        have d0 : WX.cell? ⟨b, o + 4 * k, none⟩ = some (.int .u8 (zs.getD (4 * k) 0)) := by obtain ⟨b', o', h1, h2⟩ := HC.out (4 * k) (by omega); simp only [Option.some.injEq, Addr.mk.injEq] at h1; obtain ⟨rfl, rfl, _⟩ := h1; exact h2
        have p1 : Hid (zs.getD (4 * k + 1) 0 = 0) := HP.out _ (by omega)
        have p2 : Hid (zs.getD (4 * k + 2) 0 = 0) := HP.out _ (by omega)
        have p3 : Hid (zs.getD (4 * k + 3) 0 = 0) := HP.out _ (by omega)
        generalize zs.getD (4 * k) 0 = z0 at *
        have e : Hid (wordsOf zs (k + 1) = wordsOf zs k ++ [z0]) := by show _ = _; rw [HS.out, p1.out, p2.out, p3.out]; congr 2; omega
        clear HS HP HC p1 p2 p3 hz1 hz2 hz3
        obtain ⟨x0, y0⟩ := hz0
        have h0 : (4 : Int) * k < m := by omega
        have h1 : ¬ ((4 : Int) * k + 1 < m) := by omega
        have h2 : ¬ ((4 : Int) * k + 2 < m) := by omega
        have h3 : ¬ ((4 : Int) * k + 3 < m) := by omega
        clear hc
        go_wp2
        refine wp_loop_rounds 5 ?_
        iterate 4 (rw [rounds_succ]; go_wp2)
        rw [rounds_succ]
        go_wp2_with (at_builtin; refine push_law .u32 87 51 4 Tryd.underlying87 infoU32 (by decide) rfl (.tmp 38) (.tmp 40) rfl w.heap.size w WX _ (wordsOf zs k) _ rfl rfl hown hbel hsz HL.out ?_; intro v' w' hown' hbel' _ _)
        go_roundw
        case rel =>
          refine ⟨k + 1, by omega, by go_num, ?_, hbel'⟩
          rw [e.out]
          exact own_last hown' (by omega)
        case measure => simp [intOf]; omega
      · have hb : ∃ b o, a = some ⟨b, o, none⟩ := by obtain ⟨b, o, h1, _⟩ := HC.out (4 * k) (by omega); exact ⟨b, o, h1⟩
        obtain ⟨b, o, rfl⟩ := hb
        have d0 : WX.cell? ⟨b, o + 4 * k, none⟩ = some (.int .u8 (zs.getD (4 * k) 0)) := by obtain ⟨b', o', h1, h2⟩ := HC.out (4 * k) (by omega); simp only [Option.some.injEq, Addr.mk.injEq] at h1; obtain ⟨rfl, rfl, _⟩ := h1; exact h2
        have d1 : WX.cell? ⟨b, o + (4 * k + 1), none⟩ = some (.int .u8 (zs.getD ((4 * k + 1)) 0)) := by obtain ⟨b', o', h1, h2⟩ := HC.out ((4 * k + 1)) (by omega); simp only [Option.some.injEq, Addr.mk.injEq] at h1; obtain ⟨rfl, rfl, _⟩ := h1; exact h2
        have p2 : Hid (zs.getD (4 * k + 2) 0 = 0) := HP.out _ (by omega)
        have p3 : Hid (zs.getD (4 * k + 3) 0 = 0) := HP.out _ (by omega)
        generalize zs.getD (4 * k) 0 = z0 at *
        generalize zs.getD (4 * k + 1) 0 = z1 at *
        have e : Hid (wordsOf zs (k + 1) = wordsOf zs k ++ [z0 + 256 * z1]) := by show _ = _; rw [HS.out, p2.out, p3.out]; congr 2; omega
        clear HS HP HC p2 p3 hz2 hz3
        obtain ⟨x0, y0⟩ := hz0
        obtain ⟨x1, y1⟩ := hz1
        have h0 : (4 : Int) * k < m := by omega
        have h1 : (4 : Int) * k + 1 < m := by omega
        have h2 : ¬ ((4 : Int) * k + 2 < m) := by omega
        have h3 : ¬ ((4 : Int) * k + 3 < m) := by omega
        clear hc
        go_wp2
        refine wp_loop_rounds 5 ?_
        iterate 4 (rw [rounds_succ]; go_wp2)
        rw [rounds_succ]
        go_wp2_with (at_builtin; refine push_law .u32 87 51 4 Tryd.underlying87 infoU32 (by decide) rfl (.tmp 38) (.tmp 40) rfl w.heap.size w WX _ (wordsOf zs k) _ rfl rfl hown hbel hsz HL.out ?_; intro v' w' hown' hbel' _ _)
        go_roundw
        case rel =>
          refine ⟨k + 1, by omega, by go_num, ?_, hbel'⟩
          rw [e.out]
          exact own_last hown' (by omega)
        case measure => simp [intOf]; omega
      · have hb : ∃ b o, a = some ⟨b, o, none⟩ := by obtain ⟨b, o, h1, _⟩ := HC.out (4 * k) (by omega); exact ⟨b, o, h1⟩
        obtain ⟨b, o, rfl⟩ := hb
        have d0 : WX.cell? ⟨b, o + 4 * k, none⟩ = some (.int .u8 (zs.getD (4 * k) 0)) := by obtain ⟨b', o', h1, h2⟩ := HC.out (4 * k) (by omega); simp only [Option.some.injEq, Addr.mk.injEq] at h1; obtain ⟨rfl, rfl, _⟩ := h1; exact h2
        have d1 : WX.cell? ⟨b, o + (4 * k + 1), none⟩ = some (.int .u8 (zs.getD ((4 * k + 1)) 0)) := by obtain ⟨b', o', h1, h2⟩ := HC.out ((4 * k + 1)) (by omega); simp only [Option.some.injEq, Addr.mk.injEq] at h1; obtain ⟨rfl, rfl, _⟩ := h1; exact h2
        have d2 : WX.cell? ⟨b, o + (4 * k + 2), none⟩ = some (.int .u8 (zs.getD ((4 * k + 2)) 0)) := by obtain ⟨b', o', h1, h2⟩ := HC.out ((4 * k + 2)) (by omega); simp only [Option.some.injEq, Addr.mk.injEq] at h1; obtain ⟨rfl, rfl, _⟩ := h1; exact h2
        have p3 : Hid (zs.getD (4 * k + 3) 0 = 0) := HP.out _ (by omega)
        generalize zs.getD (4 * k) 0 = z0 at *
        generalize zs.getD (4 * k + 1) 0 = z1 at *
        generalize zs.getD (4 * k + 2) 0 = z2 at *
        have e : Hid (wordsOf zs (k + 1) = wordsOf zs k ++ [z0 + 256 * z1 + 65536 * z2]) := by show _ = _; rw [HS.out, p3.out]; congr 2; omega
        clear HS HP HC p3 hz3
        obtain ⟨x0, y0⟩ := hz0
        obtain ⟨x1, y1⟩ := hz1
        obtain ⟨x2, y2⟩ := hz2
        have h0 : (4 : Int) * k < m := by omega
        have h1 : (4 : Int) * k + 1 < m := by omega
        have h2 : (4 : Int) * k + 2 < m := by omega
        have h3 : ¬ ((4 : Int) * k + 3 < m) := by omega
        clear hc
        go_wp2
        refine wp_loop_rounds 5 ?_
        iterate 4 (rw [rounds_succ]; go_wp2)
        rw [rounds_succ]
        go_wp2_with (at_builtin; refine push_law .u32 87 51 4 Tryd.underlying87 infoU32 (by decide) rfl (.tmp 38) (.tmp 40) rfl w.heap.size w WX _ (wordsOf zs k) _ rfl rfl hown hbel hsz HL.out ?_; intro v' w' hown' hbel' _ _)
        go_roundw
        case rel =>
          refine ⟨k + 1, by omega, by go_num, ?_, hbel'⟩
          rw [e.out]
          exact own_last hown' (by omega)
        case measure => simp [intOf]; omega
      · have hb : ∃ b o, a = some ⟨b, o, none⟩ := by obtain ⟨b, o, h1, _⟩ := HC.out (4 * k) (by omega); exact ⟨b, o, h1⟩
        obtain ⟨b, o, rfl⟩ := hb
        have d0 : WX.cell? ⟨b, o + 4 * k, none⟩ = some (.int .u8 (zs.getD (4 * k) 0)) := by obtain ⟨b', o', h1, h2⟩ := HC.out (4 * k) (by omega); simp only [Option.some.injEq, Addr.mk.injEq] at h1; obtain ⟨rfl, rfl, _⟩ := h1; exact h2
        have d1 : WX.cell? ⟨b, o + (4 * k + 1), none⟩ = some (.int .u8 (zs.getD ((4 * k + 1)) 0)) := by obtain ⟨b', o', h1, h2⟩ := HC.out ((4 * k + 1)) (by omega); simp only [Option.some.injEq, Addr.mk.injEq] at h1; obtain ⟨rfl, rfl, _⟩ := h1; exact h2
        have d2 : WX.cell? ⟨b, o + (4 * k + 2), none⟩ = some (.int .u8 (zs.getD ((4 * k + 2)) 0)) := by obtain ⟨b', o', h1, h2⟩ := HC.out ((4 * k + 2)) (by omega); simp only [Option.some.injEq, Addr.mk.injEq] at h1; obtain ⟨rfl, rfl, _⟩ := h1; exact h2
        have d3 : WX.cell? ⟨b, o + (4 * k + 3), none⟩ = some (.int .u8 (zs.getD ((4 * k + 3)) 0)) := by obtain ⟨b', o', h1, h2⟩ := HC.out ((4 * k + 3)) (by omega); simp only [Option.some.injEq, Addr.mk.injEq] at h1; obtain ⟨rfl, rfl, _⟩ := h1; exact h2
        generalize zs.getD (4 * k) 0 = z0 at *
        generalize zs.getD (4 * k + 1) 0 = z1 at *
        generalize zs.getD (4 * k + 2) 0 = z2 at *
        generalize zs.getD (4 * k + 3) 0 = z3 at *
        have e : Hid (wordsOf zs (k + 1) = wordsOf zs k ++ [z0 + 256 * z1 + 65536 * z2 + 16777216 * z3]) := HS.out
        clear HS HP HC  
        obtain ⟨x0, y0⟩ := hz0
        obtain ⟨x1, y1⟩ := hz1
        obtain ⟨x2, y2⟩ := hz2
        obtain ⟨x3, y3⟩ := hz3
        have h0 : (4 : Int) * k < m := by omega
        have h1 : (4 : Int) * k + 1 < m := by omega
        have h2 : (4 : Int) * k + 2 < m := by omega
        have h3 : (4 : Int) * k + 3 < m := by omega
        clear hc
        go_wp2
        refine wp_loop_rounds 5 ?_
        iterate 4 (rw [rounds_succ]; go_wp2)
        rw [rounds_succ]
        go_wp2_with (at_builtin; refine push_law .u32 87 51 4 Tryd.underlying87 infoU32 (by decide) rfl (.tmp 38) (.tmp 40) rfl w.heap.size w WX _ (wordsOf zs k) _ rfl rfl hown hbel hsz HL.out ?_; intro v' w' hown' hbel' _ _)
        go_roundw
        case rel =>
          refine ⟨k + 1, by omega, by go_num, ?_, hbel'⟩
          rw [e.out]
          exact own_last hown' (by omega)
        case measure => simp [intOf]; omega
    · go_wp2
      go_ret
      obtain rfl : k = n := by omega
      exact ⟨_, rfl, hown, hbel⟩
end Go.Proofs.YtgpjdbkdnojbhaaDoor
