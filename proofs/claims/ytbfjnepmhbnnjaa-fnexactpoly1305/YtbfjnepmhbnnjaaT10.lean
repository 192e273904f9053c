import Derived.Test.YtbfjnepmhbnnjaaT6
import Derived.Test.YtbfjnepmhbnnjaaT8
import Derived.Test.YtbfjnepmhbnnjaaTag
namespace Go.Proofs.Ytbfjnepmhbnnjaa
open Go.RowKit
set_option linter.unusedVariables false
theorem info50 : (Try.prog.info? 50).map (·.size) = some 5 := by kernel_rfl

set_option maxHeartbeats 4000000 in
theorem factor_any (l : List Int) (hl : l.length = 32) (hz : Bytes l) (w : World) :
    Calls Try.prog 12 #[.agg (Iv .u8 l)] w fun e w' => ∃ r0 r1 r2 r3 r4, e = .returned (.agg #[.int .u64 r0, .int .u64 r1, .int .u64 r2, .int .u64 r3, .int .u64 r4]) ∧ Limbs r0 r1 r2 r3 r4 ∧ V5 r0 r1 r2 r3 r4 = rNum l ∧ Below w.heap.size w w' := by
  have hinfo22 : (Try.prog.info? 22).map (·.size) = some 32 := by kernel_rfl
  go_enter Try.func12, Try.ntmps12
  go_wp2
  refine wp_region_head 2 mixed (by kernel_rfl) ?_
  simp only [List.take_succ_cons, List.take_zero, List.drop_succ_cons, List.drop_zero]
  repeat (go_big_quiet_step (fail))
  refine wpQuiet_nil ?_
  go_wp2_with fail
  refine (loadWords_at 16 (w.heap.size + 1 + 1) 0 5 5 50 [0, 0, 0, 0, 0] w.heap.size 0 32 (l.take 16) _ (by simp [hl]) ?_ (by decide) (by decide) (by omega) (bytes_take hz 16) (by decide) (by decide) ?_ (by decide) (by decide)).mono ?_
  · simp only [heap_drew, heapAt, World.size_alloc]
    simp
    rfl
  · intro i hi
    have := Iv_get .u8 l i (by omega)
    simp only [World.cell?_drew]
    rw [World.cell?_alloc_past _ _ _ (by simp <;> omega), World.cell?_alloc_past _ _ _ (by simp <;> omega), World.cell?_alloc_at _ _ _ _ rfl, Nat.zero_add, this, getD_take, if_pos hi]
    simp [show i < l.length by omega]
  rintro e w1 ⟨rfl, d, rfl⟩
  rw [setRow_drew, setRow_at _ _ _ _ _ (by simp), show Iv .u32 (putFrom [0, 0, 0, 0, 0] 0 (wordAt (l.take 16)) (min (16 / 4 + 1) 5)) = #[.int .u32 (wordAt (l.take 16) 0), .int .u32 (wordAt (l.take 16) 1), .int .u32 (wordAt (l.take 16) 2), .int .u32 (wordAt (l.take 16) 3), .int .u32 (wordAt (l.take 16) 4)] from rfl]
  rw [word_take l 16 0 (by decide), word_take l 16 1 (by decide), word_take l 16 2 (by decide), word_take l 16 3 (by decide), word_past (l.take 16) 4 (by rw [List.length_take]; omega)]
  obtain ⟨h0, g0⟩ := word_in hz 0
  obtain ⟨h1, g1⟩ := word_in hz 1
  obtain ⟨h2, g2⟩ := word_in hz 2
  obtain ⟨h3, g3⟩ := word_in hz 3
  have HR : Hid (rNum l = wordAt l 0 % 268435456 + 4294967296 * (4 * (wordAt l 1 / 4 % 67108864)) + 18446744073709551616 * (4 * (wordAt l 2 / 4 % 67108864)) + 79228162514264337593543950336 * (4 * (wordAt l 3 / 4 % 67108864))) := rfl
  generalize wordAt l 0 = x0 at *
  generalize wordAt l 1 = x1 at *
  generalize wordAt l 2 = x2 at *
  generalize wordAt l 3 = x3 at *
  have e0 := and28 x0 h0 g0
  have e1 := and28c x1 h1 g1
  have e2 := and28c x2 h2 g2
  have e3 := and28c x3 h3 g3
  clear hz
  go_wp2
  refine wp_loop_rounds 4 ?_
  iterate 3 (rw [rounds_succ]; go_wp2)
  rw [rounds_succ]; go_wp2_with fail
  refine (limbs_val _ _ _ _ _ _ (by omega) (by omega) (by omega) (by omega) (by omega) (by omega) (by omega) (by omega) (by omega) (by omega)).mono ?_
  rintro e w1 ⟨r0, r1, r2, r3, r4, rfl, ll, lv, hb⟩
  have hbW : Below (w.heap.size + 1 + 1) ((w.alloc (.cells (Iv .u8 l) 22)).alloc (.cells #[.int .u64 0, .int .u64 0, .int .u64 0, .int .u64 0, .int .u64 0] 36)) w1 :=
    (((((below_drews ((Below.refl _ _).alloc (by simp) _) (1 + d)).setCell (by simp) _).setCell (by simp) _).setCell (by simp) _).setCell (by simp) _).trans (hb.mono (by simp <;> omega))
  have hg : w1.heap[w.heap.size + 1]? = some (.cells #[.int .u64 0, .int .u64 0, .int .u64 0, .int .u64 0, .int .u64 0] 36) := by
    rw [hbW.block _ (by omega)]
    simp only [heapAt, World.size_alloc]
    simp
  have hbb : Below w.heap.size w w1 := (((Below.refl w.heap.size w).alloc (by simp) _).alloc (by simp) _).trans (hbW.mono (by omega))
  have hv := lv.trans (show _ = rNum l by rw [HR.out]; omega)
  clear hb hbW lv e0 e1 e2 e3
  have HV : Hid (V5 r0 r1 r2 r3 r4 = rNum l) := hv
  clear hv
  go_wp2_with (refine wpList_store_row rfl 36 _ _ rfl _ _ rfl rfl _ _ hg info36 rfl (one5 _ _ _ _ _ _) ?_)
  refine wpRet (cs := #[.int .u64 r0, .int .u64 r1, .int .u64 r2, .int .u64 r3, .int .u64 r4]) Try.results12 ?_ (setRow_heap _ _ _ _ _ _ hg) Try.underlying36 info36 ?_
  · rfl
  · exact ⟨_, _, _, _, _, rfl, ll, HV.out, below_setRow hbb _ (by omega) _⟩
end Go.Proofs.Ytbfjnepmhbnnjaa
